/-
  Layer 11: Put of any symbol.
-/
import Derived.Test.YtackjpmpkklgiaaS3
namespace Go.Proofs.Ytackjpmpkklgiaa
open Go.RowKit
set_option linter.unusedVariables false

/-- A symbol's bytes. -/
def symB (b k v : Nat) (d : Bool) (x z n : Nat) : ByteArray :=
  (((((⟨(enc n 4).toArray⟩ ++ ⟨(enc (b * 16 + k) 1).toArray⟩ : ByteArray) ++ ⟨(enc v 1).toArray⟩) ++ ⟨(enc (if d then 1 else 0) 2).toArray⟩) ++ ⟨(enc x 8).toArray⟩) ++ ⟨(enc z 8).toArray⟩)

theorem encA_size (n k : Nat) : (⟨(enc n k).toArray⟩ : ByteArray).size = k := by
  show (enc n k).toArray.size = k
  simp [enc_length]

/-- What the region holds of the symbol's block. -/
theorem put_next {w W W' : World} {B : Nat} {v1 v2 v3 v5 v6 : Value} (hb : Below W.heap.size W W')
    (hS : W.cell? ⟨B, 1, none⟩ = some v1 ∧ W.cell? ⟨B, 2, none⟩ = some v2 ∧ W.cell? ⟨B, 3, none⟩ = some v3 ∧ W.cell? ⟨B, 5, none⟩ = some v5 ∧ W.cell? ⟨B, 6, none⟩ = some v6 ∧ Below w.heap.size w W) :
    W'.cell? ⟨B, 1, none⟩ = some v1 ∧ W'.cell? ⟨B, 2, none⟩ = some v2 ∧ W'.cell? ⟨B, 3, none⟩ = some v3 ∧ W'.cell? ⟨B, 5, none⟩ = some v5 ∧ W'.cell? ⟨B, 6, none⟩ = some v6 ∧ Below w.heap.size w W' := by
  obtain ⟨h1, h2, h3, h5, h6, h⟩ := hS
  have k : ∀ {j v}, W.cell? ⟨B, j, none⟩ = some v → W'.cell? ⟨B, j, none⟩ = some v := fun hc => (hb.cell (World.block_lt_of_cell? W _ hc)).trans hc
  exact ⟨k h1, k h2, k h3, k h5, k h6, h.trans (hb.mono h.size)⟩

theorem small64 (x : Int) (h0 : 0 ≤ x) (h1 : x < 65536) : IntKind.i64.wrap x = x := by rw [IntKind.wrap_i64]; omega
theorem smallu64 (x : Int) (h0 : 0 ≤ x) (h1 : x < 65536) : IntKind.u64.wrap x = x := by rw [IntKind.wrap_u64]; omega

set_option maxRecDepth 100000 in
set_option maxHeartbeats 4000000 in
theorem put_d (nm p1 p2 p3 p4 p5 p6 : ByteArray) (b k v x z n : Nat) (dn : Int) (d : Bool) (w : World) (hb : b ≤ 2) (hk : k ≤ 15) (hv : v ≤ 3) (hx : x < 18446744073709551616) (hz : z < 18446744073709551616) (hn : n < 4294967296) (hdn : dn = if d then 1 else 0)
    (P1 : ∀ W, Calls Try.prog 30 #[.int .u64 (n : Int), .int .i64 4] W fun e w' => e = .returned (.string p1) ∧ Below W.heap.size W w')
    (P2 : ∀ W, Calls Try.prog 30 #[.int .u64 ((b : Int) * 16 + (k : Int)), .int .i64 1] W fun e w' => e = .returned (.string p2) ∧ Below W.heap.size W w')
    (P3 : ∀ W, Calls Try.prog 30 #[.int .u64 (v : Int), .int .i64 1] W fun e w' => e = .returned (.string p3) ∧ Below W.heap.size W w')
    (P4 : ∀ W, Calls Try.prog 30 #[.int .u64 dn, .int .i64 2] W fun e w' => e = .returned (.string p4) ∧ Below W.heap.size W w')
    (P5 : ∀ W, Calls Try.prog 30 #[.int .u64 (x : Int), .int .i64 8] W fun e w' => e = .returned (.string p5) ∧ Below W.heap.size W w')
    (P6 : ∀ W, Calls Try.prog 30 #[.int .u64 (z : Int), .int .i64 8] W fun e w' => e = .returned (.string p6) ∧ Below W.heap.size W w')
    (z1 : p1.size = 4) (z2 : p2.size = 1) (z3 : p3.size = 1) (z4 : p4.size = 2) (z5 : p5.size = 8) (z6 : p6.size = 8) :
    Calls Try.prog 15 #[(⟨nm, (b : Int), (k : Int), (v : Int), d, (x : Int), (z : Int)⟩ : Sy).val, .int .u32 (n : Int)] w fun e w' => e = .returned (.string (((((p1 ++ p2) ++ p3) ++ p4) ++ p5) ++ p6)) ∧ Below w.heap.size w w' := by
  have HB : Hid (decide (0 ≤ (b : Int) ∧ (b : Int) ≤ 2) = true) := by show _ = _; simp; omega
  have hb2 : ¬ (b : Int) < 0 := by omega
  have hk1 : ¬ (k : Int) < 0 := by omega
  have hk2 : ¬ (16 : Int) ≤ (k : Int) := by omega
  have hv1 : ¬ (v : Int) < 0 := by omega
  have hv2 : ¬ (3 : Int) < (v : Int) := by omega
  have e1 : (n : Int) = IntKind.u64.wrap (n : Int) := by rw [IntKind.wrap_u64]; omega
  have e2 : (b : Int) * 16 + (k : Int) = IntKind.u64.wrap (IntKind.i64.wrap (IntKind.i64.wrap ((b : Int) * 16) + (k : Int))) := by
    have a1 : IntKind.i64.wrap ((b : Int) * 16) = (b : Int) * 16 := small64 _ (by omega) (by omega)
    rw [a1, small64 _ (by omega) (by omega), smallu64 _ (by omega) (by omega)]
  have e3 : (v : Int) = IntKind.u64.wrap (v : Int) := by rw [IntKind.wrap_u64]; omega
  have Q1 : ∀ W, Calls Try.prog 30 #[.int .u64 (IntKind.u64.wrap (n : Int)), .int .i64 4] W fun e w' => e = .returned (.string p1) ∧ Below W.heap.size W w' := by rw [← e1]; exact P1
  have Q2 : ∀ W, Calls Try.prog 30 #[.int .u64 (IntKind.u64.wrap (IntKind.i64.wrap (IntKind.i64.wrap ((b : Int) * 16) + (k : Int)))), .int .i64 1] W fun e w' => e = .returned (.string p2) ∧ Below W.heap.size W w' := by rw [← e2]; exact P2
  have Q3 : ∀ W, Calls Try.prog 30 #[.int .u64 (IntKind.u64.wrap (v : Int)), .int .i64 1] W fun e w' => e = .returned (.string p3) ∧ Below W.heap.size W w' := by rw [← e3]; exact P3
  clear e1 e2 e3 P1 P2 P3
  have hbk : (b : Int) * 16 + (k : Int) < 256 := by omega
  have hbk0 : 0 ≤ (b : Int) * 16 + (k : Int) := by omega
  obtain ⟨w1, hw1⟩ : ∃ w1, w1 = w.alloc (.cells #[.string nm, .int .i64 (b : Int), .int .i64 (k : Int), .int .i64 (v : Int), .bool d, .int .u64 (x : Int), .int .u64 (z : Int)] 35) := ⟨_, rfl⟩
  have hS : w1.drew.cell? ⟨w.heap.size, 1, none⟩ = some (.int .i64 (b : Int)) ∧ w1.drew.cell? ⟨w.heap.size, 2, none⟩ = some (.int .i64 (k : Int)) ∧ w1.drew.cell? ⟨w.heap.size, 3, none⟩ = some (.int .i64 (v : Int)) ∧ w1.drew.cell? ⟨w.heap.size, 5, none⟩ = some (.int .u64 (x : Int)) ∧ w1.drew.cell? ⟨w.heap.size, 6, none⟩ = some (.int .u64 (z : Int)) ∧ Below w.heap.size w w1.drew := by
    rw [hw1]
    refine ⟨by simp [go_sem], by simp [go_sem], by simp [go_sem], by simp [go_sem], by simp [go_sem], ?_⟩
    exact ((Below.refl _ w).alloc (Nat.le_refl _) _).drew
  have HW : Hid (w1 = _) := hw1
  clear hw1
  cases d with
  | false =>
    obtain rfl : dn = 0 := by simpa using hdn
    clear hdn
    go_enter Try.func15, Try.ntmps15
    go_wp2_with (go_at_call 29; refine (isBind_any _ _ _ HB).mono ?_; rintro r w' ⟨rfl, rfl⟩)
    rw [← HW.out]
    go_region_held3 (fun W => W.cell? ⟨w.heap.size, 1, none⟩ = some (.int .i64 (b : Int)) ∧ W.cell? ⟨w.heap.size, 2, none⟩ = some (.int .i64 (k : Int)) ∧ W.cell? ⟨w.heap.size, 3, none⟩ = some (.int .i64 (v : Int)) ∧ W.cell? ⟨w.heap.size, 5, none⟩ = some (.int .u64 (x : Int)) ∧ W.cell? ⟨w.heap.size, 6, none⟩ = some (.int .u64 (z : Int)) ∧ Below w.heap.size w W)
      (first | assumption | (apply put_next; assumption; assumption))
      (first
        | (go_at_call 30; with_reducible refine (Q1 _).mono ?_; rintro e w2 ⟨rfl, hb2⟩)
        | (go_at_call 30; with_reducible refine (Q2 _).mono ?_; rintro e w2 ⟨rfl, hb2⟩)
        | (go_at_call 30; with_reducible refine (Q3 _).mono ?_; rintro e w2 ⟨rfl, hb2⟩)
        | (go_at_call 30; with_reducible refine (P4 _).mono ?_; rintro e w2 ⟨rfl, hb2⟩)
        | (go_at_call 30; with_reducible refine (P5 _).mono ?_; rintro e w2 ⟨rfl, hb2⟩)
        | (go_at_call 30; with_reducible refine (P6 _).mono ?_; rintro e w2 ⟨rfl, hb2⟩))
    all_goals
      go_wp2
      go_ret
      rename_i hH
      exact ⟨rfl, hH.2.2.2.2.2⟩
  | true =>
    obtain rfl : dn = 1 := by simpa using hdn
    clear hdn
    go_enter Try.func15, Try.ntmps15
    go_wp2_with (go_at_call 29; refine (isBind_any _ _ _ HB).mono ?_; rintro r w' ⟨rfl, rfl⟩)
    rw [← HW.out]
    go_region_held3 (fun W => W.cell? ⟨w.heap.size, 1, none⟩ = some (.int .i64 (b : Int)) ∧ W.cell? ⟨w.heap.size, 2, none⟩ = some (.int .i64 (k : Int)) ∧ W.cell? ⟨w.heap.size, 3, none⟩ = some (.int .i64 (v : Int)) ∧ W.cell? ⟨w.heap.size, 5, none⟩ = some (.int .u64 (x : Int)) ∧ W.cell? ⟨w.heap.size, 6, none⟩ = some (.int .u64 (z : Int)) ∧ Below w.heap.size w W)
      (first | assumption | (apply put_next; assumption; assumption))
      (first
        | (go_at_call 30; with_reducible refine (Q1 _).mono ?_; rintro e w2 ⟨rfl, hb2⟩)
        | (go_at_call 30; with_reducible refine (Q2 _).mono ?_; rintro e w2 ⟨rfl, hb2⟩)
        | (go_at_call 30; with_reducible refine (Q3 _).mono ?_; rintro e w2 ⟨rfl, hb2⟩)
        | (go_at_call 30; with_reducible refine (P4 _).mono ?_; rintro e w2 ⟨rfl, hb2⟩)
        | (go_at_call 30; with_reducible refine (P5 _).mono ?_; rintro e w2 ⟨rfl, hb2⟩)
        | (go_at_call 30; with_reducible refine (P6 _).mono ?_; rintro e w2 ⟨rfl, hb2⟩))
    all_goals
      go_wp2
      go_ret
      rename_i hH
      exact ⟨rfl, hH.2.2.2.2.2⟩
end Go.Proofs.Ytackjpmpkklgiaa
