/-
  Layer 11: the document's Put.
-/
import Derived.Test.YtackjpmpkklgiaaP1
namespace Go.Proofs.Ytackjpmpkklgiaa
open Go.RowKit
set_option linter.unusedVariables false

theorem below_ad (W : World) (o : Obj) : Below W.drew.heap.size W.drew (W.alloc o).drew := by
  have h : Below W.drew.heap.size W.drew (W.drew.alloc o) := (Below.refl _ _).alloc (Nat.le_refl _) _
  exact h
theorem cv_intro_next {G : Prop} {W w2 : World} {B : Nat} {p q : Int} (hb : Below W.heap.size W w2) (h0 : W.cell? ⟨B, 0, none⟩ = some (.int .u8 p)) (h1 : W.cell? ⟨B, 1, none⟩ = some (.int .u8 q)) (h : w2.cell? ⟨B, 0, none⟩ = some (.int .u8 p) → w2.cell? ⟨B, 1, none⟩ = some (.int .u8 q) → G) : G := h (cv_next hb h0 h1).1 (cv_next hb h0 h1).2
theorem cv_intro_new {G : Prop} {X w2 : World} {p q : Int} (hb : Below (X.alloc (.cells #[.int .u8 p, .int .u8 q] 5)).heap.size (X.alloc (.cells #[.int .u8 p, .int .u8 q] 5)) w2) (h : w2.cell? ⟨X.heap.size, 0, none⟩ = some (.int .u8 p) → w2.cell? ⟨X.heap.size, 1, none⟩ = some (.int .u8 q) → G) : G := h (cv_new hb).1 (cv_new hb).2

theorem cv_intro_newd {G : Prop} {X w2 : World} {p q : Int} (hb : Below (X.alloc (.cells #[.int .u8 p, .int .u8 q] 5)).drew.heap.size (X.alloc (.cells #[.int .u8 p, .int .u8 q] 5)).drew w2) (h : w2.cell? ⟨X.heap.size, 0, none⟩ = some (.int .u8 p) → w2.cell? ⟨X.heap.size, 1, none⟩ = some (.int .u8 q) → G) : G := by
  have k := cv_next hb (B := X.heap.size) (p := p) (q := q) (by simp [go_sem]) (by simp [go_sem])
  exact h k.1 k.2

set_option maxRecDepth 100000 in
set_option maxHeartbeats 8000000 in
theorem refput_d (nm p1 p23 p4 p5 p6 : ByteArray) (b k v x z n : Nat) (dn : Int) (d : Bool) (w : World) (hb : b ≤ 2) (hk : k ≤ 15) (hv : v ≤ 3) (hx : x < 18446744073709551616) (hz : z < 18446744073709551616) (hn : n < 4294967296) (hdn : dn = if d then 1 else 0)
    (P1 : ∀ W, Calls Try.prog 31 #[.int .u64 (n : Int), .int .i64 4] W fun e w' => e = .returned (.string p1) ∧ Below W.heap.size W w')
    (P4 : ∀ W, Calls Try.prog 31 #[.int .u64 dn, .int .i64 2] W fun e w' => e = .returned (.string p4) ∧ Below W.heap.size W w')
    (P5 : ∀ W, Calls Try.prog 31 #[.int .u64 (x : Int), .int .i64 8] W fun e w' => e = .returned (.string p5) ∧ Below W.heap.size W w')
    (P6 : ∀ W, Calls Try.prog 31 #[.int .u64 (z : Int), .int .i64 8] W fun e w' => e = .returned (.string p6) ∧ Below W.heap.size W w')
    (h23 : p23 = ⟨#[UInt8.ofNat (16 * b + k), UInt8.ofNat v]⟩)
    (z1 : p1.size = 4) (z23 : p23.size = 2) (z4 : p4.size = 2) (z5 : p5.size = 8) (z6 : p6.size = 8) :
    Calls Try.prog 16 #[(⟨nm, (b : Int), (k : Int), (v : Int), d, (x : Int), (z : Int)⟩ : Sy).val, .int .u32 (n : Int)] w fun e w' => e = .returned (.string ((((p1 ++ p23) ++ p4) ++ p5) ++ p6)) ∧ Below w.heap.size w w' := by
  have e1 : (n : Int) = IntKind.u64.wrap (n : Int) := by rw [IntKind.wrap_u64]; omega
  have a1 : IntKind.i64.wrap (16 * (b : Int)) = 16 * (b : Int) := small64 _ (by omega) (by omega)
  have a2 : IntKind.i64.wrap (16 * (b : Int) + (k : Int)) = 16 * (b : Int) + (k : Int) := small64 _ (by omega) (by omega)
  have e2 : IntKind.u8.wrap (IntKind.i64.wrap (IntKind.i64.wrap (16 * (b : Int)) + (k : Int))) = ((16 * b + k : Nat) : Int) := by rw [a1, a2, IntKind.wrap_u8]; omega
  have e3 : IntKind.u8.wrap (v : Int) = (v : Int) := by rw [IntKind.wrap_u8]; omega
  have Q1 : ∀ W, Calls Try.prog 31 #[.int .u64 (IntKind.u64.wrap (n : Int)), .int .i64 4] W fun e w' => e = .returned (.string p1) ∧ Below W.heap.size W w' := by rw [← e1]; exact P1
  have CV : ∀ (B : Nat) (W : World), W.cell? ⟨B, 0, none⟩ = some (.int .u8 (IntKind.u8.wrap (IntKind.i64.wrap (IntKind.i64.wrap (16 * (b : Int)) + (k : Int))))) → W.cell? ⟨B, 1, none⟩ = some (.int .u8 (IntKind.u8.wrap (v : Int))) → (convert 58 9 (.slice (some ⟨B, 0, none⟩) 2 2)).run Try.prog W = .ok (.string p23) W := by
    intro B W h0 h1
    rw [e2] at h0
    rw [e3] at h1
    rw [h23]
    exact conv2 (16 * b + k) v (by omega) (by omega) B W h0 h1
  have R1 := Q1
  have R4 := P4
  have R5 := P5
  have R6 := P6
  clear e1 e2 e3 a1 a2 P1 h23 Q1 P4 P5 P6
  obtain ⟨w1, hw1⟩ : ∃ w1, w1 = w.alloc (.cells #[.string nm, .int .i64 (b : Int), .int .i64 (k : Int), .int .i64 (v : Int), .bool d, .int .u64 (x : Int), .int .u64 (z : Int)] 36) := ⟨_, rfl⟩
  have hS : w1.drew.cell? ⟨w.heap.size, 1, none⟩ = some (.int .i64 (b : Int)) ∧ w1.drew.cell? ⟨w.heap.size, 2, none⟩ = some (.int .i64 (k : Int)) ∧ w1.drew.cell? ⟨w.heap.size, 3, none⟩ = some (.int .i64 (v : Int)) ∧ w1.drew.cell? ⟨w.heap.size, 5, none⟩ = some (.int .u64 (x : Int)) ∧ w1.drew.cell? ⟨w.heap.size, 6, none⟩ = some (.int .u64 (z : Int)) ∧ Below w.heap.size w w1.drew := by
    rw [hw1]
    refine ⟨by simp [go_sem], by simp [go_sem], by simp [go_sem], by simp [go_sem], by simp [go_sem], ?_⟩
    exact ((Below.refl _ w).alloc (Nat.le_refl _) _).drew
  have HW : Hid (w1 = _) := hw1
  clear hw1
  cases d with
  | false =>
    obtain rfl : dn = 0 := by simpa using hdn
    clear hdn
    go_enter Try.func16, Try.ntmps16
    go_wp2
    rw [← HW.out]
    go_region_held (fun W => W.cell? ⟨w.heap.size, 1, none⟩ = some (.int .i64 (b : Int)) ∧ W.cell? ⟨w.heap.size, 2, none⟩ = some (.int .i64 (k : Int)) ∧ W.cell? ⟨w.heap.size, 3, none⟩ = some (.int .i64 (v : Int)) ∧ W.cell? ⟨w.heap.size, 5, none⟩ = some (.int .u64 (x : Int)) ∧ W.cell? ⟨w.heap.size, 6, none⟩ = some (.int .u64 (z : Int)) ∧ Below w.heap.size w W)
      (first | assumption | (apply put_next; assumption; assumption) | (apply put_next ((Below.refl _ _).alloc (Nat.le_refl _) _); assumption) | (apply put_next (below_ad _ _); assumption))
      (first
        | (go_at_call 31; with_reducible refine (R1 _).mono ?_; rintro e w2 ⟨rfl, hb2⟩; (first | (with_reducible refine cv_intro_new hb2 ?_; intro k0 k1) | (with_reducible refine cv_intro_newd hb2 ?_; intro k0 k1) | (with_reducible refine cv_intro_next hb2 (by assumption) (by assumption) ?_; intro k0 k1) | skip))
        | (go_at_call 31; with_reducible refine (R4 _).mono ?_; rintro e w2 ⟨rfl, hb2⟩; (first | (with_reducible refine cv_intro_new hb2 ?_; intro k0 k1) | (with_reducible refine cv_intro_newd hb2 ?_; intro k0 k1) | (with_reducible refine cv_intro_next hb2 (by assumption) (by assumption) ?_; intro k0 k1) | skip))
        | (go_at_call 31; with_reducible refine (R5 _).mono ?_; rintro e w2 ⟨rfl, hb2⟩; (first | (with_reducible refine cv_intro_new hb2 ?_; intro k0 k1) | (with_reducible refine cv_intro_newd hb2 ?_; intro k0 k1) | (with_reducible refine cv_intro_next hb2 (by assumption) (by assumption) ?_; intro k0 k1) | skip))
        | (go_at_call 31; with_reducible refine (R6 _).mono ?_; rintro e w2 ⟨rfl, hb2⟩; (first | (with_reducible refine cv_intro_new hb2 ?_; intro k0 k1) | (with_reducible refine cv_intro_newd hb2 ?_; intro k0 k1) | (with_reducible refine cv_intro_next hb2 (by assumption) (by assumption) ?_; intro k0 k1) | skip)))
    all_goals
      go_wp2
      go_ret
      rename_i hH
      exact ⟨rfl, hH.2.2.2.2.2⟩
  | true =>
    obtain rfl : dn = 1 := by simpa using hdn
    clear hdn
    go_enter Try.func16, Try.ntmps16
    go_wp2
    rw [← HW.out]
    go_region_held (fun W => W.cell? ⟨w.heap.size, 1, none⟩ = some (.int .i64 (b : Int)) ∧ W.cell? ⟨w.heap.size, 2, none⟩ = some (.int .i64 (k : Int)) ∧ W.cell? ⟨w.heap.size, 3, none⟩ = some (.int .i64 (v : Int)) ∧ W.cell? ⟨w.heap.size, 5, none⟩ = some (.int .u64 (x : Int)) ∧ W.cell? ⟨w.heap.size, 6, none⟩ = some (.int .u64 (z : Int)) ∧ Below w.heap.size w W)
      (first | assumption | (apply put_next; assumption; assumption) | (apply put_next ((Below.refl _ _).alloc (Nat.le_refl _) _); assumption) | (apply put_next (below_ad _ _); assumption))
      (first
        | (go_at_call 31; with_reducible refine (R1 _).mono ?_; rintro e w2 ⟨rfl, hb2⟩; (first | (with_reducible refine cv_intro_new hb2 ?_; intro k0 k1) | (with_reducible refine cv_intro_newd hb2 ?_; intro k0 k1) | (with_reducible refine cv_intro_next hb2 (by assumption) (by assumption) ?_; intro k0 k1) | skip))
        | (go_at_call 31; with_reducible refine (R4 _).mono ?_; rintro e w2 ⟨rfl, hb2⟩; (first | (with_reducible refine cv_intro_new hb2 ?_; intro k0 k1) | (with_reducible refine cv_intro_newd hb2 ?_; intro k0 k1) | (with_reducible refine cv_intro_next hb2 (by assumption) (by assumption) ?_; intro k0 k1) | skip))
        | (go_at_call 31; with_reducible refine (R5 _).mono ?_; rintro e w2 ⟨rfl, hb2⟩; (first | (with_reducible refine cv_intro_new hb2 ?_; intro k0 k1) | (with_reducible refine cv_intro_newd hb2 ?_; intro k0 k1) | (with_reducible refine cv_intro_next hb2 (by assumption) (by assumption) ?_; intro k0 k1) | skip))
        | (go_at_call 31; with_reducible refine (R6 _).mono ?_; rintro e w2 ⟨rfl, hb2⟩; (first | (with_reducible refine cv_intro_new hb2 ?_; intro k0 k1) | (with_reducible refine cv_intro_newd hb2 ?_; intro k0 k1) | (with_reducible refine cv_intro_next hb2 (by assumption) (by assumption) ?_; intro k0 k1) | skip)))
    all_goals
      go_wp2
      go_ret
      rename_i hH
      exact ⟨rfl, hH.2.2.2.2.2⟩
end Go.Proofs.Ytackjpmpkklgiaa
