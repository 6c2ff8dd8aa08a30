/-
  Layer 15: the document's Put; the walk of RelaPuts.
-/
import Derived.Test.YtghbkjdjginfjaaV1
namespace Go.Proofs.Ytghbkjdjginfjaa
open Go.RowKit
set_option linter.unusedVariables false

set_option maxRecDepth 100000 in
set_option maxHeartbeats 4000000 in
theorem refput_d (p0 p1 p2 p3 : ByteArray) (a k s d : Nat) (w : World) (hk : k < 4294967296) (hs : s < 4294967296)
    (P0 : ∀ W, Calls Try.prog 14 #[.int .u64 (a : Int), .int .i64 8] W fun e w' => e = .returned (.string p0) ∧ Below W.heap.size W w')
    (P1 : ∀ W, Calls Try.prog 14 #[.int .u64 (k : Int), .int .i64 4] W fun e w' => e = .returned (.string p1) ∧ Below W.heap.size W w')
    (P2 : ∀ W, Calls Try.prog 14 #[.int .u64 (s : Int), .int .i64 4] W fun e w' => e = .returned (.string p2) ∧ Below W.heap.size W w')
    (P3 : ∀ W, Calls Try.prog 14 #[.int .u64 (d : Int), .int .i64 8] W fun e w' => e = .returned (.string p3) ∧ Below W.heap.size W w')
    (z0 : p0.size = 8) (z1 : p1.size = 4) (z2 : p2.size = 4) (z3 : p3.size = 8) :
    Calls Try.prog 8 #[rlv ((a : Int), (k : Int), (s : Int), (d : Int))] w fun e w' => e = .returned (.string (((p0 ++ p1) ++ p2) ++ p3)) ∧ Below w.heap.size w w' := by
  have e1 : IntKind.u64.wrap (k : Int) = (k : Int) := by rw [IntKind.wrap_u64]; omega
  have e2 : IntKind.u64.wrap (s : Int) = (s : Int) := by rw [IntKind.wrap_u64]; omega
  obtain ⟨w1, hw1⟩ : ∃ w1, w1 = w.alloc (.cells #[.int .u64 (a : Int), .int .i64 (k : Int), .int .i64 (s : Int), .int .u64 (d : Int)] 27) := ⟨_, rfl⟩
  have hS : w1.drew.cell? ⟨w.heap.size, 0, none⟩ = some (.int .u64 (a : Int)) ∧ w1.drew.cell? ⟨w.heap.size, 1, none⟩ = some (.int .i64 (k : Int)) ∧ w1.drew.cell? ⟨w.heap.size, 2, none⟩ = some (.int .i64 (s : Int)) ∧ w1.drew.cell? ⟨w.heap.size, 3, none⟩ = some (.int .u64 (d : Int)) ∧ Below w.heap.size w w1.drew := by
    rw [hw1]
    refine ⟨by simp [go_sem], by simp [go_sem], by simp [go_sem], by simp [go_sem], ?_⟩
    exact ((Below.refl _ w).alloc (Nat.le_refl _) _).drew
  have HW : Hid (w1 = _) := hw1
  clear hw1
  go_enter Try.func8, Try.ntmps8
  go_wp2
  rw [← HW.out]
  go_region_held3 (fun W => W.cell? ⟨w.heap.size, 0, none⟩ = some (.int .u64 (a : Int)) ∧ W.cell? ⟨w.heap.size, 1, none⟩ = some (.int .i64 (k : Int)) ∧ W.cell? ⟨w.heap.size, 2, none⟩ = some (.int .i64 (s : Int)) ∧ W.cell? ⟨w.heap.size, 3, none⟩ = some (.int .u64 (d : Int)) ∧ Below w.heap.size w W)
    (first | assumption | (apply put_next; assumption; assumption))
    (first
      | (go_at_call 14; with_reducible refine (P0 _).mono ?_; rintro e w2 ⟨rfl, hb2⟩)
      | (go_at_call 14; with_reducible refine (P1 _).mono ?_; rintro e w2 ⟨rfl, hb2⟩)
      | (go_at_call 14; with_reducible refine (P2 _).mono ?_; rintro e w2 ⟨rfl, hb2⟩)
      | (go_at_call 14; with_reducible refine (P3 _).mono ?_; rintro e w2 ⟨rfl, hb2⟩))
  all_goals
    go_wp2
    go_ret
    rename_i hH
    exact ⟨rfl, hH.2.2.2.2⟩
theorem refput_any (a k s d : Nat) (w : World) (ha : a < 18446744073709551616) (hk : k < 4294967296) (hs : s < 4294967296) (hd : d < 18446744073709551616) :
    Calls Try.prog 8 #[rlv ((a : Int), (k : Int), (s : Int), (d : Int))] w fun e w' => e = .returned (.string (relB a k s d)) ∧ Below w.heap.size w w' :=
  refput_d _ _ _ _ a k s d w hk hs (fun W => refput_yes a 8 W (by omega) (by omega) ha) (fun W => refput_yes k 4 W (by omega) (by omega) (by omega)) (fun W => refput_yes s 4 W (by omega) (by omega) (by omega)) (fun W => refput_yes d 8 W (by omega) (by omega) hd) (encA_size _ _) (encA_size _ _) (encA_size _ _) (encA_size _ _)

set_option maxRecDepth 100000 in
set_option maxHeartbeats 4000000 in
theorem puts_good (a k s d : Int) (t : ByteArray) (w : World) (hk0 : 0 ≤ k) (hk : k < 4294967296) (hs0 : 0 ≤ s) (hs : s < 4294967296)
    (D : ∀ W, Calls Try.prog 11 #[rlv (a, k, s, d)] W fun e w' => e = .returned (.string t) ∧ Below W.heap.size W w')
    (R : ∀ W, Calls Try.prog 8 #[rlv (a, k, s, d)] W fun e w' => e = .returned (.string t) ∧ Below W.heap.size W w') :
    Calls Try.prog 4 #[.agg #[.int .u64 a, .int .i64 k, .int .i64 s, .int .u64 d]] w fun e w' => e = .returned (.bool true) ∧ Below w.heap.size w w' := by
  have k0 : ¬ k < 0 := by omega
  have k1 : ¬ (4294967296 : Int) ≤ k := by omega
  have s0 : ¬ s < 0 := by omega
  have s1 : ¬ (4294967296 : Int) ≤ s := by omega
  have tq : (t.toList == t.toList) = true := beq_self_eq_true _
  go_enter Try.func4, Try.ntmps4
  go_wp2_with (first
    | (go_at_call 7; refine (speaks_any _).mono ?_; rintro e w1 ⟨rfl, hb1⟩; have F1 := (Four.new _ _ _ _ _ _).next hb1; obtain ⟨c0, c1, c2, c3⟩ := F1)
    | (go_at_call 11; refine (D _).mono ?_; rintro e w2 ⟨rfl, hb2⟩; have F2 := Four.next ⟨c0, c1, c2, c3⟩ hb2; obtain ⟨d0, d1, d2, d3⟩ := F2)
    | (go_at_call 8; refine (R _).mono ?_; rintro e w3 ⟨rfl, hb3⟩))
  go_ret
  exact ⟨rfl, bt (bt (bt ((Below.refl _ w).alloc (Nat.le_refl _) _) hb1) hb2) hb3⟩
set_option maxRecDepth 100000 in
set_option maxHeartbeats 4000000 in
theorem puts_bad (a k s d : Int) (w : World) (hk9 : k ≤ 9223372036854775807) (hs9 : s ≤ 9223372036854775807) (h : k < 0 ∨ 4294967296 ≤ k ∨ s < 0 ∨ 4294967296 ≤ s) :
    Calls Try.prog 4 #[.agg #[.int .u64 a, .int .i64 k, .int .i64 s, .int .u64 d]] w fun e w' => e = .returned (.bool true) ∧ Below w.heap.size w w' := by
  have D := fun W => put_none a k s d W hk9 hs9 h
  rcases (by omega : k < 0 ∨ (¬ k < 0 ∧ 4294967296 ≤ k) ∨ (¬ k < 0 ∧ ¬ 4294967296 ≤ k ∧ s < 0) ∨ (¬ k < 0 ∧ ¬ 4294967296 ≤ k ∧ ¬ s < 0 ∧ 4294967296 ≤ s)) with h1 | ⟨h1, h2⟩ | ⟨h1, h2, h3⟩ | ⟨h1, h2, h3, h4⟩
  all_goals
    clear h
    go_enter Try.func4, Try.ntmps4
    go_wp2_with (first
      | (go_at_call 7; refine (speaks_any _).mono ?_; rintro e w1 ⟨rfl, hb1⟩; have F1 := (Four.new _ _ _ _ _ _).next hb1; obtain ⟨c0, c1, c2, c3⟩ := F1)
      | (go_at_call 11; refine (D _).mono ?_; rintro e w2 ⟨rfl, hb2⟩; have F2 := Four.next ⟨c0, c1, c2, c3⟩ hb2; obtain ⟨d0, d1, d2, d3⟩ := F2))
    go_ret
    exact ⟨rfl, bt (bt ((Below.refl _ w).alloc (Nat.le_refl _) _) hb1) hb2⟩
end Go.Proofs.Ytghbkjdjginfjaa
