/-
  The statement SpanTwo: every call that it makes, and the whole walk.
-/
import Derived.Test.YtcdgogcbijohcaaTwo
namespace Go.Proofs.Ytcdgogcbijohcaa
open Go.RowKit

theorem has_g (lo hi at_ : Int) (v : Bool) (h : v = (decide (lo ≤ at_) && decide (at_ < hi))) (w : World) : Calls Try.prog 19 #[.agg #[.int .u64 lo, .int .u64 hi], .int .u64 at_] w fun e w' => e = .returned (.bool v) ∧ Gr w w' :=
  (has_any lo hi at_ w).mono fun _ _ k => ⟨by rw [h]; exact k.1, gr1 k.2⟩

theorem two_all (a0 a1 b0 b1 t : Int) (w : World) (ha0 : 0 ≤ a0) (ha1 : a1 < 18446744073709551616) (hb0 : 0 ≤ b0) (hb1 : b1 < 18446744073709551616) :
    Calls Try.prog 4 #[.agg #[.int .u64 a0, .int .u64 a1], .agg #[.int .u64 b0, .int .u64 b1], .int .u64 t] w fun e w' => e = .returned (.bool true) ∧ Below w.heap.size w w' := by
  refine two_walk a0 a1 b0 b1 t (if a1 ≤ a0 then 0 else a1 - a0) (decide (a0 ≤ t) && decide (t < a1)) (decide (b0 ≤ t) && decide (t < b1)) (decide (max a0 b0 < min a1 b1)) (decide (a1 ≤ a0) || (decide (b0 ≤ a0) && decide (a1 ≤ b1))) w rfl ha0 ha1 rfl ?_ ?_ ?_ rfl ?_ ?_ ?_ ?_ ?_
  · exact ⟨fun W => (len_any a0 a1 W ha0 ha1).mono fun _ _ k => ⟨k.1, gr2 k.2⟩, has_g _ _ _ _ rfl, has_g _ _ _ _ rfl, fun W => (meets_any a0 a1 b0 b1 W).mono fun _ _ k => ⟨k.1, gr2 k.2⟩,
      fun W => (meets_any b0 b1 a0 a1 W).mono fun _ _ k => ⟨by rw [k.1, Int.max_comm b0, Int.min_comm b1], gr2 k.2⟩, fun W => (within_any a0 a1 a0 a1 W).mono fun _ _ k => ⟨by rw [k.1]; simp, gr3 k.2⟩, fun W => (within_any a0 a1 b0 b1 W).mono fun _ _ k => ⟨k.1, gr3 k.2⟩⟩
  · intro h1 h2
    simp only [Bool.and_eq_true, decide_eq_true_eq] at h1 h2 ⊢
    omega
  · intro h1 h2
    simp only [Bool.and_eq_true, Bool.or_eq_true, decide_eq_true_eq] at h1 h2 ⊢
    omega
  all_goals intro h1
  all_goals simp only [decide_eq_true_eq] at h1
  · exact has_g _ _ _ _ (by symm; simp only [Bool.and_eq_true, decide_eq_true_eq]; omega)
  · exact has_g _ _ _ _ (by symm; simp only [Bool.and_eq_true, decide_eq_true_eq]; omega)
  · exact has_g _ _ _ _ (by symm; simp only [Bool.and_eq_true, decide_eq_true_eq]; omega)
  · exact has_g _ _ _ _ (by symm; simp only [Bool.and_eq_true, decide_eq_true_eq]; omega)
  · exact IntWalk.u64_in _ ⟨by omega, by omega⟩
end Go.Proofs.Ytcdgogcbijohcaa
