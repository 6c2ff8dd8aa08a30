/-
  Layer 3's calls of single spans: what each answers, whatever the input.
-/
import Derived.Test.YtcdgogcbijohcaaRows
import Derived.WalkKit
import Derived.ProofKit
import Derived.WalkSpells
import Derived.WalkLawsBesides
import Derived.Handy
namespace Go.Proofs.Ytcdgogcbijohcaa
open Go.RowKit

/-- The block of a span. -/
abbrev box (lo hi : Int) : Obj := .cells #[.int .u64 lo, .int .u64 hi] 33

theorem ret_bool {a b : Bool} (h : a = b) : Ending.returned (.bool a) = .returned (.bool b) := by rw [h]
theorem ret_int {k : IntKind} {a b : Int} (h : a = b) : Ending.returned (.int k a) = .returned (.int k b) := by rw [h]

set_option maxHeartbeats 400000 in
theorem empty_any (lo hi : Int) (w : World) : Calls Try.prog 27 #[.agg #[.int .u64 lo, .int .u64 hi]] w fun e w' => e = .returned (.bool (decide (hi ≤ lo))) ∧ w' = w.alloc (box lo hi) := by
  go_enter Try.func27, Try.ntmps27
  go_wp2
  go_ret
  exact ⟨rfl, rfl⟩

set_option maxHeartbeats 400000 in
theorem has_any (lo hi at_ : Int) (w : World) : Calls Try.prog 19 #[.agg #[.int .u64 lo, .int .u64 hi], .int .u64 at_] w fun e w' => e = .returned (.bool (decide (lo ≤ at_) && decide (at_ < hi))) ∧ w' = w.alloc (box lo hi) := by
  by_cases h : lo ≤ at_
  all_goals
    go_enter Try.func19, Try.ntmps19
    go_wp2
    go_ret
    exact ⟨ret_bool (by simp [h] <;> omega), rfl⟩

set_option maxHeartbeats 400000 in
theorem meets_any (lo hi lo2 hi2 : Int) (w : World) : Calls Try.prog 20 #[.agg #[.int .u64 lo, .int .u64 hi], .agg #[.int .u64 lo2, .int .u64 hi2]] w fun e w' => e = .returned (.bool (decide (max lo lo2 < min hi hi2))) ∧ w' = (w.alloc (box lo hi)).alloc (box lo2 hi2) := by
  by_cases h1 : lo2 ≤ lo
  all_goals by_cases h2 : hi ≤ hi2
  all_goals
    go_enter Try.func20, Try.ntmps20
    go_wp2
    go_ret
    refine ⟨ret_bool ?_, rfl⟩
    apply decide_eq_decide.2
    omega

set_option maxHeartbeats 400000 in
theorem within_any (lo hi lo2 hi2 : Int) (w : World) : Calls Try.prog 21 #[.agg #[.int .u64 lo, .int .u64 hi], .agg #[.int .u64 lo2, .int .u64 hi2]] w fun e w' => e = .returned (.bool (decide (hi ≤ lo) || (decide (lo2 ≤ lo) && decide (hi ≤ hi2)))) ∧ w' = ((w.alloc (box lo hi)).alloc (box lo2 hi2)).alloc (box lo hi) := by
  by_cases h1 : hi ≤ lo
  all_goals by_cases h2 : lo2 ≤ lo
  all_goals
    go_enter Try.func21, Try.ntmps21
    go_wp2_with (go_at_call 27; refine (empty_any _ _ _).mono ?_; rintro e w' ⟨rfl, rfl⟩)
    go_ret
    exact ⟨ret_bool (by simp [h1, h2] <;> omega), rfl⟩

set_option maxHeartbeats 400000 in
theorem len_any (lo hi : Int) (w : World) (h0 : 0 ≤ lo) (h1 : hi < 18446744073709551616) : Calls Try.prog 18 #[.agg #[.int .u64 lo, .int .u64 hi]] w fun e w' => e = .returned (.int .u64 (if hi ≤ lo then 0 else hi - lo)) ∧ w' = (w.alloc (box lo hi)).alloc (box lo hi) := by
  by_cases h : hi ≤ lo
  · go_enter Try.func18, Try.ntmps18
    go_wp2_with (go_at_call 27; refine (empty_any _ _ _).mono ?_; rintro e w' ⟨rfl, rfl⟩)
    go_ret
    exact ⟨rfl, rfl⟩
  · go_enter Try.func18, Try.ntmps18
    go_wp2_with (go_at_call 27; refine (empty_any _ _ _).mono ?_; rintro e w' ⟨rfl, rfl⟩)
    go_ret
    exact ⟨rfl, rfl⟩

/-- The first multiple of an alignment from an address on. -/
def upTo (at_ al : Int) : Int := if at_ % al = 0 then at_ else at_ + (al - at_ % al)

theorem u64_wrap_sub (x : Int) : IntKind.u64.wrap (x - 18446744073709551616) = IntKind.u64.wrap x := by
  rw [IntKind.wrap_u64, IntKind.wrap_u64]
  omega

set_option maxHeartbeats 400000 in
theorem aligned_any (at_ al : Int) (w : World) (h0 : 0 ≤ at_) (h1 : at_ < 18446744073709551616) (h2 : 0 < al) (h3 : al < 18446744073709551616) :
    Calls Try.prog 30 #[.int .u64 at_, .int .u64 al] w fun e w' => (∃ a b, e = .returned (.tuple #[.int .u64 a, .bool b]) ∧ 0 ≤ a ∧ a < 18446744073709551616 ∧ b = decide (upTo at_ al < 18446744073709551616) ∧ (b = true → a = upTo at_ al)) ∧ w' = w := by
  have hm0 := Int.emod_nonneg at_ (show al ≠ 0 by omega)
  have hm1 := Int.emod_lt_of_pos at_ h2
  have hal : ¬ al = 0 := by omega
  have htm : Int.tmod at_ al = at_ % al := Int.tmod_eq_emod_of_nonneg h0
  obtain ⟨r, hr⟩ : ∃ r, at_ % al = r := ⟨_, rfl⟩
  have HU : Hid (upTo at_ al = if r = 0 then at_ else at_ + (al - r)) := by show _ = _; unfold upTo; rw [hr]
  rw [hr] at hm0 hm1 htm
  clear hr
  by_cases h : r = 0
  · go_enter Try.func30, Try.ntmps30
    go_wp2
    go_ret2
    have HU := HU.out
    rw [if_pos h] at HU
    exact ⟨⟨at_, true, rfl, h0, h1, by simp [HU, h1], fun _ => HU.symm⟩, rfl⟩
  · go_enter Try.func30, Try.ntmps30
    go_wp2
    go_ret2
    have HU := HU.out
    rw [if_neg h] at HU
    by_cases ho : at_ + (al - r) < 18446744073709551616
    · have hw : IntKind.u64.wrap (at_ + (al - r)) = at_ + (al - r) := IntWalk.u64_in _ ⟨by omega, by omega⟩
      rw [hw]
      exact ⟨⟨_, _, rfl, by omega, ho, by rw [HU]; apply decide_eq_decide.2; omega, fun _ => HU.symm⟩, rfl⟩
    · have hw : IntKind.u64.wrap (at_ + (al - r)) = at_ + (al - r) - 18446744073709551616 := by
        rw [← u64_wrap_sub, IntWalk.u64_in _ ⟨by omega, by omega⟩]
      rw [hw]
      refine ⟨⟨_, _, rfl, by omega, by omega, by rw [HU]; apply decide_eq_decide.2; omega, fun hb => ?_⟩, rfl⟩
      have := of_decide_eq_true hb
      omega
end Go.Proofs.Ytcdgogcbijohcaa
