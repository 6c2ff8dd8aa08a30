/-
  Layer 5: the document's Minus, Abs, Low, Wide, Divide, High. No condition.
-/
import Derived.Test.YtmfmakkiefgogaaDoorB3
namespace Go.Proofs.YtmfmakkiefgogaaDoor
open Go.RowKit
set_option linter.unusedVariables false

def minus (a : Int) : Bool := decide (9223372036854775808 ≤ a)

set_option maxHeartbeats 400000 in
theorem minus_any (a : Int) (w : World) : Calls Tryd.prog 28 #[.int .u64 a] w fun e w' => e = .returned (.bool (minus a)) ∧ w' = w := by
  by_cases h : 9223372036854775808 ≤ a
  · have H : Hid (minus a = true) := decide_eq_true h
    go_enter Tryd.func28, Tryd.ntmps28
    go_wp2
    go_ret
    exact ⟨by rw [H.out]; simp, rfl⟩
  · have H : Hid (minus a = false) := decide_eq_false h
    go_enter Tryd.func28, Tryd.ntmps28
    go_wp2
    go_ret
    exact ⟨by rw [H.out]; simp, rfl⟩

def rabs (a : Int) : Int := if minus a then IntKind.u64.wrap (-a) else a
set_option maxHeartbeats 400000 in
theorem rabs_any (a : Int) (w : World) : Calls Tryd.prog 62 #[.int .u64 a] w fun e w' => e = .returned (.int .u64 (rabs a)) ∧ w' = w := by
  have MA := minus_any a w
  cases hm : minus a
  · have H : Hid (rabs a = a) := by show _ = _; simp [rabs, hm]
    rw [hm] at MA
    clear hm
    go_enter Tryd.func62, Tryd.ntmps62
    go_wp2_with (go_at_call 28; with_reducible refine MA.mono ?_; rintro e w' ⟨rfl, rfl⟩)
    go_ret
    exact ⟨ret_int H.out.symm, rfl⟩
  · have H : Hid (rabs a = IntKind.u64.wrap (-a)) := by show _ = _; simp [rabs, hm]
    rw [hm] at MA
    clear hm
    go_enter Tryd.func62, Tryd.ntmps62
    go_wp2_with (go_at_call 28; with_reducible refine MA.mono ?_; rintro e w' ⟨rfl, rfl⟩)
    go_ret
    refine ⟨ret_int ?_, rfl⟩
    rw [H.out]

set_option maxHeartbeats 400000 in
theorem low_any (a : Int) (ha0 : 0 ≤ a) (w : World) : Calls Tryd.prog 26 #[.int .u64 a] w fun e w' => e = .returned (.int .u64 (ext a 32)) ∧ w' = w := by
  by_cases h : 2147483648 ≤ a % 4294967296
  · have H : Hid (ext a 32 = _) := ext_is a
    go_enter Tryd.func26, Tryd.ntmps26
    go_wp2
    go_ret
    refine ⟨ret_int ?_, rfl⟩
    rw [H.out, if_neg (by omega)]
    rw [IntKind.wrap_u64]; omega
  · have H : Hid (ext a 32 = _) := ext_is a
    go_enter Tryd.func26, Tryd.ntmps26
    go_wp2
    go_ret
    refine ⟨ret_int ?_, rfl⟩
    rw [H.out, if_pos (by omega)]
    
set_option maxHeartbeats 400000 in
theorem yes_any (p : Bool) (w : World) :
    Calls Tryd.prog 49 #[.bool p] w fun e w' => e = .returned (.int .u64 (one p)) ∧ w' = w := by
  cases p
  all_goals
    go_enter Tryd.func49, Tryd.ntmps49
    go_wp2
    go_ret
    exact ⟨rfl, rfl⟩

set_option maxHeartbeats 800000 in
theorem wide_any (a b : Nat) (ha : a < 18446744073709551616) (hb : b < 18446744073709551616) (w : World) :
    Calls Tryd.prog 51 #[.int .u64 a, .int .u64 b] w fun e w' => e = .returned (.tuple #[.int .u64 (upr a b), .int .u64 (IntKind.u64.wrap ((a : Int) * b))]) ∧ w' = w := by
  obtain ⟨h1, h2, h3, h4, h5⟩ := wide_hi a b ha hb
  have hu : upr a b = ((a * b / 18446744073709551616 : Nat) : Int) := by unfold upr; rw [← Int.natCast_mul]; exact (Int.natCast_ediv (a * b) 18446744073709551616).symm
  have hM : a * b / 18446744073709551616 < 18446744073709551616 := by
    have hmm : a * b ≤ 18446744073709551615 * 18446744073709551615 := Nat.mul_le_mul (by omega) (by omega)
    omega
  obtain ⟨x, hx⟩ : ∃ x : Nat, x = a % 4294967296 * (b % 4294967296) := ⟨_, rfl⟩
  obtain ⟨y, hy⟩ : ∃ x : Nat, x = a / 4294967296 * (b % 4294967296) := ⟨_, rfl⟩
  obtain ⟨z, hz⟩ : ∃ x : Nat, x = a % 4294967296 * (b / 4294967296) := ⟨_, rfl⟩
  obtain ⟨v, hv⟩ : ∃ x : Nat, x = a / 4294967296 * (b / 4294967296) := ⟨_, rfl⟩
  have ex : IntKind.u64.wrap ((a : Int) % 4294967296 * ((b : Int) % 4294967296)) = (x : Int) := by
    have c := congrArg (fun n : Nat => (n : Int)) hx
    simp only [Int.natCast_mul] at c
    have hl : x < 18446744073709551616 := by rw [hx]; exact h1
    rw [IntKind.wrap_u64]
    refine Eq.trans (congrArg (· % 18446744073709551616) c.symm) ?_
    show (x : Int) % 18446744073709551616 = x
    omega
  have ey : IntKind.u64.wrap ((a : Int) / 4294967296 * ((b : Int) % 4294967296)) = (y : Int) := by
    have c := congrArg (fun n : Nat => (n : Int)) hy
    simp only [Int.natCast_mul] at c
    have hl : y < 18446744073709551616 := by rw [hy]; exact h2
    rw [IntKind.wrap_u64]
    refine Eq.trans (congrArg (· % 18446744073709551616) c.symm) ?_
    show (y : Int) % 18446744073709551616 = y
    omega
  have ez : IntKind.u64.wrap ((a : Int) % 4294967296 * ((b : Int) / 4294967296)) = (z : Int) := by
    have c := congrArg (fun n : Nat => (n : Int)) hz
    simp only [Int.natCast_mul] at c
    have hl : z < 18446744073709551616 := by rw [hz]; exact h3
    rw [IntKind.wrap_u64]
    refine Eq.trans (congrArg (· % 18446744073709551616) c.symm) ?_
    show (z : Int) % 18446744073709551616 = z
    omega
  have ev : IntKind.u64.wrap ((a : Int) / 4294967296 * ((b : Int) / 4294967296)) = (v : Int) := by
    have c := congrArg (fun n : Nat => (n : Int)) hv
    simp only [Int.natCast_mul] at c
    have hl : v < 18446744073709551616 := by rw [hv]; exact h4
    rw [IntKind.wrap_u64]
    refine Eq.trans (congrArg (· % 18446744073709551616) c.symm) ?_
    show (v : Int) % 18446744073709551616 = v
    omega
  have h5' : v + y / 4294967296 + z / 4294967296 + (x / 4294967296 + y % 4294967296 + z % 4294967296) / 4294967296 = a * b / 18446744073709551616 := by rw [hx, hy, hz, hv]; exact h5
  have h6 : v + y / 4294967296 + z / 4294967296 + (x / 4294967296 + y % 4294967296 + z % 4294967296) / 4294967296 < 18446744073709551616 := by rw [h5']; exact hM
  have H5 : Hid (v + y / 4294967296 + z / 4294967296 + (x / 4294967296 + y % 4294967296 + z % 4294967296) / 4294967296 = a * b / 18446744073709551616) := h5'
  have hxl : x < 18446744073709551616 := by rw [hx]; exact h1
  have hyl : y < 18446744073709551616 := by rw [hy]; exact h2
  have hzl : z < 18446744073709551616 := by rw [hz]; exact h3
  have hvl : v < 18446744073709551616 := by rw [hv]; exact h4
  rw [hu]
  clear h1 h2 h3 h4 h5 h5' hx hy hz hv hM hu
  go_enter Tryd.func51, Tryd.ntmps51
  go_wp2
  go_ret2
  refine ⟨?_, rfl⟩
  have e : ((v + y / 4294967296 + z / 4294967296 + (x / 4294967296 + y % 4294967296 + z % 4294967296) / 4294967296 : Nat) : Int) = (v : Int) + y / 4294967296 + z / 4294967296 + ((x : Int) / 4294967296 + y % 4294967296 + z % 4294967296) / 4294967296 := by omega
  rw [← H5.out, e]
  rfl
end Go.Proofs.YtmfmakkiefgogaaDoor
