/-
  The calls of layer 5 that make no memory: what each answers, whatever the input.
-/
import Derived.Test.YtmfmakkiefgogaaDoorLaid
import Derived.Test.YtmfmakkiefgogaaDoorMath
import Derived.WalkKit
import Derived.ProofKit
import Derived.WalkSpells
import Derived.WalkLawsBesides
import Derived.Handy
import Derived.Shelf.Bits.Mul64
import Derived.Shelf.Lay
import Derived.Ground.NamesProg
namespace Go.Proofs
open Go.Shelf
def YtmfmakkiefgogaaDoor.lays264_ren : Go.Shelf.Ren := ⟨fun | 264 => 61 | n => n, fun | 53 => 22 | 46 => 35 | n => n, fun | n => n⟩
theorem YtmfmakkiefgogaaDoor.lays264 : Go.Proofs.Lays.n264 Tryd.prog YtmfmakkiefgogaaDoor.lays264_ren := {
  mixed := by kernel_rfl
  f264 := Tryd.func61.trans (congrArg some (by kernel_rfl))
  t46 := Tryd.underlying35
  a46 := Tryd.isAgg35
  z46 := Tryd.sizeOf35
  v46 := Tryd.zeroValue35
  t53 := Tryd.underlying22
  a53 := Tryd.isAgg22
  z53 := Tryd.sizeOf22
  v53 := Tryd.zeroValue22 }
end Go.Proofs
namespace Go.Proofs.YtmfmakkiefgogaaDoor
open Go.RowKit
set_option linter.unusedVariables false

theorem ret_int {k : IntKind} {a b : Int} (h : a = b) : Ending.returned (.int k a) = .returned (.int k b) := by rw [h]

theorem mul64_any (x y : Nat) (hx : x < 18446744073709551616) (hy : y < 18446744073709551616) (w : World) :
    Calls Tryd.prog 61 #[.int .u64 x, .int .u64 y] w fun e w' => e = .returned (.tuple #[.int .u64 ((x * y / 18446744073709551616 : Nat) : Int), .int .u64 ((x * y % 18446744073709551616 : Nat) : Int)]) ∧ w' = w := Any.bits_Mul64 lays264 x y hx hy w

set_option maxHeartbeats 400000 in
theorem upper_any (x y : Nat) (hx : x < 18446744073709551616) (hy : y < 18446744073709551616) (w : World) :
    Calls Tryd.prog 46 #[.int .u64 x, .int .u64 y] w fun e w' => e = .returned (.int .u64 (upr x y)) ∧ w' = w := by
  have hu : upr x y = ((x * y / 18446744073709551616 : Nat) : Int) := by unfold upr; rw [← Int.natCast_mul]; exact (Int.natCast_ediv (x * y) 18446744073709551616).symm
  rw [hu]
  go_enter Tryd.func46, Tryd.ntmps46
  go_wp2_with (go_at_call 61; refine (mul64_any x y hx hy _).mono ?_; rintro e w' ⟨rfl, rfl⟩)
  go_ret
  exact ⟨rfl, rfl⟩

set_option maxHeartbeats 400000 in
theorem ext_any (n b : Int) (w : World) :
    Calls Tryd.prog 39 #[.int .u64 n, .int .i64 b] w fun e w' => e = .returned (.int .u64 (ext n b)) ∧ w' = w := by
  by_cases h0 : 1 ≤ b
  · by_cases h1 : b ≤ 63
    · have H : Hid (_) := ext_shifts n b h0 h1
      go_enter Tryd.func39, Tryd.ntmps39
      go_wp2
      go_ret
      exact ⟨ret_int H.out, rfl⟩
    · have H : Hid (ext n b = n) := by unfold ext; rw [if_neg (by omega)]; exact rfl
      go_enter Tryd.func39, Tryd.ntmps39
      go_wp2
      go_ret
      exact ⟨ret_int H.out.symm, rfl⟩
  · have H : Hid (ext n b = n) := by unfold ext; rw [if_neg (by omega)]; exact rfl
    go_enter Tryd.func39, Tryd.ntmps39
    go_wp2
    go_ret
    exact ⟨ret_int H.out.symm, rfl⟩

set_option maxHeartbeats 400000 in
theorem extended_any (a : Int) (w : World) :
    Calls Tryd.prog 22 #[.int .u64 a] w fun e w' => e = .returned (.int .u64 (ext a 32)) ∧ w' = w := by
  go_enter Tryd.func22, Tryd.ntmps22
  go_wp2_with (go_at_call 39; refine (ext_any _ _ _).mono ?_; rintro e w' ⟨rfl, rfl⟩)
  go_ret
  exact ⟨rfl, rfl⟩

set_option maxHeartbeats 400000 in
theorem lowest_any (a : Int) (w : World) :
    Calls Tryd.prog 40 #[.int .u64 a] w fun e w' => e = .returned (.int .u64 (a % 4294967296)) ∧ w' = w := by
  go_enter Tryd.func40, Tryd.ntmps40
  go_wp2
  go_ret
  exact ⟨rfl, rfl⟩

set_option maxHeartbeats 400000 in
theorem oneIf_any (p : Bool) (w : World) :
    Calls Tryd.prog 45 #[.bool p] w fun e w' => e = .returned (.int .u64 (one p)) ∧ w' = w := by
  cases p
  all_goals
    go_enter Tryd.func45, Tryd.ntmps45
    go_wp2
    go_ret
    exact ⟨rfl, rfl⟩

set_option maxHeartbeats 400000 in
theorem ifn_any (a n : Int) (w : World) :
    Calls Tryd.prog 47 #[.int .u64 a, .int .u64 n] w fun e w' => e = .returned (.int .u64 (ifn a n)) ∧ w' = w := by
  by_cases h : wrap64 a < 0
  · have H : Hid (ifn a n = n) := if_pos h
    go_enter Tryd.func47, Tryd.ntmps47
    go_wp2
    go_ret
    exact ⟨ret_int H.out.symm, rfl⟩
  · have H : Hid (ifn a n = 0) := if_neg h
    go_enter Tryd.func47, Tryd.ntmps47
    go_wp2
    go_ret
    exact ⟨ret_int H.out.symm, rfl⟩

theorem sgn_ne (b : Int) (h0 : 0 ≤ b) (h1 : b < 18446744073709551616) (h : b ≠ 0) : wrap64 b ≠ 0 := by unfold wrap64; omega

set_option maxHeartbeats 400000 in
theorem qs_any (a b : Int) (ha0 : 0 ≤ a) (ha1 : a < 18446744073709551616) (hb0 : 0 ≤ b) (hb1 : b < 18446744073709551616) (w : World) :
    Calls Tryd.prog 41 #[.int .u64 a, .int .u64 b] w fun e w' => e = .returned (.int .u64 (qs a b)) ∧ w' = w := by
  by_cases h : b = 0
  · have H : Hid (qs a b = 18446744073709551615) := if_pos h
    subst h
    go_enter Tryd.func41, Tryd.ntmps41
    go_wp2
    go_ret
    exact ⟨ret_int H.out.symm, rfl⟩
  · have H : Hid (qs a b = _) := if_neg h
    have hs := sgn_ne b hb0 hb1 h
    go_enter Tryd.func41, Tryd.ntmps41
    go_wp2
    go_ret
    exact ⟨ret_int H.out.symm, rfl⟩

set_option maxHeartbeats 400000 in
theorem rs_any (a b : Int) (ha0 : 0 ≤ a) (ha1 : a < 18446744073709551616) (hb0 : 0 ≤ b) (hb1 : b < 18446744073709551616) (w : World) :
    Calls Tryd.prog 43 #[.int .u64 a, .int .u64 b] w fun e w' => e = .returned (.int .u64 (rs a b)) ∧ w' = w := by
  by_cases h : b = 0
  · have H : Hid (rs a b = a) := if_pos h
    subst h
    go_enter Tryd.func43, Tryd.ntmps43
    go_wp2
    go_ret
    exact ⟨ret_int H.out.symm, rfl⟩
  · have H : Hid (rs a b = _) := if_neg h
    have hs := sgn_ne b hb0 hb1 h
    go_enter Tryd.func43, Tryd.ntmps43
    go_wp2
    go_ret
    exact ⟨ret_int H.out.symm, rfl⟩

set_option maxHeartbeats 400000 in
theorem qu_any (a b : Int) (ha0 : 0 ≤ a) (ha1 : a < 18446744073709551616) (hb0 : 0 ≤ b) (hb1 : b < 18446744073709551616) (w : World) :
    Calls Tryd.prog 42 #[.int .u64 a, .int .u64 b] w fun e w' => e = .returned (.int .u64 (qu a b)) ∧ w' = w := by
  by_cases h : b = 0
  · have H : Hid (qu a b = 18446744073709551615) := if_pos h
    subst h
    go_enter Tryd.func42, Tryd.ntmps42
    go_wp2
    go_ret
    exact ⟨ret_int H.out.symm, rfl⟩
  · have H : Hid (qu a b = _) := if_neg h
    have hs := sgn_ne b hb0 hb1 h
    go_enter Tryd.func42, Tryd.ntmps42
    go_wp2
    go_ret
    exact ⟨ret_int H.out.symm, rfl⟩

set_option maxHeartbeats 400000 in
theorem ru_any (a b : Int) (ha0 : 0 ≤ a) (ha1 : a < 18446744073709551616) (hb0 : 0 ≤ b) (hb1 : b < 18446744073709551616) (w : World) :
    Calls Tryd.prog 44 #[.int .u64 a, .int .u64 b] w fun e w' => e = .returned (.int .u64 (ru a b)) ∧ w' = w := by
  by_cases h : b = 0
  · have H : Hid (ru a b = a) := if_pos h
    subst h
    go_enter Tryd.func44, Tryd.ntmps44
    go_wp2
    go_ret
    exact ⟨ret_int H.out.symm, rfl⟩
  · have H : Hid (ru a b = _) := if_neg h
    have hs := sgn_ne b hb0 hb1 h
    go_enter Tryd.func44, Tryd.ntmps44
    go_wp2
    go_ret
    exact ⟨ret_int H.out.symm, rfl⟩
end Go.Proofs.YtmfmakkiefgogaaDoor
