/-
  Layer 6: the calls that make no memory: what each answers, whatever the input.
-/
import Derived.Test.YtmfmakkiefgogaaDoorILaid
import Derived.Test.YtmfmakkiefgogaaDoorIMath
import Derived.WalkKit
import Derived.ProofKit
import Derived.WalkSpells
import Derived.WalkLawsBesides
import Derived.Handy
import Derived.Lib.Strings
namespace Go.Proofs.YtmfmakkiefgogaaDoor
open Go.RowKit
set_option linter.unusedVariables false

theorem ret_int {k : IntKind} {a b : Int} (h : a = b) : Ending.returned (.int k a) = .returned (.int k b) := by rw [h]

set_option maxHeartbeats 400000 in
theorem ext_any (n b : Int) (w : World) :
    Calls Tryd.prog 39 #[.int .u64 n, .int .i64 b] w fun e w' => e = .returned (.int .u64 (ext n b)) ∧ w' = w := by
  by_cases h0 : 1 ≤ b
  · by_cases h1 : b ≤ 63
    · have H : Hid (_) := ext_shifts n b h0 h1
      go_enter Tryd.func39, Tryd.ntmps39
      go_wp2
      go_ret
      exact ⟨ret_int H.out, rfl⟩
    · have H : Hid (ext n b = n) := by unfold ext; rw [if_neg (by omega)]; exact rfl
      go_enter Tryd.func39, Tryd.ntmps39
      go_wp2
      go_ret
      exact ⟨ret_int H.out.symm, rfl⟩
  · have H : Hid (ext n b = n) := by unfold ext; rw [if_neg (by omega)]; exact rfl
    go_enter Tryd.func39, Tryd.ntmps39
    go_wp2
    go_ret
    exact ⟨ret_int H.out.symm, rfl⟩

set_option maxHeartbeats 400000 in
theorem isOne_yes (o : Int) (w : World) (h0 : 0 ≤ o) (h1 : o < 64) :
    Calls Tryd.prog 36 #[.int .i64 o] w fun e w' => e = .returned (.bool true) ∧ w' = w := by
  go_enter Tryd.func36, Tryd.ntmps36
  go_wp2
  go_ret
  exact ⟨by simp, rfl⟩
set_option maxHeartbeats 400000 in
theorem isOne_no (o : Int) (w : World) (h : o < 0 ∨ 64 ≤ o) :
    Calls Tryd.prog 36 #[.int .i64 o] w fun e w' => e = .returned (.bool false) ∧ w' = w := by
  by_cases h0 : 0 ≤ o
  · have h1 : ¬ o < 64 := by omega
    go_enter Tryd.func36, Tryd.ntmps36
    go_wp2
    go_ret
    exact ⟨by simp, rfl⟩
  · go_enter Tryd.func36, Tryd.ntmps36
    go_wp2
    go_ret
    exact ⟨rfl, rfl⟩

theorem idx33 (s : ByteArray) (c : Int) (w : World) : (callFunc 64 #[.string s, .int .u8 c]).run Tryd.prog w = .ok (.value (.int .i64 (Lib.indexByte s.data.toList c.toNat.toUInt8))) w := by
  rw [run_callFunc_extern Tryd.func64 (by kernel_rfl) (by kernel_rfl) (by kernel_rfl) (e := Extern.BytealgIndexByte.indexByte) (by kernel_rfl), Lib.run_indexByteString]
  rfl
set_option maxHeartbeats 400000 in
theorem idx32 (s : ByteArray) (c r : Int) (w : World) (hr : Hid (Lib.indexByte s.data.toList c.toNat.toUInt8 = r)) :
    Calls Tryd.prog 63 #[.string s, .int .u8 c] w fun e w' => e = .returned (.int .i64 r) ∧ w' = w := by
  have h33 : ∀ w, (callFunc 64 #[.string s, .int .u8 c]).run Tryd.prog w = .ok (.value (.int .i64 r)) w := fun w => by rw [idx33, hr.out]
  go_enter Tryd.func63, Tryd.ntmps63
  go_wp2
  go_ret
  exact ⟨rfl, rfl⟩
set_option maxHeartbeats 400000 in
theorem idx25 (s : ByteArray) (c r : Int) (w : World) (hr : Hid (Lib.indexByte s.data.toList c.toNat.toUInt8 = r)) :
    Calls Tryd.prog 56 #[.string s, .int .u8 c] w fun e w' => e = .returned (.int .i64 r) ∧ w' = w := by
  go_enter Tryd.func56, Tryd.ntmps56
  go_wp2_with (go_at_call 63; refine (idx32 s c r _ hr).mono ?_; rintro e w' ⟨rfl, hw⟩; subst hw)
  go_ret
  exact ⟨rfl, rfl⟩

set_option maxHeartbeats 400000 in
theorem reg_any (x a : Nat) (s : ByteArray) (c : Int) (w : World) (hx : x < 4294967296) (ha : a < 32) :
    Calls Tryd.prog 30 #[.int .u32 x, .int .i64 a, .string s, .int .u8 c] w fun e w' => e = .returned (.int .i64 (regOf x a s c)) ∧ w' = w := by
  obtain ⟨r, hr⟩ : ∃ r, Lib.indexByte s.data.toList c.toNat.toUInt8 = r := ⟨_, rfl⟩
  by_cases h : r < 0
  · have H : Hid (regOf x a s c = 0) := by show _ = _; unfold regOf has; rw [hr, decide_eq_false (by omega)]; rfl
    have HR : Hid (_) := hr
    clear hr
    go_enter Tryd.func30, Tryd.ntmps30
    go_wp2_with (go_at_call 56; refine (idx25 s c r _ HR).mono ?_; rintro e w' ⟨rfl, hw⟩; subst hw)
    go_ret
    exact ⟨ret_int H.out.symm, rfl⟩
  · have H : Hid (regOf x a s c = ((x / 2 ^ a % 32 : Nat) : Int)) := by show _ = _; unfold regOf has; rw [hr, decide_eq_true (by omega)]; rfl
    have HR : Hid (_) := hr
    clear hr
    go_enter Tryd.func30, Tryd.ntmps30
    go_wp2_with (go_at_call 56; refine (idx25 s c r _ HR).mono ?_; rintro e w' ⟨rfl, hw⟩; subst hw)
    go_ret
    refine ⟨ret_int ?_, rfl⟩
    rw [H.out]
    have e : (x : Int) / 2 ^ a = ((x / 2 ^ a : Nat) : Int) := by rw [Int.natCast_ediv, Int.natCast_pow]; rfl
    rw [e, and31 _ (Nat.lt_of_le_of_lt (Nat.div_le_self _ _) hx)]
    unfold wrap64; omega

set_option maxHeartbeats 400000 in
theorem regLaid_any (n : Int) (a : Nat) (s : ByteArray) (c : Int) (w : World) (ha : a ≤ 20) :
    Calls Tryd.prog 37 #[.int .i64 n, .int .i64 a, .string s, .int .u8 c] w fun e w' => e = .returned (.int .u32 (regLaid n a s c)) ∧ w' = w := by
  obtain ⟨r, hr⟩ : ∃ r, Lib.indexByte s.data.toList c.toNat.toUInt8 = r := ⟨_, rfl⟩
  by_cases h : r < 0
  · have H : Hid (regLaid n a s c = 0) := by show _ = _; unfold regLaid has; rw [hr, decide_eq_false (by omega)]; rfl
    have HR : Hid (_) := hr
    clear hr
    go_enter Tryd.func37, Tryd.ntmps37
    go_wp2_with (go_at_call 56; refine (idx25 s c r _ HR).mono ?_; rintro e w' ⟨rfl, hw⟩; subst hw)
    go_ret
    exact ⟨ret_int H.out.symm, rfl⟩
  · have H : Hid (regLaid n a s c = n % 32 * 2 ^ a) := by show _ = _; unfold regLaid has; rw [hr, decide_eq_true (by omega)]; rfl
    have HR : Hid (_) := hr
    clear hr
    go_enter Tryd.func37, Tryd.ntmps37
    go_wp2_with (go_at_call 56; refine (idx25 s c r _ HR).mono ?_; rintro e w' ⟨rfl, hw⟩; subst hw)
    go_ret
    refine ⟨ret_int ?_, rfl⟩
    rw [H.out]
    have e : n % 4294967296 = (((n % 4294967296).toNat : Nat) : Int) := by omega
    rw [e, and31 _ (by omega)]
    have e2 : (((n % 4294967296).toNat % 32 : Nat) : Int) = n % 32 := by omega
    rw [e2]
    have h1 : (2 : Nat) ^ a ≤ 2 ^ 20 := Nat.pow_le_pow_right (by omega) ha
    have e3 : (2 : Int) ^ a = ((2 ^ a : Nat) : Int) := by rw [Int.natCast_pow]; rfl
    rw [e3]
    clear e3
    generalize ((2 ^ a : Nat)) = P at *
    have h2 : n % 32 * (P : Int) ≤ 31 * (P : Int) := Int.mul_le_mul_of_nonneg_right (by omega) (by omega)
    have h3 : 0 ≤ n % 32 * (P : Int) := Int.mul_nonneg (by omega) (by omega)
    exact Int.emod_eq_of_lt h3 (by omega)

set_option maxHeartbeats 800000 in
theorem fixed_any (c : Int) (w : World) :
    Calls Tryd.prog 55 #[.int .u8 c] w fun e w' => e = .returned (.int .u32 ((maskOf c : Nat) : Int)) ∧ w' = w := by
  have hcase : c = 78 ∨ c = 82 ∨ c = 75 ∨ c = 72 ∨ c = 73 ∨ c = 66 ∨ c = 83 ∨ (c ≠ 78 ∧ c ≠ 82 ∧ c ≠ 75 ∧ c ≠ 72 ∧ c ≠ 73 ∧ c ≠ 66 ∧ c ≠ 83) := by omega
  rcases hcase with rfl | rfl | rfl | rfl | rfl | rfl | rfl | ⟨h1, h2, h3, h4, h5, h6, h7⟩
  all_goals
    try (have H : Hid (maskOf c = 127) := (by show _ = _; unfold maskOf; simp [h1, h2, h3, h4, h5, h6, h7]))
    go_enter Tryd.func55, Tryd.ntmps55
    go_wp2
    go_ret
    first
      | exact ⟨rfl, rfl⟩
      | exact ⟨ret_int (by rw [H.out]; rfl), rfl⟩

set_option maxHeartbeats 800000 in
theorem signed_any (c : Int) (w : World) :
    Calls Tryd.prog 59 #[.int .u8 c] w fun e w' => e = .returned (.int .i64 (signedOf c)) ∧ w' = w := by
  have hcase : c = 85 ∨ c = 74 ∨ c = 66 ∨ c = 73 ∨ c = 83 ∨ (c ≠ 85 ∧ c ≠ 74 ∧ c ≠ 66 ∧ c ≠ 73 ∧ c ≠ 83) := by omega
  rcases hcase with rfl | rfl | rfl | rfl | rfl | ⟨h1, h2, h3, h4, h5⟩
  all_goals
    try (have H : Hid (signedOf c = 0) := (by show _ = _; unfold signedOf; simp [h1, h2, h3, h4, h5]))
    go_enter Tryd.func59, Tryd.ntmps59
    go_wp2
    go_ret
    first
      | exact ⟨rfl, rfl⟩
      | exact ⟨ret_int H.out.symm, rfl⟩
end Go.Proofs.YtmfmakkiefgogaaDoor
