/-
  Layer 6: the document's Fits is the program's: has a word a kind's fixed numbers? No condition.
-/
import Derived.Test.YtmfmakkiefgogaaDoorIR2
import Derived.Test.YtmfmakkiefgogaaDoorIA4
import Derived.BigQuiet
namespace Go.Proofs.YtmfmakkiefgogaaDoor
open Go.RowKit
set_option linter.unusedVariables false

theorem and_field (x j k : Nat) : x &&& ((2 ^ j - 1) * 2 ^ k) = x / 2 ^ k % 2 ^ j * 2 ^ k := by
  apply Nat.eq_of_testBit_eq
  intro i
  rw [Nat.testBit_and, Nat.testBit_mul_two_pow, Nat.testBit_mul_two_pow, Nat.testBit_mod_two_pow, Nat.testBit_div_two_pow, Nat.testBit_two_pow_sub_one]
  by_cases h : k ≤ i
  · have e : i - k + k = i := by omega
    rw [e]
    simp [h, Bool.and_comm]
  · simp [h]
theorem m7 (x : Nat) : x &&& 127 = x % 128 := nat_mask7 x
theorem m10 (x : Nat) : x &&& 28799 = x % 128 + x / 4096 % 8 * 4096 := by
  have e : (28799 : Nat) = (7 * 4096) ||| 127 := by decide
  have e1 : x &&& 7 * 4096 = x / 4096 % 8 * 4096 := and_field x 3 12
  rw [e, Nat.and_or_distrib_left, e1, m7, nat_join 12 _ _ (by omega) (by omega)]
  omega
theorem m16 (x : Nat) : x &&& 4227887231 = x % 128 + x / 4096 % 8 * 4096 + x / 67108864 % 64 * 67108864 := by
  have e : (4227887231 : Nat) = (63 * 67108864) ||| 28799 := by decide
  have e1 : x &&& 63 * 67108864 = x / 67108864 % 64 * 67108864 := and_field x 6 26
  rw [e, Nat.and_or_distrib_left, e1, m10, nat_join 26 _ _ (by omega) (by omega)]
  omega
theorem m17 (x : Nat) : x &&& 4261441663 = x % 128 + x / 4096 % 8 * 4096 + x / 33554432 % 128 * 33554432 := by
  have e : (4261441663 : Nat) = (127 * 33554432) ||| 28799 := by decide
  have e1 : x &&& 127 * 33554432 = x / 33554432 % 128 * 33554432 := and_field x 7 25
  rw [e, Nat.and_or_distrib_left, e1, m10, nat_join 25 _ _ (by omega) (by omega)]
  omega
theorem m32 (x : Nat) (h : x < 4294967296) : x &&& 4294967295 = x := by
  have := Nat.and_two_pow_sub_one_eq_mod x 32
  have e : (4294967295 : Nat) = 2 ^ 32 - 1 := by decide
  rw [e, this]
  omega

/-- What Fits answers, by the form, the word's three fields and the kind's fixed numbers. -/
def fitN (c : Int) (A F G x : Nat) (op f3 f7 : Int) : Bool :=
  if c = 73 ∨ c = 66 ∨ c = 83 then decide ((A : Int) = op ∧ (F : Int) = f3) else if c = 82 ∨ c = 75 then decide ((A : Int) = op ∧ (F : Int) = f3 ∧ (G : Int) = f7)
  else if c = 72 then decide ((A : Int) = op ∧ (F : Int) = f3 ∧ (G : Int) / 2 = f7 / 2) else if c = 78 then decide ((A : Int) = op ∧ (x : Int) = op + 1048576 * f7) else decide ((A : Int) = op)
/-- The code of a kind, by its form and its fixed numbers. -/
def codeOf (c op f3 f7 : Int) : Int :=
  if c = 73 ∨ c = 66 ∨ c = 83 then op + 4096 * f3 else if c = 82 ∨ c = 75 then op + 4096 * f3 + 33554432 * f7 else if c = 72 then op + 4096 * f3 + 67108864 * (f7 / 2) else if c = 78 then op + 1048576 * f7 else op
theorem code_is : ∀ k, k < 64 → codeAt k = codeOf (formAt k) (kopL.getD k 0) (kf3L.getD k 0) (kf7L.getD k 0) ∧ 0 ≤ kopL.getD k 0 ∧ kopL.getD k 0 < 128 ∧ 0 ≤ kf3L.getD k 0 ∧ kf3L.getD k 0 < 8 ∧ 0 ≤ kf7L.getD k 0 ∧ kf7L.getD k 0 < 128 := by decide +kernel
theorem letters9 : ∀ k, k < 64 → formAt k = 85 ∨ formAt k = 74 ∨ formAt k = 73 ∨ formAt k = 66 ∨ formAt k = 83 ∨ formAt k = 72 ∨ formAt k = 75 ∨ formAt k = 82 ∨ formAt k = 78 := by decide +kernel

theorem fit_is (x k : Nat) (hx : x < 4294967296) (hk : k < 64) : fit x k = fitN (formAt k) (x / 2 ^ 0 % 2 ^ 7) (x / 2 ^ 12 % 2 ^ 3) (x / 2 ^ 25 % 2 ^ 7) x (kopL.getD k 0) (kf3L.getD k 0) (kf7L.getD k 0) := by
  obtain ⟨hc, h1, h2, h3, h4, h5, h6⟩ := code_is k hk
  unfold fit
  rw [hc]
  have hl := letters9 k hk
  generalize formAt k = c at *
  generalize kopL.getD k 0 = op at *
  generalize kf3L.getD k 0 = f3 at *
  generalize kf7L.getD k 0 = f7 at *
  clear hc
  have e0 : x / 2 ^ 0 % 2 ^ 7 = x % 128 := by simp
  have e1 : x / 2 ^ 12 % 2 ^ 3 = x / 4096 % 8 := rfl
  have e2 : x / 2 ^ 25 % 2 ^ 7 = x / 33554432 % 128 := rfl
  rw [e0, e1, e2, Bool.eq_iff_iff, beq_iff_eq]
  rcases hl with rfl | rfl | rfl | rfl | rfl | rfl | rfl | rfl | rfl
  · show ((x &&& 127 : Nat) : Int) = op ↔ decide (_) = true
    rw [m7, decide_eq_true_iff]
  · show ((x &&& 127 : Nat) : Int) = op ↔ decide (_) = true
    rw [m7, decide_eq_true_iff]
  · show ((x &&& 28799 : Nat) : Int) = op + 4096 * f3 ↔ decide (_) = true
    rw [m10, decide_eq_true_iff]; omega
  · show ((x &&& 28799 : Nat) : Int) = op + 4096 * f3 ↔ decide (_) = true
    rw [m10, decide_eq_true_iff]; omega
  · show ((x &&& 28799 : Nat) : Int) = op + 4096 * f3 ↔ decide (_) = true
    rw [m10, decide_eq_true_iff]; omega
  · show ((x &&& 4227887231 : Nat) : Int) = op + 4096 * f3 + 67108864 * (f7 / 2) ↔ decide (_) = true
    rw [m16, decide_eq_true_iff]; omega
  · show ((x &&& 4261441663 : Nat) : Int) = op + 4096 * f3 + 33554432 * f7 ↔ decide (_) = true
    rw [m17, decide_eq_true_iff]; omega
  · show ((x &&& 4261441663 : Nat) : Int) = op + 4096 * f3 + 33554432 * f7 ↔ decide (_) = true
    rw [m17, decide_eq_true_iff]; omega
  · show ((x &&& 4294967295 : Nat) : Int) = op + 1048576 * f7 ↔ decide (_) = true
    rw [m32 x hx, decide_eq_true_iff]; omega
end Go.Proofs.YtmfmakkiefgogaaDoor
