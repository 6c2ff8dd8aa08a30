/-
  Layer 6: what a word is decoded to goes into that word again: plain mathematics. No condition: lemmas.
-/
import Derived.Test.YtmfmakkiefgogaaDoorIR3
import Derived.Test.YtmfmakkiefgogaaDoorISpeaks
namespace Go.Proofs.YtmfmakkiefgogaaDoor
open Go.RowKit
set_option linter.unusedVariables false

/-- A field into a number whose bits there are 0. -/
theorem or_field (x y k m : Nat) (hx : x / 2 ^ k % 2 ^ m = 0) (hy : y < 2 ^ m) : x ||| y * 2 ^ k = x + y * 2 ^ k := by
  have e1 := Nat.div_add_mod x (2 ^ k)
  have e2 := Nat.div_add_mod (x / 2 ^ k) (2 ^ m)
  rw [hx, Nat.add_zero] at e2
  have hl : x % 2 ^ k < 2 ^ k := Nat.mod_lt _ (Nat.two_pow_pos k)
  generalize x / 2 ^ k / 2 ^ m = h at *
  rw [← e2] at e1
  generalize x % 2 ^ k = l at *
  have ep : 2 ^ (k + m) = 2 ^ k * 2 ^ m := Nat.pow_add 2 k m
  have hp1 : 0 < 2 ^ m := Nat.two_pow_pos m
  have hlk : 2 ^ k * 1 ≤ 2 ^ k * 2 ^ m := Nat.mul_le_mul_left _ hp1
  have hyk : y * 2 ^ k + l < 2 ^ (k + m) := by
    rw [ep]
    have h1 : (y + 1) * 2 ^ k ≤ 2 ^ m * 2 ^ k := Nat.mul_le_mul_right _ hy
    rw [Nat.add_mul, Nat.one_mul, Nat.mul_comm (2 ^ m)] at h1
    omega
  have hz : (h * 2 ^ (k + m)) % 2 ^ (k + m) = 0 := Nat.mul_mod_left _ _
  have hz2 : (y * 2 ^ k) % 2 ^ k = 0 := Nat.mul_mod_left _ _
  have j1 := nat_join (k + m) (h * 2 ^ (k + m)) l hz (by rw [ep]; omega)
  have j2 := nat_join k (y * 2 ^ k) l hz2 hl
  have j3 := nat_join (k + m) (h * 2 ^ (k + m)) (y * 2 ^ k + l) hz hyk
  have ex : x = h * 2 ^ (k + m) + l := by
    rw [← e1, ep]
    ac_rfl
  rw [ex, ← j1, Nat.or_assoc, Nat.or_comm l, j2, j3, j1]
  omega
end Go.Proofs.YtmfmakkiefgogaaDoor
