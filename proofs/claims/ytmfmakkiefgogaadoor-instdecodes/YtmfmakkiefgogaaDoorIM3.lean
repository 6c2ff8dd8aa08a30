/-
  Layer 6: what a word is decoded to goes into that word again: the forms B and J, and all of them. No condition: lemmas on numbers.
-/
import Derived.Test.YtmfmakkiefgogaaDoorIM2
namespace Go.Proofs.YtmfmakkiefgogaaDoor
open Go.RowKit
set_option linter.unusedVariables false

set_option maxRecDepth 100000 in
theorem laid_66 (x : Nat) : immLaid (immOf x 66) 66 = ((x / 2147483648 % 2 * 2147483648 ||| x / 128 % 2 * 128) ||| x / 33554432 % 64 * 33554432) ||| x / 256 % 16 * 256 := by
  rw [imm_66]
  have hp : piecesOf 66 = [⟨1, 31, 12⟩, ⟨1, 7, 11⟩, ⟨6, 25, 5⟩, ⟨4, 8, 1⟩] := rfl
  unfold immLaid
  rw [hp, lay4]
  unfold Piece.into sgnF
  simp only
  have h1 : x / 2 ^ 31 % 2 ^ 1 = x / 2147483648 % 2 := rfl
  have h2 : x / 2 ^ 7 % 2 ^ 1 = x / 128 % 2 := rfl
  have h3 : x / 2 ^ 25 % 2 ^ 6 = x / 33554432 % 64 := rfl
  have h4 : x / 2 ^ 8 % 2 ^ 4 = x / 256 % 16 := rfl
  have q1 : (2 : Nat) ^ 31 = 2147483648 := rfl
  have q2 : (2 : Nat) ^ 7 = 128 := rfl
  have q3 : (2 : Nat) ^ 25 = 33554432 := rfl
  have q4 : (2 : Nat) ^ 8 = 256 := rfl
  have q5 : (2 : Nat) ^ 13 = 8192 := rfl
  have q6 : (2 : Nat) ^ 12 = 4096 := rfl
  have q7 : (2 : Nat) ^ 11 = 2048 := rfl
  have q8 : (2 : Nat) ^ 5 = 32 := rfl
  have q9 : (2 : Nat) ^ 6 = 64 := rfl
  have qa : (2 : Nat) ^ 4 = 16 := rfl
  have qb : (2 : Nat) ^ 1 = 2 := rfl
  rw [h1, h2, h3, h4, q1, q2, q3, q4, q5, q6, q7, q8, q9, qa, qb]
  have hA : x / 2147483648 % 2 < 2 := Nat.mod_lt _ (by omega)
  have hB : x / 128 % 2 < 2 := Nat.mod_lt _ (by omega)
  have hC : x / 33554432 % 64 < 64 := Nat.mod_lt _ (by omega)
  have hD : x / 256 % 16 < 16 := Nat.mod_lt _ (by omega)
  clear h1 h2 h3 h4 q1 q2 q3 q4 q5 q6 q7 q8 q9 qa qb hp
  generalize x / 2147483648 % 2 = A at *
  generalize x / 128 % 2 = B at *
  generalize x / 33554432 % 64 = C at *
  generalize x / 256 % 16 = D at *
  have key : ∀ m : Nat, (m = 4096 * A + 2048 * B + 32 * C + 2 * D ∨ m = 4096 * A + 2048 * B + 32 * C + 2 * D + 4294967296 - 8192 ∧ 4096 ≤ 4096 * A + 2048 * B + 32 * C + 2 * D) → ((m / 4096 % 2 * 2147483648 % 4294967296 ||| m / 2048 % 2 * 128 % 4294967296) ||| m / 32 % 64 * 33554432 % 4294967296) ||| m / 2 % 16 * 256 % 4294967296 = ((A * 2147483648 ||| B * 128) ||| C * 33554432) ||| D * 256 := by
    intro m hm
    have k1 : m / 4096 % 2 * 2147483648 % 4294967296 = A * 2147483648 := by omega
    have k2 : m / 2048 % 2 * 128 % 4294967296 = B * 128 := by clear k1; omega
    have k3 : m / 32 % 64 * 33554432 % 4294967296 = C * 33554432 := by
      clear k1 k2
      have q : m / 32 % 64 = C := by omega
      rw [q]
      exact Nat.mod_eq_of_lt (by omega)
    have k4 : m / 2 % 16 * 256 % 4294967296 = D * 256 := by clear k1 k2 k3; omega
    rw [k1, k2, k3, k4]
  split
  · exact key _ (.inr ⟨by omega, by omega⟩)
  · exact key _ (.inl (by omega))

set_option maxRecDepth 100000 in
theorem laid_74 (x : Nat) : immLaid (immOf x 74) 74 = ((x / 2147483648 % 2 * 2147483648 ||| x / 4096 % 256 * 4096) ||| x / 1048576 % 2 * 1048576) ||| x / 2097152 % 1024 * 2097152 := by
  rw [imm_74]
  have hp : piecesOf 74 = [⟨1, 31, 20⟩, ⟨8, 12, 12⟩, ⟨1, 20, 11⟩, ⟨10, 21, 1⟩] := rfl
  unfold immLaid
  rw [hp, lay4]
  unfold Piece.into sgnF
  simp only
  have h1 : x / 2 ^ 31 % 2 ^ 1 = x / 2147483648 % 2 := rfl
  have h2 : x / 2 ^ 12 % 2 ^ 8 = x / 4096 % 256 := rfl
  have h3 : x / 2 ^ 20 % 2 ^ 1 = x / 1048576 % 2 := rfl
  have h4 : x / 2 ^ 21 % 2 ^ 10 = x / 2097152 % 1024 := rfl
  have q1 : (2 : Nat) ^ 31 = 2147483648 := rfl
  have q2 : (2 : Nat) ^ 12 = 4096 := rfl
  have q3 : (2 : Nat) ^ 20 = 1048576 := rfl
  have q4 : (2 : Nat) ^ 21 = 2097152 := rfl
  have q7 : (2 : Nat) ^ 11 = 2048 := rfl
  have q8 : (2 : Nat) ^ 8 = 256 := rfl
  have q9 : (2 : Nat) ^ 10 = 1024 := rfl
  have qb : (2 : Nat) ^ 1 = 2 := rfl
  rw [h1, h2, h3, h4, q1, q2, q3, q4, q7, q8, q9, qb]
  have hA : x / 2147483648 % 2 < 2 := Nat.mod_lt _ (by omega)
  have hB : x / 4096 % 256 < 256 := Nat.mod_lt _ (by omega)
  have hC : x / 1048576 % 2 < 2 := Nat.mod_lt _ (by omega)
  have hD : x / 2097152 % 1024 < 1024 := Nat.mod_lt _ (by omega)
  clear h1 h2 h3 h4 q1 q2 q3 q4 q7 q8 q9 qb hp
  generalize x / 2147483648 % 2 = A at *
  generalize x / 4096 % 256 = B at *
  generalize x / 1048576 % 2 = C at *
  generalize x / 2097152 % 1024 = D at *
  have key : ∀ m : Nat, (m = 1048576 * A + 4096 * B + 2048 * C + 2 * D ∨ m = 1048576 * A + 4096 * B + 2048 * C + 2 * D + 4294967296 - 2097152 ∧ 1048576 ≤ 1048576 * A + 4096 * B + 2048 * C + 2 * D) → ((m / 1048576 % 2 * 2147483648 % 4294967296 ||| m / 4096 % 256 * 4096 % 4294967296) ||| m / 2048 % 2 * 1048576 % 4294967296) ||| m / 2 % 1024 * 2097152 % 4294967296 = ((A * 2147483648 ||| B * 4096) ||| C * 1048576) ||| D * 2097152 := by
    intro m hm
    have k1 : m / 1048576 % 2 * 2147483648 % 4294967296 = A * 2147483648 := by omega
    have k2 : m / 4096 % 256 * 4096 % 4294967296 = B * 4096 := by
      clear k1
      have q : m / 4096 % 256 = B := by omega
      rw [q]
      exact Nat.mod_eq_of_lt (by omega)
    have k3 : m / 2048 % 2 * 1048576 % 4294967296 = C * 1048576 := by
      clear k1 k2
      have q : m / 2048 % 2 = C := by omega
      rw [q]
      exact Nat.mod_eq_of_lt (by omega)
    have k4 : m / 2 % 1024 * 2097152 % 4294967296 = D * 2097152 := by
      clear k1 k2 k3
      have q : m / 2 % 1024 = D := by omega
      rw [q]
      exact Nat.mod_eq_of_lt (by omega)
    rw [k1, k2, k3, k4]
  split
  · exact key _ (.inr ⟨by omega, by omega⟩)
  · exact key _ (.inl (by omega))

/-- Fields put back one by one. -/
theorem f7 (x y : Nat) (hx : x / 128 % 32 = 0) (hy : y < 32) : x ||| y * 128 = x + y * 128 := or_field x y 7 5 hx hy
theorem f15 (x y : Nat) (hx : x / 32768 % 32 = 0) (hy : y < 32) : x ||| y * 32768 = x + y * 32768 := or_field x y 15 5 hx hy
theorem f20 (x y : Nat) (hx : x / 1048576 % 32 = 0) (hy : y < 32) : x ||| y * 1048576 = x + y * 1048576 := or_field x y 20 5 hx hy
theorem f25 (x y : Nat) (hx : x / 33554432 % 128 = 0) (hy : y < 128) : x ||| y * 33554432 = x + y * 33554432 := or_field x y 25 7 hx hy
theorem f20w (x y : Nat) (hx : x / 1048576 % 4096 = 0) (hy : y < 4096) : x ||| y * 1048576 = x + y * 1048576 := or_field x y 20 12 hx hy
theorem f20h (x y : Nat) (hx : x / 1048576 % 64 = 0) (hy : y < 64) : x ||| y * 1048576 = x + y * 1048576 := or_field x y 20 6 hx hy
theorem f12w (x y : Nat) (hx : x / 4096 % 1048576 = 0) (hy : y < 1048576) : x ||| y * 4096 = x + y * 4096 := or_field x y 12 20 hx hy

/-- A word's six fields. -/
theorem fields6 (x : Nat) (hx : x < 4294967296) : ∃ a r f s u g : Nat, x = a + r * 128 + f * 4096 + s * 32768 + u * 1048576 + g * 33554432 ∧ a < 128 ∧ r < 32 ∧ f < 8 ∧ s < 32 ∧ u < 32 ∧ g < 128 ∧ x % 128 = a ∧ x / 128 % 32 = r ∧ x / 4096 % 8 = f ∧ x / 32768 % 32 = s ∧ x / 1048576 % 32 = u ∧ x / 33554432 % 128 = g :=
  ⟨x % 128, x / 128 % 32, x / 4096 % 8, x / 32768 % 32, x / 1048576 % 32, x / 33554432 % 128, by omega, by omega, by omega, by omega, by omega, by omega, by omega, rfl, rfl, rfl, rfl, rfl, rfl⟩
theorem back_85 (x : Nat) (hx : x < 4294967296) : (x % 128 ||| x / 128 % 32 * 128) ||| x / 4096 % 1048576 * 4096 = x := by
  rw [f7 _ _ (by omega) (by omega), f12w _ _ (by omega) (by omega)]; omega
theorem back_73 (x : Nat) (hx : x < 4294967296) : (((x % 128 + x / 4096 % 8 * 4096) ||| x / 128 % 32 * 128) ||| x / 32768 % 32 * 32768) ||| x / 1048576 % 4096 * 1048576 = x := by
  have e : x / 1048576 % 4096 = x / 1048576 % 32 + x / 33554432 % 128 * 32 := by omega
  rw [e]
  obtain ⟨a, r, f, s, u, g, h, h1, h2, h3, h4, h5, h6, e1, e2, e3, e4, e5, e6⟩ := fields6 x hx
  rw [e1, e2, e3, e4, e5, e6, f7 _ _ (by omega) h2, f15 _ _ (by omega) h4, f20w _ _ (by omega) (by omega)]
  omega
theorem back_82 (x : Nat) (hx : x < 4294967296) : (((x % 128 + x / 4096 % 8 * 4096 + x / 33554432 % 128 * 33554432) ||| x / 128 % 32 * 128) ||| x / 32768 % 32 * 32768) ||| x / 1048576 % 32 * 1048576 = x := by
  obtain ⟨a, r, f, s, u, g, h, h1, h2, h3, h4, h5, h6, e1, e2, e3, e4, e5, e6⟩ := fields6 x hx
  rw [e1, e2, e3, e4, e5, e6, f7 _ _ (by omega) h2, f15 _ _ (by omega) h4, f20 _ _ (by omega) h5]
  omega
theorem back_83 (x : Nat) (hx : x < 4294967296) : (((x % 128 + x / 4096 % 8 * 4096) ||| x / 32768 % 32 * 32768) ||| x / 1048576 % 32 * 1048576) ||| (x / 33554432 % 128 * 33554432 ||| x / 128 % 32 * 128) = x := by
  obtain ⟨a, r, f, s, u, g, h, h1, h2, h3, h4, h5, h6, e1, e2, e3, e4, e5, e6⟩ := fields6 x hx
  rw [e1, e2, e3, e4, e5, e6, f15 _ _ (by omega) h4, f20 _ _ (by omega) h5, ← Nat.or_assoc, f25 _ _ (by omega) h6, f7 _ _ (by omega) h2]
  omega
end Go.Proofs.YtmfmakkiefgogaaDoor
