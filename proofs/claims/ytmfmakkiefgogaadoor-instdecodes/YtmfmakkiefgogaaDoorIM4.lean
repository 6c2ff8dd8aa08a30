/-
  Layer 6: what a word is decoded to is encoded to that word. No condition: lemmas on numbers.
-/
import Derived.Test.YtmfmakkiefgogaaDoorIM3
import Derived.Test.YtmfmakkiefgogaaDoorIR7
namespace Go.Proofs.YtmfmakkiefgogaaDoor
open Go.RowKit
set_option linter.unusedVariables false

theorem reg_back (x a : Nat) (s : ByteArray) (c : Int) : (regLaid (regOf x a s c) a s c).toNat = if has s.data.toList c then x / 2 ^ a % 32 * 2 ^ a else 0 := by
  unfold regLaid regOf
  cases h : has s.data.toList c
  · rfl
  · simp only [if_true]
    have e : (((x / 2 ^ a % 32 : Nat) : Int) % 32) = ((x / 2 ^ a % 32 : Nat) : Int) := by omega
    have e2 : (2 : Int) ^ a = ((2 ^ a : Nat) : Int) := by rw [Int.natCast_pow]; rfl
    rw [e, e2, ← Int.natCast_mul, Int.toNat_natCast]

theorem f31 (x y : Nat) (hx : x / 2147483648 % 2 = 0) (hy : y < 2) : x ||| y * 2147483648 = x + y * 2147483648 := or_field x y 31 1 hx hy
theorem f12 (x y : Nat) (hx : x / 4096 % 256 = 0) (hy : y < 256) : x ||| y * 4096 = x + y * 4096 := or_field x y 12 8 hx hy
theorem f20o (x y : Nat) (hx : x / 1048576 % 2 = 0) (hy : y < 2) : x ||| y * 1048576 = x + y * 1048576 := or_field x y 20 1 hx hy
theorem f21 (x y : Nat) (hx : x / 2097152 % 1024 = 0) (hy : y < 1024) : x ||| y * 2097152 = x + y * 2097152 := or_field x y 21 10 hx hy
theorem f7o (x y : Nat) (hx : x / 128 % 2 = 0) (hy : y < 2) : x ||| y * 128 = x + y * 128 := or_field x y 7 1 hx hy
theorem f8 (x y : Nat) (hx : x / 256 % 16 = 0) (hy : y < 16) : x ||| y * 256 = x + y * 256 := or_field x y 8 4 hx hy
theorem f25o (x y : Nat) (hx : x / 33554432 % 64 = 0) (hy : y < 64) : x ||| y * 33554432 = x + y * 33554432 := or_field x y 25 6 hx hy

theorem back_74 (x : Nat) (hx : x < 4294967296) : (x % 128 ||| x / 128 % 32 * 128) ||| (((x / 2147483648 % 2 * 2147483648 ||| x / 4096 % 256 * 4096) ||| x / 1048576 % 2 * 1048576) ||| x / 2097152 % 1024 * 2097152) = x := by
  have key : ∀ a r b c d e : Nat, a < 128 → r < 32 → b < 256 → c < 2 → d < 1024 → e < 2 → (a ||| r * 128) ||| (((e * 2147483648 ||| b * 4096) ||| c * 1048576) ||| d * 2097152) = a + r * 128 + b * 4096 + c * 1048576 + d * 2097152 + e * 2147483648 := by
    intro a r b c d e h1 h2 h3 h4 h5 h6
    rw [← Nat.or_assoc, ← Nat.or_assoc, ← Nat.or_assoc, f7 _ _ (by omega) h2, f31 _ _ (by omega) h6, f12 _ _ (by omega) h3, f20o _ _ (by omega) h4, f21 _ _ (by omega) h5]
    omega
  rw [key _ _ _ _ _ _ (by omega) (by omega) (by omega) (by omega) (by omega) (by omega)]
  omega
theorem back_66 (x : Nat) (hx : x < 4294967296) : (((x % 128 + x / 4096 % 8 * 4096) ||| x / 32768 % 32 * 32768) ||| x / 1048576 % 32 * 1048576) ||| (((x / 2147483648 % 2 * 2147483648 ||| x / 128 % 2 * 128) ||| x / 33554432 % 64 * 33554432) ||| x / 256 % 16 * 256) = x := by
  have key : ∀ a f s u b c d e : Nat, a < 128 → f < 8 → s < 32 → u < 32 → b < 2 → c < 64 → d < 16 → e < 2 → (((a + f * 4096) ||| s * 32768) ||| u * 1048576) ||| (((e * 2147483648 ||| b * 128) ||| c * 33554432) ||| d * 256) = a + f * 4096 + s * 32768 + u * 1048576 + e * 2147483648 + b * 128 + c * 33554432 + d * 256 := by
    intro a f s u b c d e h1 h2 h3 h4 h5 h6 h7 h8
    rw [← Nat.or_assoc, ← Nat.or_assoc, ← Nat.or_assoc, f15 _ _ (by omega) h3, f20 _ _ (by omega) h4, f31 _ _ (by omega) h8, f7o _ _ (by omega) h5, f25o _ _ (by omega) h6, f8 _ _ (by omega) h7]
  rw [key _ _ _ _ _ _ _ _ (by omega) (by omega) (by omega) (by omega) (by omega) (by omega) (by omega) (by omega)]
  omega
theorem back_72 (x : Nat) (hx : x < 4294967296) : (((x % 128 + x / 4096 % 8 * 4096 + x / 67108864 % 64 * 67108864) ||| x / 128 % 32 * 128) ||| x / 32768 % 32 * 32768) ||| x / 1048576 % 64 * 1048576 = x := by
  have key : ∀ a f g r s u : Nat, a < 128 → f < 8 → g < 64 → r < 32 → s < 32 → u < 64 → (((a + f * 4096 + g * 67108864) ||| r * 128) ||| s * 32768) ||| u * 1048576 = a + f * 4096 + g * 67108864 + r * 128 + s * 32768 + u * 1048576 := by
    intro a f g r s u h1 h2 h3 h4 h5 h6
    rw [f7 _ _ (by omega) h4, f15 _ _ (by omega) h5, f20h _ _ (by omega) h6]
  rw [key _ _ _ _ _ _ (by omega) (by omega) (by omega) (by omega) (by omega) (by omega)]
  omega
end Go.Proofs.YtmfmakkiefgogaaDoor
