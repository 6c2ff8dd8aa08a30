/-
  Plain mathematics for the statements of layer 5: what each operation answers, as integers. No condition: definitions and lemmas.
-/
import Derived.WalkKit
import Derived.Laws.BitsAllLaws
namespace Go.Proofs.YtmfmakkiefgogaaDoor
open Go.RowKit

/-- The extension by the sign: of bits from 1 to 63; of others the number itself. -/
def ext (n b : Int) : Int :=
  if 1 ≤ b ∧ b ≤ 63 then (if n % 2 ^ b.toNat < 2 ^ (b.toNat - 1) then n % 2 ^ b.toNat else n % 2 ^ b.toNat - 2 ^ b.toNat + 18446744073709551616) else n

theorem pow_split (k : Nat) (h : k ≤ 64) : (2 : Int) ^ k * 2 ^ (64 - k) = 18446744073709551616 := by
  rw [← Int.pow_add, show k + (64 - k) = 64 by omega]; rfl
theorem pow_half (k : Nat) (h : 1 ≤ k) : (2 : Int) ^ k = 2 * 2 ^ (k - 1) := by
  rw [show k = (k - 1) + 1 by omega, Int.pow_succ]; simp; omega
theorem pow_pos' (k : Nat) : (0 : Int) < 2 ^ k := Int.pow_pos (by omega)

/-- le.Extend's own reckoning. -/
theorem ext_shifts (n b : Int) (h0 : 1 ≤ b) (h1 : b ≤ 63) :
    IntKind.u64.wrap (wrap64 (IntKind.u64.wrap (n * 2 ^ (64 - b).toNat)) / 2 ^ (64 - b).toNat) = ext n b := by
  obtain ⟨k, rfl⟩ := Int.eq_ofNat_of_zero_le (show 0 ≤ b by omega)
  have ek : ((64 : Int) - (k : Int)).toNat = 64 - k := by omega
  have es := pow_split k (by omega)
  have hp := pow_pos' k
  have hq := pow_pos' (64 - k)
  have hh := pow_half k (by omega)
  unfold ext
  rw [if_pos ⟨h0, h1⟩, ek, Int.toNat_natCast]
  generalize (2 : Int) ^ k = p at *
  generalize (2 : Int) ^ (64 - k) = q at *
  generalize (2 : Int) ^ (k - 1) = h at *
  have hm : IntKind.u64.wrap (n * q) = n % p * q := by
    rw [IntKind.wrap_u64, ← es, Int.mul_comm n q, Int.mul_comm p q, Int.mul_emod_mul_of_pos _ _ hq, Int.mul_comm]
  rw [hm]
  have r0 := Int.emod_nonneg n (show p ≠ 0 by omega)
  have r1 := Int.emod_lt_of_pos n hp
  generalize n % p = r at *
  have hq0 : 0 ≤ r * q := Int.mul_nonneg r0 (by omega)
  have hpq : h * q = 9223372036854775808 := by
    have : 2 * (h * q) = 18446744073709551616 := by rw [← Int.mul_assoc, ← hh, es]
    omega
  by_cases hr : r < h
  · rw [if_pos hr]
    have : r * q < h * q := Int.mul_lt_mul_of_pos_right hr hq
    have e : wrap64 (r * q) = r * q := by unfold wrap64; omega
    rw [e, Int.mul_ediv_cancel _ (by omega), IntKind.wrap_u64]
    have : p ≤ 18446744073709551616 := by
      have := Int.mul_le_mul_of_nonneg_left (show (1 : Int) ≤ q by omega) (show 0 ≤ p by omega)
      omega
    omega
  · rw [if_neg hr]
    have l1 : h * q ≤ r * q := Int.mul_le_mul_of_nonneg_right (by omega) (by omega)
    have l2 : r * q < p * q := Int.mul_lt_mul_of_pos_right r1 hq
    have e : wrap64 (r * q) = (r - p) * q := by
      rw [Int.sub_mul]; unfold wrap64; omega
    rw [e, Int.mul_ediv_cancel _ (by omega), IntKind.wrap_u64]
    have : p ≤ 18446744073709551616 := by
      have := Int.mul_le_mul_of_nonneg_left (show (1 : Int) ≤ q by omega) (show 0 ≤ p by omega)
      omega
    omega


/-- Quotients and rests, of signed and of unsigned numbers. -/
def qs (a b : Int) : Int := if b = 0 then 18446744073709551615 else IntKind.u64.wrap (wrap64 ((wrap64 a).tdiv (wrap64 b)))
def rs (a b : Int) : Int := if b = 0 then a else IntKind.u64.wrap ((wrap64 a).tmod (wrap64 b))
def qu (a b : Int) : Int := if b = 0 then 18446744073709551615 else a / b
def ru (a b : Int) : Int := if b = 0 then a else a % b
def one (p : Bool) : Int := if p then 1 else 0
def ifn (a n : Int) : Int := if wrap64 a < 0 then n else 0
def upr (a b : Int) : Int := a * b / 18446744073709551616

/-- An operation of 64 bits. -/
def whole : Nat → Int → Int → Int
  | 0, a, b => IntKind.u64.wrap (a + b)
  | 1, a, b => IntKind.u64.wrap (a - b)
  | 2, a, b => IntKind.u64.wrap (a * 2 ^ (b % 64).toNat)
  | 3, a, b => one (decide (wrap64 a < wrap64 b))
  | 4, a, b => one (decide (a < b))
  | 5, a, b => bits .xor .u64 a b
  | 6, a, b => a / 2 ^ (b % 64).toNat
  | 7, a, b => IntKind.u64.wrap (wrap64 a / 2 ^ (b % 64).toNat)
  | 8, a, b => bits .or .u64 a b
  | 9, a, b => bits .and .u64 a b
  | 10, a, b => IntKind.u64.wrap (a * b)
  | 11, a, b => IntKind.u64.wrap (IntKind.u64.wrap (upr a b - ifn a b) - ifn b a)
  | 12, a, b => IntKind.u64.wrap (upr a b - ifn a b)
  | 13, a, b => upr a b
  | 14, a, b => qs a b
  | 15, a, b => qu a b
  | 16, a, b => rs a b
  | 17, a, b => ru a b
  | _, _, _ => 0

/-- An operation of 32 bits, ahead of its extension. -/
def half : Nat → Int → Int → Int
  | 18, a, b => IntKind.u64.wrap (a + b)
  | 19, a, b => IntKind.u64.wrap (a - b)
  | 20, a, b => IntKind.u64.wrap (a * 2 ^ (b % 32).toNat)
  | 21, a, b => a % 4294967296 / 2 ^ (b % 32).toNat
  | 22, a, b => IntKind.u64.wrap (wrap64 (ext a 32) / 2 ^ (b % 32).toNat)
  | 23, a, b => IntKind.u64.wrap (a * b)
  | 24, a, b => qs (ext a 32) (ext b 32)
  | 25, a, b => qu (a % 4294967296) (b % 4294967296)
  | 26, a, b => rs (ext a 32) (ext b 32)
  | 27, a, b => ru (a % 4294967296) (b % 4294967296)
  | _, _, _ => 0

/-- An operation. -/
def op (o : Nat) (a b : Int) : Int := if 18 ≤ o ∧ o < 28 then ext (half o a b) 32 else whole o a b

theorem ext_range (n : Int) : 0 ≤ ext n 32 ∧ ext n 32 < 18446744073709551616 := by
  unfold ext
  have e : (2 : Int) ^ (32 : Int).toNat = 4294967296 := rfl
  have e' : (2 : Int) ^ ((32 : Int).toNat - 1) = 2147483648 := rfl
  rw [if_pos (by omega), e, e']
  split <;> omega
theorem ext_is (n : Int) : ext n 32 = if n % 4294967296 < 2147483648 then n % 4294967296 else n % 4294967296 - 4294967296 + 18446744073709551616 := by
  unfold ext
  rw [if_pos (by omega)]
  rfl
end Go.Proofs.YtmfmakkiefgogaaDoor
