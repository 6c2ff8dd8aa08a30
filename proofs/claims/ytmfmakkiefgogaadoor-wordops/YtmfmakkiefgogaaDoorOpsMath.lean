/-
  Plain mathematics for WordOps: bits and their value, the upper half of a product, quotients of signed numbers. No condition: lemmas on numbers.
-/
import Derived.Test.YtmfmakkiefgogaaDoorMath
namespace Go.Proofs.YtmfmakkiefgogaaDoor
open Go.RowKit
set_option linter.unusedVariables false

/-- The value of bits from a place on. -/
def hv (f : Nat → Bool) : Nat → Nat → Nat
  | 0, _ => 0
  | c + 1, j => (f j).toNat + 2 * hv f c (j + 1)

theorem hv_lt (f : Nat → Bool) : ∀ c j, hv f c j < 2 ^ c
  | 0, j => by simp [hv]
  | c + 1, j => by
    have h := hv_lt f c (j + 1)
    have hb : (f j).toNat ≤ 1 := by cases f j <;> simp
    rw [hv, Nat.pow_succ]
    omega

theorem hv_bit (f : Nat → Bool) : ∀ c j i, (hv f c j).testBit i = (decide (i < c) && f (j + i))
  | 0, j, i => by simp [hv]
  | c + 1, j, 0 => by
    rw [hv, Nat.testBit_zero]
    cases f j <;> simp
  | c + 1, j, i + 1 => by
    rw [hv, Nat.testBit_succ]
    have hb : (f j).toNat ≤ 1 := by cases f j <;> simp
    have e : ((f j).toNat + 2 * hv f c (j + 1)) / 2 = hv f c (j + 1) := by omega
    rw [e, hv_bit f c (j + 1) i]
    have e2 : j + 1 + i = j + (i + 1) := by omega
    rw [e2]
    simp

theorem hv_is (f : Nat → Bool) (x : Nat) (hx : x < 2 ^ 64) (h : ∀ i, i < 64 → f i = x.testBit i) : hv f 64 0 = x := by
  apply Nat.eq_of_testBit_eq
  intro i
  rw [hv_bit]
  by_cases hi : i < 64
  · rw [Nat.zero_add, h i hi]; simp [hi]
  · have : x.testBit i = false := Nat.testBit_lt_two_pow (Nat.lt_of_lt_of_le hx (Nat.pow_le_pow_right (by omega) (by omega)))
    simp [hi, this]

/-- What a shift puts at a place. -/
def shiftBit (a n : Nat) (up above : Bool) (i : Nat) : Bool :=
  if up then (if n ≤ i then a.testBit (i - n) else false) else (if i + n < 64 then a.testBit (i + n) else above)

theorem shift_up (a n : Nat) (ab : Bool) : hv (shiftBit a n true ab) 64 0 = a * 2 ^ n % 2 ^ 64 := by
  apply hv_is _ _ (Nat.mod_lt _ (by omega))
  intro i hi
  rw [Nat.testBit_mod_two_pow, ← Nat.shiftLeft_eq, Nat.testBit_shiftLeft]
  simp only [shiftBit]
  by_cases h : n ≤ i <;> simp [h, hi]

theorem shift_down (a n : Nat) (ha : a < 2 ^ 64) : hv (shiftBit a n false false) 64 0 = a / 2 ^ n := by
  apply hv_is _ _ (Nat.lt_of_le_of_lt (Nat.div_le_self _ _) ha)
  intro i hi
  rw [← Nat.shiftRight_eq_div_pow, Nat.testBit_shiftRight]
  simp only [shiftBit]
  by_cases h : i + n < 64
  · rw [if_pos h, Nat.add_comm n i]; rfl
  · have : a.testBit (n + i) = false := Nat.testBit_lt_two_pow (Nat.lt_of_lt_of_le ha (Nat.pow_le_pow_right (by omega) (by omega)))
    simp [h, this]

theorem shift_sign (a n : Nat) (ha : a < 2 ^ 64) (hn : n < 64) : hv (shiftBit a n false true) 64 0 = (2 ^ 64 * (2 ^ n - 1) + a) / 2 ^ n := by
  have hp : 0 < 2 ^ n := Nat.two_pow_pos n
  apply hv_is
  · apply Nat.div_lt_of_lt_mul
    have : 2 ^ 64 * (2 ^ n - 1) = 2 ^ 64 * 2 ^ n - 2 ^ 64 := by rw [Nat.mul_sub, Nat.mul_one]
    have h2 : 2 ^ 64 * 1 ≤ 2 ^ 64 * 2 ^ n := Nat.mul_le_mul_left _ hp
    rw [Nat.mul_comm (2 ^ n) (2 ^ 64)]
    omega
  · intro i hi
    rw [← Nat.shiftRight_eq_div_pow, Nat.testBit_shiftRight, Nat.testBit_two_pow_mul_add _ ha]
    simp only [shiftBit]
    by_cases h : i + n < 64
    · have h2 : n + i < 64 := by omega
      simp [h2, Nat.add_comm i n]
    · have h2 : ¬ n + i < 64 := by omega
      rw [if_neg h2, Nat.testBit_two_pow_sub_one]
      have : n + i - 64 < n := by omega
      simp [h, this]

/-- The bits of both, by what is asked: 0 xor, 1 or, 2 and. -/
def bothBit (a b how : Nat) (i : Nat) : Bool :=
  match how with
  | 0 => a.testBit i != b.testBit i
  | 1 => a.testBit i || b.testBit i
  | _ => a.testBit i && b.testBit i
theorem both_xor (a b : Nat) (ha : a < 2 ^ 64) (hb : b < 2 ^ 64) : hv (bothBit a b 0) 64 0 = a ^^^ b := by
  apply hv_is _ _ (Nat.xor_lt_two_pow ha hb)
  intro i _; rw [Nat.testBit_xor]; rfl
theorem both_or (a b : Nat) (ha : a < 2 ^ 64) (hb : b < 2 ^ 64) : hv (bothBit a b 1) 64 0 = a ||| b := by
  apply hv_is _ _ (Nat.or_lt_two_pow ha hb)
  intro i _; rw [Nat.testBit_or]; rfl
theorem both_and (a b : Nat) (ha : a < 2 ^ 64) (hb : b < 2 ^ 64) : hv (bothBit a b 2) 64 0 = a &&& b := by
  apply hv_is _ _ (Nat.and_lt_two_pow a hb)
  intro i _; rw [Nat.testBit_and]; rfl

theorem bit_step (n i : Nat) : n / 2 ^ i % 2 = (n.testBit i).toNat := by
  have h := Nat.testBit_eq_decide_div_mod_eq (x := n) (i := i)
  have h2 : n / 2 ^ i % 2 < 2 := Nat.mod_lt _ (by omega)
  rw [h]
  by_cases h1 : n / 2 ^ i % 2 = 1
  · simp [h1]
  · have h0 : n / 2 ^ i % 2 = 0 := by omega
    simp [h0]
theorem div_step (n i : Nat) : n / 2 ^ i / 2 = n / 2 ^ (i + 1) := by rw [Nat.div_div_eq_div_mul, ← Nat.pow_succ]

/-- A product by halves. -/
theorem wide_hi (a b : Nat) (ha : a < 18446744073709551616) (hb : b < 18446744073709551616) :
    let p := 4294967296
    let x := a % p * (b % p); let y := a / p * (b % p); let z := a % p * (b / p); let v := a / p * (b / p)
    x < 18446744073709551616 ∧ y < 18446744073709551616 ∧ z < 18446744073709551616 ∧ v < 18446744073709551616 ∧
    v + y / p + z / p + (x / p + y % p + z % p) / p = a * b / 18446744073709551616 := by
  intro p x y z v
  have hal : a % p ≤ 4294967295 := by show a % 4294967296 ≤ _; omega
  have hbl : b % p ≤ 4294967295 := by show b % 4294967296 ≤ _; omega
  have hah : a / p ≤ 4294967295 := by show a / 4294967296 ≤ _; omega
  have hbh : b / p ≤ 4294967295 := by show b / 4294967296 ≤ _; omega
  have h1 : x ≤ 4294967295 * 4294967295 := Nat.mul_le_mul hal hbl
  have h2 : y ≤ 4294967295 * 4294967295 := Nat.mul_le_mul hah hbl
  have h3 : z ≤ 4294967295 * 4294967295 := Nat.mul_le_mul hal hbh
  have h4 : v ≤ 4294967295 * 4294967295 := Nat.mul_le_mul hah hbh
  have e : a * b = v * 18446744073709551616 + (y + z) * 4294967296 + x := by
    have ea : a = a / p * 4294967296 + a % p := by show a = a / 4294967296 * 4294967296 + a % 4294967296; omega
    have eb : b = b / p * 4294967296 + b % p := by show b = b / 4294967296 * 4294967296 + b % 4294967296; omega
    have : a * b = (a / p * 4294967296 + a % p) * (b / p * 4294967296 + b % p) := by rw [← ea, ← eb]
    rw [this]
    show _ = a / p * (b / p) * 18446744073709551616 + (a / p * (b % p) + a % p * (b / p)) * 4294967296 + a % p * (b % p)
    generalize a / p = ah
    generalize a % p = al
    generalize b / p = bh
    generalize b % p = bl
    have g : (18446744073709551616 : Nat) = 4294967296 * 4294967296 := by decide
    rw [g]
    simp only [Nat.add_mul, Nat.mul_add]
    generalize (4294967296 : Nat) = q
    ac_rfl
  refine ⟨by omega, by omega, by omega, by omega, ?_⟩
  rw [e]
  show v + y / 4294967296 + z / 4294967296 + (x / 4294967296 + y % 4294967296 + z % 4294967296) / 4294967296 = _
  omega
end Go.Proofs.YtmfmakkiefgogaaDoor
