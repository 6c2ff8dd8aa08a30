/-
  Plain mathematics for the statements of layer 1: numbers as bytes, the lowest first, and back; the sign's extension. No condition: lemmas on natural numbers, integers and lists of bytes.
-/
import Derived.WalkKit
import Derived.Laws.BitsAllLaws
import Derived.Laws.IdiomStrings
import Derived.Lib.Bytealg
import Derived.Lib.Strings
namespace Go.Proofs.Ytffmkkfacemchaa
open Go.RowKit

def enc : Nat → Nat → List UInt8
  | _, 0 => []
  | n, k + 1 => UInt8.ofNat (n % 256) :: enc (n / 256) k

def dec : List UInt8 → Nat
  | [] => 0
  | b :: l => b.toNat + 256 * dec l

theorem enc_length : ∀ (k n : Nat), (enc n k).length = k
  | 0, _ => rfl
  | k + 1, n => by simp [enc, enc_length k]

theorem enc_snoc : ∀ (k n : Nat), enc n (k + 1) = enc n k ++ [UInt8.ofNat (n / 256 ^ k % 256)]
  | 0, n => by simp [enc]
  | k + 1, n => by
    have h := enc_snoc k (n / 256)
    rw [enc, h, enc, Nat.div_div_eq_div_mul, Nat.pow_succ, Nat.mul_comm]
    rfl

theorem dec_append : ∀ (a b : List UInt8), dec (a ++ b) = dec a + 256 ^ a.length * dec b
  | [], b => by simp [dec]
  | x :: a, b => by
    simp only [List.cons_append, dec, dec_append a b, List.length_cons, Nat.pow_succ]
    rw [Nat.mul_add, ← Nat.mul_assoc, Nat.mul_comm 256 (256 ^ a.length)]
    omega

theorem dec_lt : ∀ (l : List UInt8), dec l < 256 ^ l.length
  | [] => by simp [dec]
  | x :: l => by
    have h := dec_lt l
    have hx := x.toNat_lt
    simp only [dec, List.length_cons, Nat.pow_succ]
    omega

theorem dec_enc : ∀ (k n : Nat), dec (enc n k) = n % 256 ^ k
  | 0, n => by simp [enc, dec, Nat.mod_one]
  | k + 1, n => by
    simp only [enc, dec, dec_enc k]
    rw [Nat.pow_succ, Nat.mul_comm (256 ^ k) 256, Nat.mod_mul]
    simp

theorem dec_lt64 (l : List UInt8) (h : l.length ≤ 8) : dec l < 18446744073709551616 := by
  have h1 := dec_lt l
  have h2 : 256 ^ l.length ≤ 256 ^ 8 := Nat.pow_le_pow_right (by omega) h
  have h3 : (256 : Nat) ^ 8 = 18446744073709551616 := by decide
  omega

theorem take_snoc (s : ByteArray) (k : Nat) (h : k < s.size) : s.data.toList.take (k + 1) = s.data.toList.take k ++ [s[k]] := by
  rw [List.take_succ_eq_append_getElem (by simpa using h)]; rfl

theorem drop_cons (s : ByteArray) (k : Nat) (h : k < s.size) : s.data.toList.drop k = s[k] :: s.data.toList.drop (k + 1) := by
  rw [List.drop_eq_getElem_cons (by simpa using h)]; rfl

theorem or_add (a b k : Nat) (h : a < 2 ^ k) : a ||| b * 2 ^ k = a + b * 2 ^ k := by
  rw [Nat.or_comm, Nat.add_comm, Nat.mul_comm]
  exact (Nat.two_pow_add_eq_or_of_lt h b).symm

/-- One round of le.Get: the byte at k is put above those that were read. -/
theorem get_step (s : ByteArray) (k : Nat) (h : k < s.size) (h8 : s.size ≤ 8) :
    bits BinOp.or IntKind.u64 ((dec (s.data.toList.take k) : Nat) : Int) (IntKind.u64.wrap (IntKind.u64.wrap ((s[k].toNat : Nat) : Int) * 2 ^ (8 * k))) = ((dec (s.data.toList.take (k + 1)) : Nat) : Int) := by
  have hb := s[k].toNat_lt
  have hl : (s.data.toList.take k).length = k := by
    rw [List.length_take]
    have : s.data.toList.length = s.size := by simp
    omega
  have hd := dec_lt (s.data.toList.take k)
  rw [hl] at hd
  have hp : (256 : Nat) ^ k = 2 ^ (8 * k) := by rw [Nat.pow_mul]
  have h64 : (2 : Nat) ^ (8 * k) ≤ 72057594037927936 := by
    have : (2 : Nat) ^ (8 * k) ≤ 2 ^ 56 := Nat.pow_le_pow_right (by omega) (by omega)
    have e : (2 : Nat) ^ 56 = 72057594037927936 := by decide
    omega
  have hm : s[k].toNat * 2 ^ (8 * k) ≤ 255 * 2 ^ (8 * k) := Nat.mul_le_mul_right _ (by omega)
  have e1 : IntKind.u64.wrap (IntKind.u64.wrap ((s[k].toNat : Nat) : Int) * 2 ^ (8 * k)) = ((s[k].toNat * 2 ^ (8 * k) : Nat) : Int) := by
    rw [IntKind.wrap_u64 ((s[k].toNat : Nat) : Int)]
    have e2 : ((s[k].toNat : Nat) : Int) % 18446744073709551616 = ((s[k].toNat : Nat) : Int) := by omega
    rw [e2]
    have e3 : ((s[k].toNat : Nat) : Int) * 2 ^ (8 * k) = ((s[k].toNat * 2 ^ (8 * k) : Nat) : Int) := by push_cast; rfl
    rw [e3, IntKind.wrap_u64]
    omega
  rw [e1, u64_or_nat _ _ (by omega) (by omega), or_add _ _ _ (by rw [← hp]; exact hd), take_snoc s k h, dec_append, hl, hp]
  simp [dec, Nat.mul_comm]

/-- The number of a text: of more than eight bytes 0. -/
def num (s : ByteArray) : Int := if s.size ≤ 8 then ((dec s.data.toList : Nat) : Int) else 0

theorem num_small (s : ByteArray) (h : s.size ≤ 8) : num s = ((dec s.data.toList : Nat) : Int) := if_pos h
theorem num_great (s : ByteArray) (h : ¬ s.size ≤ 8) : num s = 0 := if_neg h
theorem num_bounds (s : ByteArray) : 0 ≤ num s ∧ num s ≤ 18446744073709551615 := by
  unfold num
  split
  · rename_i h
    have := dec_lt64 s.data.toList (by simpa using h)
    omega
  · omega

/-- The extension by the sign: of bits from 1 to 63; of others the number itself. -/
def ext (n b : Int) : Int :=
  if 1 ≤ b ∧ b ≤ 63 then (if n % 2 ^ b.toNat < 2 ^ (b.toNat - 1) then n % 2 ^ b.toNat else n % 2 ^ b.toNat - 2 ^ b.toNat + 18446744073709551616) else n

theorem pow_split (k : Nat) (h : k ≤ 64) : (2 : Int) ^ k * 2 ^ (64 - k) = 18446744073709551616 := by
  rw [← Int.pow_add, show k + (64 - k) = 64 by omega]; rfl
theorem pow_half (k : Nat) (h : 1 ≤ k) : (2 : Int) ^ k = 2 * 2 ^ (k - 1) := by
  rw [show k = (k - 1) + 1 by omega, Int.pow_succ]; simp; omega
theorem pow_pos' (k : Nat) : (0 : Int) < 2 ^ k := Int.pow_pos (by omega)

/-- le.Extend's own reckoning. -/
theorem ext_shifts (n b : Int) (h0 : 1 ≤ b) (h1 : b ≤ 63) :
    IntKind.u64.wrap (wrap64 (IntKind.u64.wrap (n * 2 ^ (64 - b).toNat)) / 2 ^ (64 - b).toNat) = ext n b := by
  obtain ⟨k, rfl⟩ := Int.eq_ofNat_of_zero_le (show 0 ≤ b by omega)
  have ek : ((64 : Int) - (k : Int)).toNat = 64 - k := by omega
  have es := pow_split k (by omega)
  have hp := pow_pos' k
  have hq := pow_pos' (64 - k)
  have hh := pow_half k (by omega)
  unfold ext
  rw [if_pos ⟨h0, h1⟩, ek, Int.toNat_natCast]
  generalize (2 : Int) ^ k = p at *
  generalize (2 : Int) ^ (64 - k) = q at *
  generalize (2 : Int) ^ (k - 1) = h at *
  have hm : IntKind.u64.wrap (n * q) = n % p * q := by
    rw [IntKind.wrap_u64, ← es, Int.mul_comm n q, Int.mul_comm p q, Int.mul_emod_mul_of_pos _ _ hq, Int.mul_comm]
  rw [hm]
  have r0 := Int.emod_nonneg n (show p ≠ 0 by omega)
  have r1 := Int.emod_lt_of_pos n hp
  generalize n % p = r at *
  have hq0 : 0 ≤ r * q := Int.mul_nonneg r0 (by omega)
  have hpq : h * q = 9223372036854775808 := by
    have : 2 * (h * q) = 18446744073709551616 := by rw [← Int.mul_assoc, ← hh, es]
    omega
  by_cases hr : r < h
  · rw [if_pos hr]
    have : r * q < h * q := Int.mul_lt_mul_of_pos_right hr hq
    have e : wrap64 (r * q) = r * q := by unfold wrap64; omega
    rw [e, Int.mul_ediv_cancel _ (by omega), IntKind.wrap_u64]
    have : p ≤ 18446744073709551616 := by
      have := Int.mul_le_mul_of_nonneg_left (show (1 : Int) ≤ q by omega) (show 0 ≤ p by omega)
      omega
    omega
  · rw [if_neg hr]
    have l1 : h * q ≤ r * q := Int.mul_le_mul_of_nonneg_right (by omega) (by omega)
    have l2 : r * q < p * q := Int.mul_lt_mul_of_pos_right r1 hq
    have e : wrap64 (r * q) = (r - p) * q := by
      rw [Int.sub_mul]; unfold wrap64; omega
    rw [e, Int.mul_ediv_cancel _ (by omega), IntKind.wrap_u64]
    have : p ≤ 18446744073709551616 := by
      have := Int.mul_le_mul_of_nonneg_left (show (1 : Int) ≤ q by omega) (show 0 ≤ p by omega)
      omega
    omega

/-- One round of the document's Get. -/
theorem refget_step (s : ByteArray) (k : Nat) (h0 : 0 < k) (h : k ≤ s.size) (h8 : s.size ≤ 8) (hk : k - 1 < s.size) :
    IntKind.u64.wrap (IntKind.u64.wrap (256 * ((dec (s.data.toList.drop k) : Nat) : Int)) + IntKind.u64.wrap (((s[k - 1]'hk).toNat : Nat) : Int)) = ((dec (s.data.toList.drop (k - 1)) : Nat) : Int) := by
  have hb := (s[k - 1]'hk).toNat_lt
  have hd := dec_lt64 (s.data.toList.drop (k - 1)) (by simp; omega)
  have e := drop_cons s (k - 1) hk
  rw [show k - 1 + 1 = k by omega] at e
  rw [e] at hd ⊢
  simp only [dec] at hd ⊢
  rw [IntKind.wrap_u64, IntKind.wrap_u64, IntKind.wrap_u64]
  omega

/-- One doubling of the document's Extend. -/
theorem two_step (k : Nat) (q : Int) (hq : q = 2 ^ k) : q * 2 = 2 ^ (k + 1) := by rw [hq, Int.pow_succ]
theorem two_le (k : Nat) (hk : k < 63) : (2 : Int) ^ (k + 1) ≤ 9223372036854775808 := by
  have : (2 : Nat) ^ (k + 1) ≤ 2 ^ 63 := Nat.pow_le_pow_right (by omega) (by omega)
  have e : (2 : Nat) ^ 63 = 9223372036854775808 := by decide
  have e2 : ((2 ^ (k + 1) : Nat) : Int) = (2 : Int) ^ (k + 1) := Int.natCast_pow 2 (k + 1)
  omega

/-- The document's Extend, behind its loop. -/
theorem refext_low (n : Int) (m : Nat) (q : Int) (hq : q = 2 ^ m) (h0 : 1 ≤ m) (h1 : m ≤ 63) (h : n % q < q / 2) : n % q = ext n m := by
  have hh := pow_half m h0
  subst hq
  unfold ext
  rw [if_pos (by omega), Int.toNat_natCast, if_pos (by omega)]
theorem refext_high (n : Int) (m : Nat) (q : Int) (hq : q = 2 ^ m) (h0 : 1 ≤ m) (h1 : m ≤ 63) (h : q / 2 ≤ n % q) : IntKind.u64.wrap (n % q - q) = ext n m := by
  have hh := pow_half m h0
  have hp := pow_pos' m
  have hl := two_le (m - 1) (by omega)
  rw [show m - 1 + 1 = m by omega] at hl
  subst hq
  have r0 := Int.emod_nonneg n (show (2 : Int) ^ m ≠ 0 by omega)
  have r1 := Int.emod_lt_of_pos n hp
  unfold ext
  rw [if_pos (by omega), Int.toNat_natCast, if_neg (by omega), IntKind.wrap_u64]
  omega

/-- Where the first byte 0 stands, behind a place: what the search answers, and what a look at each byte finds. -/
theorem indexByte_of (l : List UInt8) (c : UInt8) (k : Nat) (hk : k < l.length) (hc : l[k] = c) (hb : ∀ j (_ : j < k), l[j] ≠ c) : Lib.indexByte l c = k := by
  induction l generalizing k with
  | nil => simp at hk
  | cons b l ih =>
    unfold Lib.indexByte
    cases k with
    | zero => simp at hc; simp [hc]
    | succ k =>
      have h0 := hb 0 (by omega)
      simp at h0
      have ih := ih k (by simpa using hk) (by simpa using hc) (fun j hj => by simpa using hb (j + 1) (by omega))
      rw [if_neg (by simpa using h0), ih, if_neg (by rw [beq_iff_eq]; omega)]
      omega
theorem indexByte_none (l : List UInt8) (c : UInt8) (hb : ∀ j (h : j < l.length), l[j] ≠ c) : Lib.indexByte l c = -1 := by
  induction l with
  | nil => rfl
  | cons b l ih =>
    unfold Lib.indexByte
    have h0 := hb 0 (by simp)
    simp at h0
    have ih := ih (fun j hj => hb (j + 1) (by simpa using hj))
    rw [if_neg (by simpa using h0), ih]
    rfl

theorem indexByte_lt (l : List UInt8) (c : UInt8) : Lib.indexByte l c < l.length ∧ -1 ≤ Lib.indexByte l c := by
  induction l with
  | nil => exact ⟨by simp [Lib.indexByte], by simp [Lib.indexByte]⟩
  | cons b l ih =>
    unfold Lib.indexByte
    simp only [List.length_cons]
    split
    · omega
    · split <;> omega

/-- What Text answers: the bytes from p on up to the first byte 0, where there is one, and they are no more than n. -/
def txt (s : ByteArray) (p n : Int) : ByteArray × Bool :=
  if p ≤ s.size then
    if Lib.indexByte (s.data.toList.drop p.toNat) 0 < 0 ∨ n < Lib.indexByte (s.data.toList.drop p.toNat) 0 then (⟨#[]⟩, false)
    else (s.extract p.toNat (p + Lib.indexByte (s.data.toList.drop p.toNat) 0).toNat, true)
  else (⟨#[]⟩, false)

theorem txt_far (s : ByteArray) (p n : Int) (h : (s.size : Int) < p) : txt s p n = (⟨#[]⟩, false) := if_neg (by omega)
theorem txt_no (s : ByteArray) (p n r : Int) (h : p ≤ s.size) (hr : Lib.indexByte (s.data.toList.drop p.toNat) 0 = r) (h2 : r < 0 ∨ n < r) : txt s p n = (⟨#[]⟩, false) := by
  unfold txt; rw [if_pos h, hr, if_pos h2]
theorem txt_yes (s : ByteArray) (p n r : Int) (h : p ≤ s.size) (hr : Lib.indexByte (s.data.toList.drop p.toNat) 0 = r) (h2 : 0 ≤ r) (h3 : r ≤ n) : txt s p n = (s.extract p.toNat (p + r).toNat, true) := by
  unfold txt; rw [if_pos h, hr, if_neg (by omega)]
theorem drop_extract (s : ByteArray) (a : Nat) : (s.extract a s.size).data.toList = s.data.toList.drop a := by
  rw [Lib.extract_data]
  exact List.take_of_length_le (by simp)
theorem zero_at (s : ByteArray) (P k : Nat) (hP : P ≤ k) (hk : k < s.size) (h0 : s[k] = 0) (hb : ∀ j (h : j < s.size), P ≤ j → j < k → s[j] ≠ 0) : Lib.indexByte (s.data.toList.drop P) 0 = ((k - P : Nat) : Int) := by
  refine indexByte_of _ 0 (k - P) (by simp; omega) ?_ ?_
  · rw [List.getElem_drop]
    have : P + (k - P) = k := by omega
    simp only [this]
    exact h0
  · intro j hj
    rw [List.getElem_drop]
    exact hb (P + j) (by omega) (by omega) (by omega)
theorem zero_none (s : ByteArray) (P : Nat) (hb : ∀ j (h : j < s.size), P ≤ j → s[j] ≠ 0) : Lib.indexByte (s.data.toList.drop P) 0 = -1 := by
  refine indexByte_none _ 0 ?_
  intro j hj
  rw [List.getElem_drop]
  exact hb (P + j) (by simp at hj; omega) (by omega)

end Go.Proofs.Ytffmkkfacemchaa
