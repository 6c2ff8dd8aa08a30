/-
  Plain mathematics for layer 6: what the functions of the program answer, as numbers. No condition: definitions and lemmas.
-/
import Derived.WalkKit
import Derived.Laws.BitsAllLaws
import Derived.Lib.Bytealg
namespace Go.Proofs.YtmfmakkiefgogaaDoor
open Go.RowKit

/-- The extension by the sign: of bits from 1 to 63; of others the number itself. -/
def ext (n b : Int) : Int :=
  if 1 ≤ b ∧ b ≤ 63 then (if n % 2 ^ b.toNat < 2 ^ (b.toNat - 1) then n % 2 ^ b.toNat else n % 2 ^ b.toNat - 2 ^ b.toNat + 18446744073709551616) else n

theorem pow_split (k : Nat) (h : k ≤ 64) : (2 : Int) ^ k * 2 ^ (64 - k) = 18446744073709551616 := by
  rw [← Int.pow_add, show k + (64 - k) = 64 by omega]; rfl
theorem pow_half (k : Nat) (h : 1 ≤ k) : (2 : Int) ^ k = 2 * 2 ^ (k - 1) := by
  rw [show k = (k - 1) + 1 by omega, Int.pow_succ]; simp; omega
theorem pow_pos' (k : Nat) : (0 : Int) < 2 ^ k := Int.pow_pos (by omega)

/-- le.Extend's own reckoning. -/
theorem ext_shifts (n b : Int) (h0 : 1 ≤ b) (h1 : b ≤ 63) :
    IntKind.u64.wrap (wrap64 (IntKind.u64.wrap (n * 2 ^ (64 - b).toNat)) / 2 ^ (64 - b).toNat) = ext n b := by
  obtain ⟨k, rfl⟩ := Int.eq_ofNat_of_zero_le (show 0 ≤ b by omega)
  have ek : ((64 : Int) - (k : Int)).toNat = 64 - k := by omega
  have es := pow_split k (by omega)
  have hp := pow_pos' k
  have hq := pow_pos' (64 - k)
  have hh := pow_half k (by omega)
  unfold ext
  rw [if_pos ⟨h0, h1⟩, ek, Int.toNat_natCast]
  generalize (2 : Int) ^ k = p at *
  generalize (2 : Int) ^ (64 - k) = q at *
  generalize (2 : Int) ^ (k - 1) = h at *
  have hm : IntKind.u64.wrap (n * q) = n % p * q := by
    rw [IntKind.wrap_u64, ← es, Int.mul_comm n q, Int.mul_comm p q, Int.mul_emod_mul_of_pos _ _ hq, Int.mul_comm]
  rw [hm]
  have r0 := Int.emod_nonneg n (show p ≠ 0 by omega)
  have r1 := Int.emod_lt_of_pos n hp
  generalize n % p = r at *
  have hq0 : 0 ≤ r * q := Int.mul_nonneg r0 (by omega)
  have hpq : h * q = 9223372036854775808 := by
    have : 2 * (h * q) = 18446744073709551616 := by rw [← Int.mul_assoc, ← hh, es]
    omega
  by_cases hr : r < h
  · rw [if_pos hr]
    have : r * q < h * q := Int.mul_lt_mul_of_pos_right hr hq
    have e : wrap64 (r * q) = r * q := by unfold wrap64; omega
    rw [e, Int.mul_ediv_cancel _ (by omega), IntKind.wrap_u64]
    have : p ≤ 18446744073709551616 := by
      have := Int.mul_le_mul_of_nonneg_left (show (1 : Int) ≤ q by omega) (show 0 ≤ p by omega)
      omega
    omega
  · rw [if_neg hr]
    have l1 : h * q ≤ r * q := Int.mul_le_mul_of_nonneg_right (by omega) (by omega)
    have l2 : r * q < p * q := Int.mul_lt_mul_of_pos_right r1 hq
    have e : wrap64 (r * q) = (r - p) * q := by
      rw [Int.sub_mul]; unfold wrap64; omega
    rw [e, Int.mul_ediv_cancel _ (by omega), IntKind.wrap_u64]
    have : p ≤ 18446744073709551616 := by
      have := Int.mul_le_mul_of_nonneg_left (show (1 : Int) ≤ q by omega) (show 0 ≤ p by omega)
      omega
    omega


/-- Is a letter in a text? -/
def has (l : List UInt8) (c : Int) : Bool := decide (0 ≤ Lib.indexByte l c.toNat.toUInt8)
def sRd : ByteArray := ⟨#[85, 74, 73, 72, 75, 82]⟩
def sRs1 : ByteArray := ⟨#[73, 72, 75, 66, 83, 82]⟩
def sRs2 : ByteArray := ⟨#[66, 83, 82]⟩

/-- The bits of a word that are fixed, by its form. -/
def maskOf (c : Int) : Nat :=
  if c = 78 then 4294967295 else if c = 82 ∨ c = 75 then 4261441663 else if c = 72 then 4227887231 else if c = 73 ∨ c = 66 ∨ c = 83 then 28799 else 127

def regOf (w at_ : Nat) (s : ByteArray) (c : Int) : Int := if has s.data.toList c then ((w / 2 ^ at_ % 32 : Nat) : Int) else 0
def regLaid (n : Int) (at_ : Nat) (s : ByteArray) (c : Int) : Int := if has s.data.toList c then n % 32 * 2 ^ at_ else 0

/-- A piece of an Imm: how many bits, where in the word, where in the Imm. -/
structure Piece where
  count : Nat
  inWord : Nat
  inImm : Nat
def piecesOf (c : Int) : List Piece :=
  if c = 85 then [⟨20, 12, 12⟩] else if c = 74 then [⟨1, 31, 20⟩, ⟨8, 12, 12⟩, ⟨1, 20, 11⟩, ⟨10, 21, 1⟩] else if c = 73 then [⟨12, 20, 0⟩]
  else if c = 66 then [⟨1, 31, 12⟩, ⟨1, 7, 11⟩, ⟨6, 25, 5⟩, ⟨4, 8, 1⟩] else if c = 83 then [⟨7, 25, 5⟩, ⟨5, 7, 0⟩] else if c = 72 then [⟨6, 20, 0⟩] else if c = 75 then [⟨5, 20, 0⟩] else []
def signedOf (c : Int) : Int := if c = 85 then 32 else if c = 74 then 21 else if c = 66 then 13 else if c = 73 ∨ c = 83 then 12 else 0

def Piece.from_ (p : Piece) (w : Nat) : Nat := w / 2 ^ p.inWord % 2 ^ p.count * 2 ^ p.inImm % 4294967296
def Piece.into (p : Piece) (m : Nat) : Nat := m / 2 ^ p.inImm % 2 ^ p.count * 2 ^ p.inWord % 4294967296
def gather (ps : List Piece) (w : Nat) : Nat := ps.foldl (fun n p => n ||| p.from_ w) 0
def layImm (ps : List Piece) (m : Nat) : Nat := ps.foldl (fun n p => n ||| p.into m) 0
def immOf (w : Nat) (c : Int) : Int := wrap64 (ext ((gather (piecesOf c) w : Nat) : Int) (signedOf c))
def immLaid (m : Int) (c : Int) : Nat := layImm (piecesOf c) (m % 4294967296).toNat

theorem and31 (n : Nat) (h : n < 4294967296) : bits .and .u32 (n : Int) 31 = ((n % 32 : Nat) : Int) := by
  have := u32_and_nat n 31 h (by omega)
  rw [show n &&& 31 = n % 32 from Nat.and_two_pow_sub_one_eq_mod n 5] at this
  exact this
theorem andMask (n c : Nat) (h : n < 4294967296) (hc : c ≤ 31) : bits .and .u32 (n : Int) ((2 ^ c - 1 : Nat) : Int) = ((n % 2 ^ c : Nat) : Int) := by
  have h1 : (2 : Nat) ^ c ≤ 2 ^ 31 := Nat.pow_le_pow_right (by omega) hc
  have := u32_and_nat n (2 ^ c - 1) h (by omega)
  rw [Nat.and_two_pow_sub_one_eq_mod] at this
  exact this
theorem mask_is (c : Nat) (hc : c ≤ 31) : ((2 : Int) ^ c - 1) % 4294967296 = ((2 ^ c - 1 : Nat) : Int) := by
  have h1 : (2 : Nat) ^ c ≤ 2 ^ 31 := Nat.pow_le_pow_right (by omega) hc
  have h0 : 0 < 2 ^ c := Nat.two_pow_pos c
  have e : (2 : Int) ^ c = ((2 ^ c : Nat) : Int) := by rw [Int.natCast_pow]; rfl
  rw [e]; omega
theorem piece_lt (p : Piece) (w : Nat) : p.from_ w < 4294967296 := Nat.mod_lt _ (by omega)
theorem into_lt (p : Piece) (w : Nat) : p.into w < 4294967296 := Nat.mod_lt _ (by omega)
theorem or_lt32 {a b : Nat} (ha : a < 4294967296) (hb : b < 4294967296) : a ||| b < 4294967296 := Nat.or_lt_two_pow (n := 32) ha hb
theorem gather_lt (ps : List Piece) (w : Nat) : gather ps w < 4294967296 := by
  unfold gather
  have h : ∀ (ps : List Piece) (n : Nat), n < 4294967296 → ps.foldl (fun n p => n ||| p.from_ w) n < 4294967296 := by
    intro ps
    induction ps with
    | nil => intro n hn; exact hn
    | cons p ps ih => intro n hn; exact ih _ (or_lt32 hn (piece_lt p w))
  exact h ps 0 (by omega)
theorem lay_lt (ps : List Piece) (w : Nat) : layImm ps w < 4294967296 := by
  unfold layImm
  have h : ∀ (ps : List Piece) (n : Nat), n < 4294967296 → ps.foldl (fun n p => n ||| p.into w) n < 4294967296 := by
    intro ps
    induction ps with
    | nil => intro n hn; exact hn
    | cons p ps ih => intro n hn; exact ih _ (or_lt32 hn (into_lt p w))
  exact h ps 0 (by omega)
theorem gather_snoc (ps : List Piece) (w : Nat) (p : Piece) : gather (ps ++ [p]) w = gather ps w ||| p.from_ w := by simp [gather]
theorem lay_snoc (ps : List Piece) (w : Nat) (p : Piece) : layImm (ps ++ [p]) w = layImm ps w ||| p.into w := by simp [layImm]
end Go.Proofs.YtmfmakkiefgogaaDoor
