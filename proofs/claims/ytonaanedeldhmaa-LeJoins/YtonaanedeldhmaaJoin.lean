/-
  Plain mathematics for LeJoins: numbers put one behind the other, and what stands at each place. No condition.
-/
import Derived.Test.YtonaanedeldhmaaA3
namespace Go.Proofs.Ytonaanedeldhmaa
open Go.RowKit

def cat (f : Nat → Nat) (n : Nat) : Nat → List UInt8
  | 0 => []
  | k + 1 => cat f n k ++ enc (f k) n

theorem cat_length (f : Nat → Nat) (n : Nat) : ∀ k, (cat f n k).length = n * k
  | 0 => by simp [cat]
  | k + 1 => by simp [cat, cat_length f n k, enc_length, Nat.mul_succ]

theorem cat_more (f : Nat → Nat) (n j : Nat) : ∀ k, j < k → ∃ r, cat f n k = cat f n j ++ enc (f j) n ++ r
  | 0, h => by omega
  | k + 1, h => by
    by_cases e : j = k
    · subst e; exact ⟨[], by simp [cat]⟩
    · obtain ⟨r, hr⟩ := cat_more f n j k (by omega)
      exact ⟨r ++ enc (f k) n, by simp [cat, hr]⟩

theorem cat_part (f : Nat → Nat) (n j k : Nat) (h : j < k) : (⟨(cat f n k).toArray⟩ : ByteArray).extract (n * j) (n * j + n) = ⟨(enc (f j) n).toArray⟩ := by
  obtain ⟨r, hr⟩ := cat_more f n j k h
  apply ByteArray.ext
  apply Array.toList_inj.1
  rw [Lib.extract_data]
  show ((cat f n k).drop (n * j)).take (n * j + n - n * j) = enc (f j) n
  rw [hr, List.append_assoc, ← cat_length f n j, List.drop_left, Nat.add_sub_cancel_left]
  exact List.take_left' (enc_length _ _)

theorem and7 (a : Int) : ∃ q : Nat, bits BinOp.and IntKind.i64 a 7 = (q : Int) ∧ q ≤ 7 := by
  have hl : ((BitVec.ofInt 64 a) &&& (BitVec.ofInt 64 7)).toNat ≤ 7 := by
    rw [BitVec.toNat_and]
    exact Nat.and_le_right
  refine ⟨((BitVec.ofInt 64 a) &&& (BitVec.ofInt 64 7)).toNat, ?_, hl⟩
  show IntKind.i64.wrap (((BitVec.ofInt 64 a) &&& (BitVec.ofInt 64 7)).toNat : Int) = _
  rw [IntKind.wrap_i64]
  omega

theorem mul_bd (q j k : Nat) (h : j < k) : (q + 1) * j + (q + 1) ≤ (q + 1) * k := by
  rw [← Nat.mul_succ]; exact Nat.mul_le_mul_left _ h
theorem mul_top (q k : Nat) (hq : q ≤ 7) (hk : k ≤ 40) : (q + 1) * k ≤ 320 := by
  have := Nat.mul_le_mul (show q + 1 ≤ 8 by omega) hk
  omega
end Go.Proofs.Ytonaanedeldhmaa
