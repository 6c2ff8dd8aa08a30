/-
  Layer 12: definitions one behind the other, as bytes, and what is read of them. No condition.
-/
import Derived.Test.YtnlpncgblegbkaaV1
namespace Go.Proofs.Ytnlpncgblegbkaa
open Go.RowKit
set_option linter.unusedVariables false

theorem ba_ext {s t : ByteArray} (h : s.data.toList = t.data.toList) : s = t := by
  obtain ⟨⟨a⟩⟩ := s
  obtain ⟨⟨b⟩⟩ := t
  simp only at h
  rw [h]
theorem extract_list (s : ByteArray) (i j : Nat) : (s.extract i j).data.toList = (s.data.toList.drop i).take (j - i) := by
  rw [Lib.extract_data]
theorem part_of (a m c : List UInt8) (s : ByteArray) (h : s.data.toList = a ++ (m ++ c)) : (s.extract a.length (a.length + m.length)).data.toList = m := by
  rw [extract_list, h, List.drop_left, Nat.add_sub_cancel_left, List.take_left]
theorem piece {a m c : List UInt8} {s : ByteArray} (h : s.data.toList = a ++ (m ++ c)) (lo hi : Nat) (h1 : a.length = lo) (h2 : lo + m.length = hi) : (s.extract lo hi).data.toList = m := by
  subst h1; subst h2; exact part_of a m c s h
theorem num_encm (s : ByteArray) (x m : Nat) (h : s.data.toList = enc x m) (hm : m ≤ 8) : num s = ((x % 256 ^ m : Nat) : Int) := by
  have hs : s.size = m := by
    have : s.data.toList.length = m := by rw [h, enc_length]
    simpa using this
  rw [num_small s (by omega), h, dec_enc]

def A (n m : Nat) : ByteArray := ⟨(enc n m).toArray⟩
theorem A_list (n m : Nat) : (A n m).data.toList = enc n m := by simp [A]
theorem A_size (n m : Nat) : (A n m).size = m := by
  have h : (A n m).data.toList.length = m := by rw [A_list, enc_length]
  simpa using h

/-- The bytes of an entry with its name behind it. -/
def entB (z p : Nat) : ByteArray := (((((((A 1 2 ++ A 0 2) ++ A z 2) ++ A 1 2) ++ A 0 4) ++ A 20 4) ++ A 28 4) ++ A p 4) ++ A 0 4
theorem entB_list (z p : Nat) : (entB z p).data.toList = enc 1 2 ++ (enc 0 2 ++ (enc z 2 ++ (enc 1 2 ++ (enc 0 4 ++ (enc 20 4 ++ (enc 28 4 ++ (enc p 4 ++ enc 0 4))))))) := by
  unfold entB
  simp only [ByteArray.data_append, Array.toList_append, A_list, List.append_assoc]
theorem entB_len (z p : Nat) : (entB z p).data.toList.length = 28 := by rw [entB_list]; simp [enc_length]
def PB (z p : Nat → Nat) : Nat → ByteArray
  | 0 => ⟨#[]⟩
  | k + 1 => PB z p k ++ entB (z k) (p k)
theorem PB_list (z p : Nat → Nat) (k : Nat) : (PB z p (k + 1)).data.toList = (PB z p k).data.toList ++ (entB (z k) (p k)).data.toList := by
  show (PB z p k ++ entB (z k) (p k)).data.toList = _
  simp
theorem PB_len (z p : Nat → Nat) : ∀ k, (PB z p k).data.toList.length = 28 * k
  | 0 => rfl
  | k + 1 => by rw [PB_list, List.length_append, PB_len z p k, entB_len]; omega
theorem PB_size (z p : Nat → Nat) (k : Nat) : (PB z p k).size = 28 * k := by
  have h := PB_len z p k
  have e : (PB z p k).data.toList.length = (PB z p k).size := by simp
  omega
theorem PB_split (z p : Nat → Nat) : ∀ (n k : Nat), k < n → ∃ R, (PB z p n).data.toList = (PB z p k).data.toList ++ ((entB (z k) (p k)).data.toList ++ R)
  | 0, k, h => absurd h (by omega)
  | n + 1, k, h => by
    by_cases e : k = n
    · subst e
      exact ⟨[], by rw [PB_list, List.append_nil]⟩
    · obtain ⟨R, hR⟩ := PB_split z p n k (by omega)
      exact ⟨R ++ (entB (z n) (p n)).data.toList, by rw [PB_list, hR]; simp⟩

theorem PB_at (z p : Nat → Nat) (n k : Nat) (h : k < n) :
    num ((PB z p n).extract (28 * k) (28 * k + 2)) = 1 ∧ num ((PB z p n).extract (28 * k + 4) (28 * k + 6)) = ((z k % 65536 : Nat) : Int) ∧ num ((PB z p n).extract (28 * k + 6) (28 * k + 8)) = 1 ∧
    num ((PB z p n).extract (28 * k + 12) (28 * k + 16)) = 20 ∧ num ((PB z p n).extract (28 * k + 16) (28 * k + 20)) = 28 ∧ num ((PB z p n).extract (28 * k + 20) (28 * k + 24)) = ((p k % 4294967296 : Nat) : Int) := by
  obtain ⟨R, hR⟩ := PB_split z p n k h
  have hl := PB_len z p k
  rw [entB_list] at hR
  generalize (PB z p k).data.toList = X at hR hl
  have e2 : ∀ x, (enc x 2).length = 2 := fun x => enc_length 2 x
  have e4 : ∀ x, (enc x 4).length = 4 := fun x => enc_length 4 x
  have key : ∀ (a m c : List UInt8) (lo hi x sz : Nat), (PB z p n).data.toList = a ++ (m ++ c) → a.length = lo → lo + m.length = hi → m = enc x sz → sz ≤ 8 → num ((PB z p n).extract lo hi) = ((x % 256 ^ sz : Nat) : Int) := by
    intro a m c lo hi x sz h1 h2 h3 h4 h5
    exact num_encm _ x sz (by rw [piece h1 lo hi h2 h3, h4]) h5
  refine ⟨?_, ?_, ?_, ?_, ?_, ?_⟩
  · exact (key X (enc 1 2) _ _ _ 1 2 (by rw [hR]; simp only [List.append_assoc]; rfl) hl (by rw [e2]) rfl (by omega)).trans rfl
  · exact (key (X ++ (enc 1 2 ++ enc 0 2)) (enc (z k) 2) _ _ _ (z k) 2 (by rw [hR]; simp only [List.append_assoc]; rfl) (by simp [e2, hl]) (by rw [e2]) rfl (by omega)).trans rfl
  · exact (key (X ++ (enc 1 2 ++ (enc 0 2 ++ enc (z k) 2))) (enc 1 2) _ _ _ 1 2 (by rw [hR]; simp only [List.append_assoc]; rfl) (by simp [e2, hl]) (by rw [e2]) rfl (by omega)).trans rfl
  · exact (key (X ++ (enc 1 2 ++ (enc 0 2 ++ (enc (z k) 2 ++ (enc 1 2 ++ enc 0 4))))) (enc 20 4) _ _ _ 20 4 (by rw [hR]; simp only [List.append_assoc]; rfl) (by simp [e2, e4, hl]) (by rw [e4]) rfl (by omega)).trans rfl
  · exact (key (X ++ (enc 1 2 ++ (enc 0 2 ++ (enc (z k) 2 ++ (enc 1 2 ++ (enc 0 4 ++ enc 20 4)))))) (enc 28 4) _ _ _ 28 4 (by rw [hR]; simp only [List.append_assoc]; rfl) (by simp [e2, e4, hl]) (by rw [e4]) rfl (by omega)).trans rfl
  · exact (key (X ++ (enc 1 2 ++ (enc 0 2 ++ (enc (z k) 2 ++ (enc 1 2 ++ (enc 0 4 ++ (enc 20 4 ++ enc 28 4))))))) (enc (p k) 4) _ _ _ (p k) 4 (by rw [hR]; simp only [List.append_assoc]; rfl) (by simp [e2, e4, hl]) (by rw [e4]) rfl (by omega)).trans rfl

def nm8 : ByteArray := ⟨#[97, 0, 98, 0, 99, 0, 100, 0]⟩
def let4 (k : Nat) : ByteArray := nm8.extract (2 * (k % 4)) (2 * (k % 4) + 1)
theorem txt80 : txt nm8 ((0 : Nat) : Int) 32 = (nm8.extract 0 1, true) := by kernel_rfl
theorem txt82 : txt nm8 ((2 : Nat) : Int) 32 = (nm8.extract 2 3, true) := by kernel_rfl
theorem txt84 : txt nm8 ((4 : Nat) : Int) 32 = (nm8.extract 4 5, true) := by kernel_rfl
theorem txt86 : txt nm8 ((6 : Nat) : Int) 32 = (nm8.extract 6 7, true) := by kernel_rfl
theorem txt8 (k : Nat) : txt nm8 ((2 * (k % 4) % 4294967296 : Nat) : Int) 32 = (let4 k, true) := by
  have h : k % 4 = 0 ∨ k % 4 = 1 ∨ k % 4 = 2 ∨ k % 4 = 3 := by omega
  unfold let4
  rcases h with h | h | h | h
  all_goals rw [h]
  · exact txt80
  · exact txt82
  · exact txt84
  · exact txt86

/-- What is read of an entry. -/
theorem PB_def (z : Nat → Nat) (n k : Nat) (h : k < n) : defF (PB z (fun j => 2 * (j % 4)) n) nm8 ((PB z (fun j => 2 * (j % 4)) n).extract (28 * k) (28 * k + 20)) (28 * k) = ((((z k % 65536 : Nat) : Int) % 32768, let4 k), 0) := by
  obtain ⟨b, hb⟩ : ∃ b, PB z (fun j => 2 * (j % 4)) n = b := ⟨_, rfl⟩
  have hz := PB_size z (fun j => 2 * (j % 4)) n
  obtain ⟨h1, h2, h3, h4, h5, h6⟩ := PB_at z (fun j => 2 * (j % 4)) n k h
  rw [hb] at hz h1 h2 h3 h4 h5 h6
  rw [hb]
  have X := fun i j (hj : j ≤ 20) => ext_ext b (28 * k) 20 i j hj (by omega)
  unfold defF
  rw [X 12 16 (by omega), X 0 2 (by omega), X 6 8 (by omega), X 4 6 (by omega), h4, show (28 * k + 0) = 28 * k from rfl, h1, h2, h3]
  have es : (b.extract (28 * k) (28 * k + 20)).size = 20 := by simp; omega
  have e20 : ((20 : Int)).toNat = 20 := rfl
  rw [e20, if_neg (show ¬ (b.extract (28 * k) (28 * k + 20)).size = 0 by omega), if_neg (show ¬ b.size < 28 * k + 20 + 8 by omega), if_pos (show ((1 : Int) == 1 && (1 : Int) != 0) = true by decide),
    ext_ext b (28 * k + 20) 8 0 4 (by omega) (by omega), show 28 * k + 20 + 0 = 28 * k + 20 from rfl, show 28 * k + 20 + 4 = 28 * k + 24 by omega, h6, txt8 k]
  rfl

/-- The entries that a chain comes by. -/
theorem PB_ents (z : Nat → Nat) (K : Nat) (hb : (PB z (fun j => 2 * (j % 4)) K).size ≤ 140737488351232) : ∀ (k j : Nat) (q : Nat) (hq : q < 1125899906842624), q = 28 * j → j + k ≤ K →
    (entL (PB z (fun j => 2 * (j % 4)) K) 20 (by omega) hb k q hq).map Ent.pl = (List.range' j k).map fun i => (28 * i, (PB z (fun j => 2 * (j % 4)) K).extract (28 * i) (28 * i + 20))
  | 0, j, q, hq, _, _ => by simp [entL]
  | k + 1, j, q, hq, e, h => by
    subst e
    have hz := PB_size z (fun j => 2 * (j % 4)) K
    obtain ⟨_, _, _, _, h5, _⟩ := PB_at z (fun j => 2 * (j % 4)) K j (by omega)
    rw [entL_yes _ 20 _ hb k (28 * j) hq (by omega)]
    have e1 : (num (((PB z (fun j => 2 * (j % 4)) K).extract (28 * j) (28 * j + 20)).extract (20 - 4) 20)).toNat = 28 := by
      rw [ext_ext _ (28 * j) 20 16 20 (by omega) (by omega), h5]; rfl
    rw [List.map_cons, PB_ents z K hb k (j + 1) _ _ (by rw [e1]; omega) (by omega), List.range'_succ, List.map_cons]
    rfl
/-- .. and one more, which isn't there. -/
theorem PB_ents_more (z : Nat → Nat) (K : Nat) (hb : (PB z (fun j => 2 * (j % 4)) K).size ≤ 140737488351232) : ∀ (k j : Nat) (q : Nat) (hq : q < 1125899906842624), q = 28 * j → j + k = K →
    (entL (PB z (fun j => 2 * (j % 4)) K) 20 (by omega) hb (k + 1) q hq).map Ent.pl = ((List.range' j k).map fun i => (28 * i, (PB z (fun j => 2 * (j % 4)) K).extract (28 * i) (28 * i + 20))) ++ [(28 * K, ⟨#[]⟩)]
  | 0, j, q, hq, e, h => by
    subst e
    have hz := PB_size z (fun j => 2 * (j % 4)) K
    rw [entL_no _ 20 _ hb 0 (28 * j) hq (by omega)]
    obtain rfl : j = K := by omega
    rfl
  | k + 1, j, q, hq, e, h => by
    subst e
    have hz := PB_size z (fun j => 2 * (j % 4)) K
    obtain ⟨_, _, _, _, h5, _⟩ := PB_at z (fun j => 2 * (j % 4)) K j (by omega)
    rw [entL_yes _ 20 _ hb (k + 1) (28 * j) hq (by omega)]
    have e1 : (num (((PB z (fun j => 2 * (j % 4)) K).extract (28 * j) (28 * j + 20)).extract (20 - 4) 20)).toNat = 28 := by
      rw [ext_ext _ (28 * j) 20 16 20 (by omega) (by omega), h5]; rfl
    rw [List.map_cons, PB_ents_more z K hb k (j + 1) _ _ (by rw [e1]; omega) (by omega), List.range'_succ, List.map_cons]
    rfl

theorem and15i (z : Int) : bits BinOp.and IntKind.i64 z 32767 = (((z % 18446744073709551616).toNat % 65536 : Nat) : Int) % 32768 := by
  have e : ((BitVec.ofInt 64 z) &&& (BitVec.ofInt 64 32767)).toNat = (z % 18446744073709551616).toNat % 32768 := by
    rw [BitVec.toNat_and]
    have e1 : (BitVec.ofInt 64 z).toNat = (z % 18446744073709551616).toNat := by simp
    have e2 : (BitVec.ofInt 64 32767).toNat = 2 ^ 15 - 1 := by decide
    rw [e1, e2, Nat.and_two_pow_sub_one_eq_mod]
  show IntKind.i64.wrap (((BitVec.ofInt 64 z) &&& (BitVec.ofInt 64 32767)).toNat : Int) = _
  rw [e, IntKind.wrap_i64]
  omega
theorem and3n (k : Nat) (h : k < 1000) : bits BinOp.and IntKind.i64 (k : Int) 3 = ((k % 4 : Nat) : Int) := by
  have e : ((BitVec.ofInt 64 (k : Int)) &&& (BitVec.ofInt 64 3)).toNat = k % 4 := by
    rw [BitVec.toNat_and]
    have e1 : (BitVec.ofInt 64 (k : Int)).toNat = k := by simp; omega
    have e2 : (BitVec.ofInt 64 3).toNat = 2 ^ 2 - 1 := by decide
    rw [e1, e2, Nat.and_two_pow_sub_one_eq_mod]
  show IntKind.i64.wrap (((BitVec.ofInt 64 (k : Int)) &&& (BitVec.ofInt 64 3)).toNat : Int) = _
  rw [e, IntKind.wrap_i64]
  omega
end Go.Proofs.Ytnlpncgblegbkaa
