/-
  Layer 11: what is read of a symbol's bytes. No condition.
-/
import Derived.Test.YtackjpmpkklgiaaS5
namespace Go.Proofs.Ytackjpmpkklgiaa
open Go.RowKit
set_option linter.unusedVariables false

theorem symB_list (b k v x z n : Nat) (d : Bool) : (symB b k v d x z n).data.toList = enc n 4 ++ (enc (b * 16 + k) 1 ++ (enc v 1 ++ (enc (if d then 1 else 0) 2 ++ (enc x 8 ++ enc z 8)))) := by
  unfold symB
  simp

theorem extract_list (s : ByteArray) (i j : Nat) : (s.extract i j).data.toList = (s.data.toList.drop i).take (j - i) := by
  rw [Lib.extract_data]

theorem part_of (a m c : List UInt8) (s : ByteArray) (h : s.data.toList = a ++ (m ++ c)) : (s.extract a.length (a.length + m.length)).data.toList = m := by
  rw [extract_list, h, List.drop_left, Nat.add_sub_cancel_left, List.take_left]

theorem num_enc (s : ByteArray) (x m : Nat) (h : s.data.toList = enc x m) (hm : m ≤ 8) (hx : x < 256 ^ m) : num s = (x : Int) := by
  have hs : s.size = m := by
    have : s.data.toList.length = m := by rw [h, enc_length]
    simpa using this
  rw [num_small s (by omega), h, dec_enc, Nat.mod_eq_of_lt hx]

theorem symB_name (b k v x z n : Nat) (d : Bool) (hn : n < 4294967296) : num ((symB b k v d x z n).extract 0 4) = (n : Int) := by
  refine num_enc _ n 4 ?_ (by omega) (by omega)
  have := part_of [] (enc n 4) _ (symB b k v d x z n) (by rw [symB_list]; rfl)
  simpa [enc_length] using this
theorem symB_info (b k v x z n : Nat) (d : Bool) (hb : b ≤ 2) (hk : k ≤ 15) : byteAt (symB b k v d x z n) 4 = b * 16 + k := by
  unfold byteAt
  rw [symB_list, List.getD_eq_getElem?_getD, List.getElem?_append_right (by rw [enc_length]; omega), enc_length]
  simp [enc]
  omega
theorem symB_other (b k v x z n : Nat) (d : Bool) (hv : v ≤ 3) : byteAt (symB b k v d x z n) 5 = v := by
  unfold byteAt
  rw [symB_list, List.getD_eq_getElem?_getD, List.getElem?_append_right (by rw [enc_length]; omega), enc_length, List.getElem?_append_right (by rw [enc_length]; omega), enc_length]
  simp [enc]
  omega
theorem symB_def (b k v x z n : Nat) (d : Bool) : num ((symB b k v d x z n).extract 6 8) = ((if d then 1 else 0 : Nat) : Int) := by
  refine num_enc _ _ 2 ?_ (by omega) (by cases d <;> decide)
  have := part_of (enc n 4 ++ (enc (b * 16 + k) 1 ++ enc v 1)) (enc (if d then 1 else 0) 2) (enc x 8 ++ enc z 8) (symB b k v d x z n) (by rw [symB_list]; simp)
  simpa [enc_length] using this
theorem symB_value (b k v x z n : Nat) (d : Bool) (hx : x < 18446744073709551616) : num ((symB b k v d x z n).extract 8 16) = (x : Int) := by
  refine num_enc _ x 8 ?_ (by omega) (by omega)
  have := part_of (enc n 4 ++ (enc (b * 16 + k) 1 ++ (enc v 1 ++ enc (if d then 1 else 0) 2))) (enc x 8) (enc z 8) (symB b k v d x z n) (by rw [symB_list]; simp)
  simpa [enc_length] using this
theorem symB_len (b k v x z n : Nat) (d : Bool) (hz : z < 18446744073709551616) : num ((symB b k v d x z n).extract 16 24) = (z : Int) := by
  refine num_enc _ z 8 ?_ (by omega) (by omega)
  have := part_of (enc n 4 ++ (enc (b * 16 + k) 1 ++ (enc v 1 ++ (enc (if d then 1 else 0) 2 ++ enc x 8)))) (enc z 8) [] (symB b k v d x z n) (by rw [symB_list]; simp)
  simpa [enc_length] using this

theorem symF_symB (b k v x z n : Nat) (d : Bool) (names t : ByteArray) (hb : b ≤ 2) (hk : k ≤ 15) (hv : v ≤ 3) (hx : x < 18446744073709551616) (hz : z < 18446744073709551616) (hn : n < 4294967296) (ht : txt names (n : Int) 32 = (t, true)) :
    symF (symB b k v d x z n) names = (⟨t, (b : Int), (k : Int), (v : Int), d, (x : Int), (z : Int)⟩, 0) := by
  unfold symF
  rw [symB_name b k v x z n d hn, ht, symB_info b k v x z n d hb hk, symB_other b k v x z n d hv, symB_def, symB_value b k v x z n d hx, symB_len b k v x z n d hz]
  have e1 : ¬ 2 < (b * 16 + k) / 16 := by omega
  have e2 : (b * 16 + k) / 16 = b := by omega
  have e3 : (b * 16 + k) % 16 = k := by omega
  have e4 : v % 4 = v := by omega
  rw [if_pos (show ((t, true) : ByteArray × Bool).2 = true from rfl), if_neg e1, e2, e3, e4]
  have e5 : (((if d then 1 else 0 : Nat) : Int) != 0) = d := by cases d <;> decide
  rw [e5]

/-- A symbol's bytes with another name's place. -/
theorem symB_zero (b k v x z n : Nat) (d : Bool) : (⟨#[0, 0, 0, 0]⟩ : ByteArray) ++ (symB b k v d x z n).extract 4 24 = symB b k v d x z 0 := by
  apply ByteArray.ext
  apply Array.toList_inj.1
  rw [symB_list]
  have h1 : ((symB b k v d x z n).extract 4 24).data.toList = enc (b * 16 + k) 1 ++ (enc v 1 ++ (enc (if d then 1 else 0) 2 ++ (enc x 8 ++ enc z 8))) := by
    have := part_of (enc n 4) (enc (b * 16 + k) 1 ++ (enc v 1 ++ (enc (if d then 1 else 0) 2 ++ (enc x 8 ++ enc z 8)))) [] (symB b k v d x z n) (by rw [symB_list]; simp)
    simpa [enc_length] using this
  have e0 : enc 0 4 = [0, 0, 0, 0] := by decide
  rw [ByteArray.data_append, Array.toList_append, h1, e0]

/-- As the document has it. -/
theorem symB_ref (b k v x z n : Nat) (d : Bool) (hb : b ≤ 2) (hk : k ≤ 15) (hv : v ≤ 3) :
    ((((⟨(enc n 4).toArray⟩ ++ ⟨#[UInt8.ofNat (16 * b + k), UInt8.ofNat v]⟩ : ByteArray) ++ ⟨(enc (if d then 1 else 0) 2).toArray⟩) ++ ⟨(enc x 8).toArray⟩) ++ ⟨(enc z 8).toArray⟩) = symB b k v d x z n := by
  apply ByteArray.ext
  apply Array.toList_inj.1
  rw [symB_list]
  have e1 : enc (b * 16 + k) 1 = [UInt8.ofNat (16 * b + k)] := by
    simp only [enc]
    rw [show (b * 16 + k) % 256 = 16 * b + k by omega]
  have e2 : enc v 1 = [UInt8.ofNat v] := by
    simp only [enc]
    rw [show v % 256 = v by omega]
  rw [e1, e2]
  simp
end Go.Proofs.Ytackjpmpkklgiaa
