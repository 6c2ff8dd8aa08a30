/-
  fail.Parse of the text of a fault whose code is a word's and whose name is plain.
-/
import Derived.Test.YtjcefpeicbekhaaDoorParseS
namespace Go.Proofs.YtjcefpeicbekhaaDoor
open Go.RowKit

theorem dig_hd : ∀ d, d < 16 → dig (hd d).toNat = some d := by decide

theorem pu_hex (a : Nat) : a < 18446744073709551616 → ∀ (l : List UInt8) (r : PR), PuR l a r → PuR (hexL a ++ l) 0 r := by
  induction a using Nat.strongRecOn with
  | ind a ih =>
    intro ha l r h
    unfold hexL
    by_cases h16 : a < 16
    · rw [dif_pos h16]
      exact .step _ _ _ a _ (dig_hd a h16) (by omega) (by rw [show 0 * 16 + a = a by omega]; exact h)
    · rw [dif_neg h16, List.append_assoc]
      refine ih (a / 16) (by omega) (by omega) _ _ ?_
      refine .step _ _ _ (a % 16) _ (dig_hd _ (by omega)) (by omega) ?_
      rw [show a / 16 * 16 + a % 16 = a by omega]
      exact h
theorem pu_hex0 (a : Nat) (h : a < 18446744073709551616) : PuR (hexL a) 0 (PR.ok a) := by
  have := pu_hex a h [] (PR.ok a) (.done a)
  rwa [List.append_nil] at this

theorem wordAt_inj (i j : Nat) (hi : i < 27) (hj : j < 27) (h : wordAt i = wordAt j) : i = j := by
  apply words_inj i hi j hj
  have := congrArg (fun b : ByteArray => b.data.toList) h
  simpa [wordAt] using this

theorem numbered_at (n : Nat) (hn : n < 27) (w : World) (ht : Tabs w) : Calls Tryd.prog 18 #[.string (wordAt n)] w fun x w' => x = .returned (.tuple #[.int .i64 n, .bool true]) ∧ w' = w :=
  numbered_yes (wordAt n) n w ht hn (show _ = _ from rfl) (show ∀ j, j < n → wordAt j ≠ wordAt n from fun j hj e => by have := wordAt_inj j n (by omega) hn e; omega)

theorem address_at (a : Nat) (ha : a < 18446744073709551616) (w : World) : Calls Tryd.prog 19 #[.string ⟨(48 :: 120 :: hexL a).toArray⟩] w fun x w' => x = .returned (.int .u64 a) ∧ Below w.heap.size w w' := by
  have hl := hexL_le a ha
  have hne := hexL_ne a
  have hpos : 1 ≤ (hexL a).length := by
    cases h : hexL a with
    | nil => exact absurd h hne
    | cons _ _ => simp
  refine address_ok ⟨(48 :: 120 :: hexL a).toArray⟩ ⟨(hexL a).toArray⟩ a w ?_ ?_ ?_ ?_ ?_ ?_
  · show (48 :: 120 :: hexL a).toArray.size ≤ 1000
    simp; omega
  · show 2 ≤ (48 :: 120 :: hexL a).toArray.size
    simp
  · rw [toList_eq, Lib.extract_data]
    simp
  · apply ByteArray.ext; apply Array.toList_inj.1
    rw [Lib.extract_data]
    show List.take _ (List.drop 2 (48 :: 120 :: hexL a).toArray.toList) = _
    simp
    show List.take ((48 :: 120 :: hexL a).toArray.size - 2) (hexL a) = hexL a
    simp
  · show 1 ≤ (hexL a).toArray.size
    simpa using hpos
  · show PuR (hexL a).toArray.toList 0 (PR.ok a)
    simpa using pu_hex0 a ha

theorem word_wordAt (n : Nat) (hn : n < 27) : word (n : Int) = wordAt n := by
  unfold word
  rw [if_pos (by omega)]
  simp

theorem parse_text (n a : Nat) (nm s : ByteArray) (w : World) (hn : n < 27) (ha : a < 18446744073709551616) (hsz : nm.size ≤ 60) (hp : ∀ j (h : j < nm.size), 33 ≤ nm[j].toNat ∧ nm[j].toNat ≤ 126) (ht : Tabs w)
    (hs : s.size ≤ 1000) (hts : (⟨(textL (n : Int) a nm.data.toList).toArray⟩ : ByteArray) = s) : Calls Tryd.prog 10 #[.string s] w (Read n a nm w) := by
  have h32 : (32 : UInt8) ∉ nm.data.toList := by
    intro hm
    obtain ⟨j, hj, e⟩ := List.getElem_of_mem hm
    have hj2 : j < nm.size := by simpa using hj
    have := (hp j hj2).1
    have e2 : nm[j] = 32 := by rw [← e]; rfl
    rw [e2] at this
    exact absurd this (by decide)
  have hsp := split_text (n : Int) a nm.data.toList (by omega) (by omega) h32
  have hsd : s.data.toList = textL (n : Int) a nm.data.toList := by rw [← hts]
  rw [← hsd, Int.toNat_natCast] at hsp
  have hw0 : (wordAt n).data.toList = wordsL.getD n [] := rfl
  have PLn := fun w => plain_yes nm w (by omega) (show _ from hp)
  have PLe := fun w => plain_yes (⟨#[]⟩ : ByteArray) w (by decide) (show ∀ j (h : j < (⟨#[]⟩ : ByteArray).size), _ from fun j h => absurd h (by simp [ByteArray.size]))
  by_cases h0 : nm.data.toList = []
  · have he : nm = ⟨#[]⟩ := by apply ByteArray.ext; apply Array.toList_inj.1; simpa using h0
    subst he
    by_cases ha0 : a = 0
    · subst ha0
      exact parse_s1 s (wordAt n) n w hs ht (by show _ = _; rw [hsp]; simp [hw0]) (numbered_at n hn) PLe hts
    · exact parse_s3 s (wordAt n) ⟨#[97, 116]⟩ ⟨(48 :: 120 :: hexL a).toArray⟩ n a w hs ha ht (by show _ = _; rw [hsp]; simp [hw0, ha0]) (numbered_at n hn) (address_at a ha) PLe hts
  · by_cases ha0 : a = 0
    · subst ha0
      exact parse_s2 s (wordAt n) nm n w hs (by omega) ht (by show _ = _; rw [hsp]; simp [hw0, h0]) (numbered_at n hn) PLn hts
    · exact parse_s4 s (wordAt n) nm ⟨#[97, 116]⟩ ⟨(48 :: 120 :: hexL a).toArray⟩ n a w hs ha (by omega) ht (by show _ = _; rw [hsp]; simp [hw0, h0, ha0]) (numbered_at n hn) (address_at a ha) PLn hts
end Go.Proofs.YtjcefpeicbekhaaDoor
