/-
  Layer 2: the document's own words, digits and text (turnbuckleref02). Conditions: the number fits, the name's length.
-/
import Derived.Test.YtjcefpeicbekhaaDoorA8
namespace Go.Proofs.YtjcefpeicbekhaaDoor
open Go.ChangeShapes Go.WideShapes Go.ChangeAt Go.RowKit
set_option linter.unusedVariables false

set_option maxRecDepth 100000 in
set_option maxHeartbeats 1600000 in
theorem ref_words (w : World) : Calls Tryd.prog 16 #[] w fun e w' => ∃ B, e = .returned (.slice (some ⟨B, 0, none⟩) 27 27) ∧ (∀ j, j < 27 → w'.cell? ⟨B, j, none⟩ = some (.string (wordAt j))) ∧ Below w.heap.size w w' := by
  go_enter Tryd.func16, Tryd.ntmps16
  go_wp2
  go_ret
  refine ⟨_, rfl, fun j hj => ?_, (Below.refl _ w).alloc (Nat.le_refl _) _⟩
  obtain rfl | rfl | rfl | rfl | rfl | rfl | rfl | rfl | rfl | rfl | rfl | rfl | rfl | rfl | rfl | rfl | rfl | rfl | rfl | rfl | rfl | rfl | rfl | rfl | rfl | rfl | rfl : j = 0 ∨ j = 1 ∨ j = 2 ∨ j = 3 ∨ j = 4 ∨ j = 5 ∨ j = 6 ∨ j = 7 ∨ j = 8 ∨ j = 9 ∨ j = 10 ∨ j = 11 ∨ j = 12 ∨ j = 13 ∨ j = 14 ∨ j = 15 ∨ j = 16 ∨ j = 17 ∨ j = 18 ∨ j = 19 ∨ j = 20 ∨ j = 21 ∨ j = 22 ∨ j = 23 ∨ j = 24 ∨ j = 25 ∨ j = 26 := by omega
  all_goals simp [go_sem]
  all_goals rfl

set_option maxRecDepth 100000 in
set_option maxHeartbeats 1600000 in
theorem ref_word (c : Int) (w : World) : Calls Tryd.prog 8 #[.int .i64 c] w fun x w' => x = .returned (.string (word c)) ∧ Below w.heap.size w w' := by
  by_cases h0 : 0 ≤ c
  · by_cases h1 : c < 27
    · have H : Hid (word c = wordAt c.toNat) := if_pos ⟨h0, h1⟩
      go_enter Tryd.func8, Tryd.ntmps8
      go_wp2_with (go_at_call 16; refine (ref_words _).mono ?_; rintro e w1 ⟨B, rfl, hc, hb⟩; have hcx := hc c.toNat (by omega); clear hc)
      go_ret
      exact ⟨ret_str H.out.symm, hb⟩
    · have H : Hid (word c = ⟨#[117, 110, 107, 110, 111, 119, 110]⟩) := if_neg (by omega)
      go_enter Tryd.func8, Tryd.ntmps8
      go_wp2_with (go_at_call 16; refine (ref_words _).mono ?_; rintro e w1 ⟨B, rfl, hc, hb⟩; clear hc)
      go_ret
      exact ⟨ret_str H.out.symm, hb⟩
  · have H : Hid (word c = ⟨#[117, 110, 107, 110, 111, 119, 110]⟩) := if_neg (by omega)
    go_enter Tryd.func8, Tryd.ntmps8
    go_wp2_with (go_at_call 16; refine (ref_words _).mono ?_; rintro e w1 ⟨B, rfl, hc, hb⟩; clear hc)
    go_ret
    exact ⟨ret_str H.out.symm, hb⟩

def hxG (k : Nat) (t : List UInt8) : List UInt8 := if k = 0 ∧ t ≠ [] then t else hexL k ++ t
theorem hxG_step (k : Nat) (t : List UInt8) (h : ¬ (k = 0 ∧ t ≠ [])) : hxG (k / 16) (hd (k % 16) :: t) = hxG k t := by
  unfold hxG
  rw [if_neg h]
  conv => rhs; rw [hexL]
  by_cases hk : k < 16
  · rw [dif_pos hk, if_pos ⟨by omega, by simp⟩, Nat.mod_eq_of_lt hk]; rfl
  · rw [dif_neg hk, if_neg (by omega)]; simp

theorem ext_d (j : Nat) (hj : j < 16) (t : ByteArray) : ((ByteArray.extract ⟨#[48, 49, 50, 51, 52, 53, 54, 55, 56, 57, 97, 98, 99, 100, 101, 102]⟩ j (j + 1)) ++ t).data.toList = hd j :: t.data.toList := by
  have h : ∀ j : Fin 16, (ByteArray.extract ⟨#[48, 49, 50, 51, 52, 53, 54, 55, 56, 57, 97, 98, 99, 100, 101, 102]⟩ j.val (j.val + 1)).data.toList = [hd j.val] := by decide +kernel
  have h2 := h ⟨j, hj⟩
  simp only [ByteArray.data_append, Array.toList_append, h2]
  rfl

def emp : Value → Nat
  | .string t => if t.data.toList = [] then 1 else 0
  | _ => 0

set_option maxRecDepth 100000 in
set_option maxHeartbeats 1600000 in
theorem ref_hex (a : Nat) (w : World) (ha : a < 18446744073709551616) :
    Calls Tryd.prog 15 #[.int .u64 a] w fun x w' => x = .returned (.string ⟨(hexL a).toArray⟩) ∧ w' = w := by
  have hle := hexL_le a ha
  have HA : Hid ((hexL a).length ≤ 16) := hle
  clear hle
  go_enter Tryd.func15, Tryd.ntmps15
  go_wp2
  go_loop [0, 4] (fun n s => ∃ (k : Nat) (t : ByteArray), k < 18446744073709551616 ∧ n = .int .u64 k ∧ s = .string t ∧ Hid (hxG k t.data.toList = hexL a)) (fun n s => 2 * (intOf n).toNat + emp s)
  case atStart => exact ⟨a, ⟨#[]⟩, ha, rfl, rfl, by show _ = _; simp [hxG]⟩
  case round =>
    obtain ⟨k, t, hk, rfl, rfl, HX⟩ := hrel
    have htl : t.size ≤ 16 := by
      have h1 := HA.out
      rw [← HX.out] at h1
      unfold hxG at h1
      have h2 : t.data.toList.length = t.size := by simp
      split at h1
      · omega
      · simp at h1; omega
    by_cases hk0 : k = 0
    · subst hk0
      by_cases hte : t.data.toList = []
      · have hte2 : t = ⟨#[]⟩ := bytes_eq (by rw [hte])
        subst hte2
        clear htl hte HA
        go_wp2
        refine ⟨⟨0, _, by omega, rfl, rfl, ?_⟩, ?_⟩
        · show hxG 0 _ = _
          rw [ext_d 0 (by omega)]
          exact (hxG_step 0 [] (by simp)).trans HX.out
        · simp only [emp, ext_d 0 (show 0 < 16 by omega)]
          simp [intOf]
      · have hte2 : t.toList.isEmpty = false := by
          rw [toList_eq]
          cases hl : t.data.toList with
          | nil => exact absurd hl hte
          | cons _ _ => rfl
        have H : Hid (t.data.toList = hexL a) := by
          have := HX.out
          unfold hxG at this
          rw [if_pos ⟨rfl, hte⟩] at this
          exact this
        clear hte HX HA
        go_wp2
        go_ret
        exact ⟨ret_str (bytes_eq (by rw [H.out])), rfl⟩
    · have hkp : (0 : Int) < (k : Int) := by omega
      go_wp2
      refine ⟨⟨k / 16, _, by omega, by go_num, rfl, ?_⟩, ?_⟩
      · show hxG (k / 16) _ = _
        rw [ext_d (k % 16) (by omega)]
        exact (hxG_step k _ (by omega)).trans HX.out
      · simp only [emp, ext_d (k % 16) (show k % 16 < 16 by omega)]
        simp [intOf]
        omega

set_option maxRecDepth 100000 in
set_option maxHeartbeats 1600000 in
theorem ref_text (c : Int) (a : Nat) (n : ByteArray) (w : World) (ha : a < 18446744073709551616) (hn : n.size ≤ 1000) :
    Calls Tryd.prog 6 #[.agg #[.int .i64 c, .int .u64 a, .string n]] w fun x w' => x = .returned (.string ⟨(textL c a n.data.toList).toArray⟩) ∧ Below w.heap.size w w' := by
  have hws := word_size c
  have hxl := hexL_le a ha
  obtain ⟨wd, hwd⟩ : ∃ wd, wd = word c := ⟨_, rfl⟩
  obtain ⟨hx, hhx⟩ : ∃ hx : ByteArray, hx = ⟨(hexL a).toArray⟩ := ⟨_, rfl⟩
  have hxs : hx.size ≤ 16 := by rw [hhx]; show (hexL a).toArray.size ≤ 16; simpa using hxl
  have W22 : ∀ w, Calls Tryd.prog 8 #[.int .i64 c] w fun x w' => x = .returned (.string wd) ∧ Below w.heap.size w w' := by rw [hwd]; exact fun w => ref_word c w
  have F23 : ∀ w, Calls Tryd.prog 15 #[.int .u64 a] w fun x w' => x = .returned (.string hx) ∧ w' = w := by rw [hhx]; exact fun w => ref_hex a w ha
  rw [← hwd] at hws
  have HW : Hid (wd = word c) := hwd
  have HX : Hid (hx = ⟨(hexL a).toArray⟩) := hhx
  clear hwd hhx hxl
  go_enter Tryd.func6, Tryd.ntmps6
  go_wp2_with (first | (go_at_call 8; refine (W22 _).mono ?_; rintro e w1 ⟨rfl, hb⟩; have q0 := (hb.cell (p := ⟨w.heap.size, 1, none⟩) (by show w.heap.size < _; simp)); have q1 := (hb.cell (p := ⟨w.heap.size, 2, none⟩) (by show w.heap.size < _; simp)); simp [go_sem] at q0 q1) | (go_at_call 15; refine (F23 _).mono ?_; rintro e w1 ⟨rfl, hw1⟩; subst hw1))
  · go_ret
    exact ⟨ret_str (text_eq c a n _ true true ‹_› (by simp; omega) (by rw [HW.out, HX.out]; simp)), ((Below.refl _ w).alloc (Nat.le_refl _) _).trans (hb.mono (by simp))⟩
  · go_ret
    exact ⟨ret_str (text_eq c a n _ true false ‹_› (by simp; omega) (by rw [HW.out]; simp)), ((Below.refl _ w).alloc (Nat.le_refl _) _).trans (hb.mono (by simp))⟩
  · go_ret
    exact ⟨ret_str (text_eq c a n _ false true ‹_› (by simp; omega) (by rw [HW.out, HX.out]; simp)), ((Below.refl _ w).alloc (Nat.le_refl _) _).trans (hb.mono (by simp))⟩
  · go_ret
    exact ⟨ret_str (text_eq c a n _ false false ‹_› (by simp; omega) (by rw [HW.out]; simp)), ((Below.refl _ w).alloc (Nat.le_refl _) _).trans (hb.mono (by simp))⟩
end Go.Proofs.YtjcefpeicbekhaaDoor
