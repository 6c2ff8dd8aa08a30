/-
  Plain mathematics of the faults' texts: the parts of a text between blanks tell the fault. No condition.
-/
import Derived.Test.YtjcefpeicbekhaaDoorA4
namespace Go.Proofs.YtjcefpeicbekhaaDoor
open Go.RowKit

theorem split_plain : ∀ p : List UInt8, (32 : UInt8) ∉ p → split p = [p]
  | [], _ => rfl
  | c :: p, h => by
    simp only [List.mem_cons, not_or] at h
    unfold split
    rw [if_neg (fun e => h.1 e.symm), split_plain p h.2]
theorem split_join : ∀ (p l : List UInt8), (32 : UInt8) ∉ p → split (p ++ 32 :: l) = p :: split l
  | [], l, _ => by simp [split]
  | c :: p, l, h => by
    simp only [List.mem_cons, not_or] at h
    rw [List.cons_append, split, if_neg (fun e => h.1 e.symm), split_join p l h.2]

theorem hd_inj : ∀ a b : Fin 16, hd a.val = hd b.val → a = b := by decide
theorem hd_plain : ∀ a : Fin 16, hd a.val ≠ 32 := by decide

theorem hexL_ne (n : Nat) : hexL n ≠ [] := by
  unfold hexL; split <;> simp
theorem hexL_plain (n : Nat) : (32 : UInt8) ∉ hexL n := by
  induction n using Nat.strongRecOn with
  | _ n ih =>
    unfold hexL
    split
    · rename_i h
      simp only [List.mem_singleton]
      exact fun e => hd_plain ⟨n, h⟩ e.symm
    · rename_i h
      simp only [List.mem_append, List.mem_singleton, not_or]
      exact ⟨ih (n / 16) (by omega), fun e => hd_plain ⟨n % 16, by omega⟩ e.symm⟩
theorem hexL_inj (n : Nat) : ∀ m, hexL n = hexL m → n = m := by
  induction n using Nat.strongRecOn with
  | _ n ih =>
    intro m h
    by_cases hn : n < 16
    · by_cases hm : m < 16
      · unfold hexL at h
        rw [dif_pos hn, dif_pos hm] at h
        have := hd_inj ⟨n, hn⟩ ⟨m, hm⟩ (by simpa using h)
        simpa using this
      · exfalso
        unfold hexL at h
        rw [dif_pos hn, dif_neg hm] at h
        have h1 := congrArg List.length h
        have h2 := List.length_pos_iff.2 (hexL_ne (m / 16))
        simp at h1
        exact hexL_ne _ h1
    · by_cases hm : m < 16
      · exfalso
        unfold hexL at h
        rw [dif_neg hn, dif_pos hm] at h
        have h1 := congrArg List.length h
        simp at h1
        exact hexL_ne _ h1
      · unfold hexL at h
        rw [dif_neg hn, dif_neg hm] at h
        obtain ⟨h1, h2⟩ := List.append_inj' h rfl
        have e1 := ih (n / 16) (by omega) (m / 16) h1
        have e2 := hd_inj ⟨n % 16, by omega⟩ ⟨m % 16, by omega⟩ (by simpa using h2)
        simp at e2
        omega

theorem words_plain : ∀ i, i < 27 → (32 : UInt8) ∉ wordsL.getD i [] := by decide
theorem words_inj : ∀ i, i < 27 → ∀ j, j < 27 → wordsL.getD i [] = wordsL.getD j [] → i = j := by decide +kernel
theorem word_data (c : Int) (h0 : 0 ≤ c) (h1 : c < 27) : (word c).data.toList = wordsL.getD c.toNat [] := by
  unfold word; rw [if_pos ⟨h0, h1⟩]; rfl

/-- The parts of a fault's text. -/
theorem split_text (c : Int) (a : Nat) (n : List UInt8) (h0 : 0 ≤ c) (h1 : c < 27) (hn : (32 : UInt8) ∉ n) :
    split (textL c a n) = wordsL.getD c.toNat [] :: ((if n = [] then [] else [n]) ++ (if a = 0 then [] else [[97, 116], 48 :: 120 :: hexL a])) := by
  have hw := words_plain c.toNat (by omega)
  have hx : (32 : UInt8) ∉ (48 :: 120 :: hexL a) := by
    simp only [List.mem_cons, not_or]
    exact ⟨by decide, by decide, hexL_plain a⟩
  unfold textL
  rw [word_data c h0 h1]
  generalize wordsL.getD c.toNat [] = wd at hw
  by_cases hn0 : n = []
  · subst hn0
    by_cases ha : a = 0
    · simp [ha, split_plain wd hw]
    · simp only [ha, if_true, if_false, List.append_nil, List.nil_append]
      rw [show [32, 97, 116, 32, 48, 120] ++ hexL a = 32 :: ([97, 116] ++ 32 :: (48 :: 120 :: hexL a)) by rfl, split_join wd _ hw, split_join [97, 116] _ (by decide), split_plain _ hx]
  · by_cases ha : a = 0
    · simp only [ha, hn0, if_true, if_false, List.append_nil]
      rw [split_join wd _ hw, split_plain n hn]
    · simp only [ha, hn0, if_false]
      rw [show wd ++ 32 :: n ++ ([32, 97, 116, 32, 48, 120] ++ hexL a) = wd ++ 32 :: (n ++ 32 :: ([97, 116] ++ 32 :: (48 :: 120 :: hexL a))) by simp, split_join wd _ hw, split_join n _ hn, split_join [97, 116] _ (by decide), split_plain _ hx]
      rfl

theorem text_inj (c c' : Int) (a a' : Nat) (n n' : List UInt8) (h0 : 0 ≤ c) (h1 : c < 27) (h0' : 0 ≤ c') (h1' : c' < 27) (hn : (32 : UInt8) ∉ n) (hn' : (32 : UInt8) ∉ n') (h : textL c a n = textL c' a' n') : c = c' ∧ a = a' ∧ n = n' := by
  have hs := congrArg split h
  rw [split_text c a n h0 h1 hn, split_text c' a' n' h0' h1' hn'] at hs
  simp only [List.cons.injEq] at hs
  obtain ⟨e1, e2⟩ := hs
  have ec := words_inj c.toNat (by omega) c'.toNat (by omega) e1
  refine ⟨by omega, ?_⟩
  by_cases x1 : n = [] <;> by_cases x2 : n' = [] <;> by_cases y1 : a = 0 <;> by_cases y2 : a' = 0
  all_goals simp [x1, x2, y1, y2] at e2
  all_goals first
    | exact ⟨by rw [y1, y2], by rw [x1, x2]⟩
    | exact ⟨by rw [y1, y2], e2⟩
    | exact ⟨hexL_inj _ _ e2, by rw [x1, x2]⟩
    | exact ⟨hexL_inj _ _ e2.2, e2.1⟩
end Go.Proofs.YtjcefpeicbekhaaDoor
