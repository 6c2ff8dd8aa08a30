/-
  Plain mathematics of a set's spans: they rise, and never touch; where a new one goes; how many addresses there are. No condition.
-/
import Derived.Test.YtcdgogcbijohcaaB3
import Derived.Test.YtcdgogcbijohcaaA7
import Derived.Test.YtcdgogcbijohcaaA9
namespace Go.Proofs.Ytcdgogcbijohcaa
open Go.RowKit

/-- The spans rise, and never touch. -/
structure Good (L : List (Int × Int)) : Prop where
  each : ∀ i, i < L.length → 0 ≤ (L.getD i (0, 0)).1 ∧ (L.getD i (0, 0)).1 < (L.getD i (0, 0)).2 ∧ (L.getD i (0, 0)).2 < 18446744073709551616
  apart : ∀ i j, i < j → j < L.length → (L.getD i (0, 0)).2 < (L.getD j (0, 0)).1

theorem Good.mono {L : List (Int × Int)} (h : Good L) (at_ : Int) : ∀ a b, a ≤ b → b < L.length → at_ < (L.getD a (0, 0)).2 → at_ < (L.getD b (0, 0)).2 := by
  intro a b h1 h2 h3
  by_cases e : a = b
  · rw [← e]; exact h3
  · have := h.apart a b (by omega) h2
    have := (h.each b h2).2.1
    omega

theorem boundary (P : Nat → Prop) : ∀ n, (∀ a b, a ≤ b → b < n → P a → P b) → ∃ r, r ≤ n ∧ (∀ j, j < r → ¬ P j) ∧ (∀ j, r ≤ j → j < n → P j)
  | 0, _ => ⟨0, Nat.le_refl _, fun j h => by omega, fun j _ h => by omega⟩
  | n + 1, hm => by
    obtain ⟨r, hr, h1, h2⟩ := boundary P n (fun a b x y => hm a b x (by omega))
    by_cases e : r < n
    · exact ⟨r, by omega, h1, fun j x y => hm r j x y (h2 r (Nat.le_refl _) e)⟩
    · by_cases p : P n
      · exact ⟨r, by omega, h1, fun j x y => by
          obtain rfl : j = n := by omega
          exact p⟩
      · exact ⟨n + 1, Nat.le_refl _, fun j x => by
          by_cases e2 : j < r
          · exact h1 j e2
          · obtain rfl : j = n := by omega
            exact p, fun j x y => by omega⟩

theorem beh_spec {L : List (Int × Int)} (h : Good L) (at_ : Int) : beh L at_ ≤ L.length ∧ (∀ j, j < beh L at_ → (L.getD j (0, 0)).2 ≤ at_) ∧ (∀ j, beh L at_ ≤ j → j < L.length → at_ < (L.getD j (0, 0)).2) := by
  obtain ⟨r, hr, h1, h2⟩ := boundary (fun j => at_ < (L.getD j (0, 0)).2) L.length (h.mono at_)
  have e : beh L at_ = r := by
    unfold beh
    have hrr : ∀ t, t < L.length → (List.range L.length)[t]! = t := fun t ht => by rw [getElem!_pos _ t (by simpa using ht)]; simp
    refine Lib.countP_boundary _ (List.range L.length) r (by simpa using hr) (fun t ht => ?_) (fun t h3 h4 => ?_)
    · rw [hrr t (by omega)]
      have := h1 t ht
      show (!decide (at_ < (L.getD t (0, 0)).2)) = true
      rw [decide_eq_false this]; rfl
    · rw [hrr t (by simpa using h4)]
      have := h2 t h3 (by simpa using h4)
      show (!decide (at_ < (L.getD t (0, 0)).2)) = false
      rw [decide_eq_true this]; rfl
  rw [e]
  exact ⟨hr, fun j hj => by have := h1 j hj; omega, h2⟩

theorem getD_mid (L : List (Int × Int)) (f t : Nat) (p : Int × Int) (hf : f ≤ L.length) (i : Nat) : (L.take f ++ p :: L.drop t).getD i (0, 0) = if i < f then L.getD i (0, 0) else if i = f then p else L.getD (t + (i - f - 1)) (0, 0) := by
  simp only [List.getD_eq_getElem?_getD]
  have hl : (L.take f).length = f := by rw [List.length_take]; omega
  by_cases h1 : i < f
  · rw [if_pos h1, List.getElem?_append_left (by omega), List.getElem?_take, if_pos h1]
  · rw [if_neg h1, List.getElem?_append_right (by omega), hl]
    by_cases h2 : i = f
    · rw [if_pos h2, h2, Nat.sub_self]; rfl
    · rw [if_neg h2]
      obtain ⟨k, hk⟩ : ∃ k, i - f = k + 1 := ⟨i - f - 1, by omega⟩
      rw [hk, List.getElem?_cons_succ, List.getElem?_drop]
      rfl

theorem good_mid {L : List (Int × Int)} (h : Good L) (f t : Nat) (x y : Int) (hft : f ≤ t) (ht : t ≤ L.length) (hx : 0 ≤ x) (hxy : x < y) (hy : y < 18446744073709551616)
    (ha : ∀ i, i < f → (L.getD i (0, 0)).2 < x) (hb : ∀ j, t ≤ j → j < L.length → y < (L.getD j (0, 0)).1) : Good (L.take f ++ (x, y) :: L.drop t) := by
  have hlen : (L.take f ++ (x, y) :: L.drop t).length = f + 1 + (L.length - t) := by simp; omega
  constructor
  · intro i hi
    rw [hlen] at hi
    rw [getD_mid L f t (x, y) (by omega)]
    by_cases h1 : i < f
    · rw [if_pos h1]; exact h.each i (by omega)
    · rw [if_neg h1]
      by_cases h2 : i = f
      · rw [if_pos h2]; exact ⟨hx, hxy, hy⟩
      · rw [if_neg h2]; exact h.each _ (by omega)
  · intro i j hij hj
    rw [hlen] at hj
    rw [getD_mid L f t (x, y) (by omega), getD_mid L f t (x, y) (by omega)]
    by_cases h1 : j < f
    · rw [if_pos h1, if_pos (by omega)]; exact h.apart i j hij (by omega)
    · rw [if_neg h1]
      by_cases h2 : j = f
      · rw [if_pos h2, if_pos (by omega)]; exact ha i (by omega)
      · rw [if_neg h2]
        by_cases h3 : i < f
        · rw [if_pos h3]; exact h.apart _ _ (by omega) (by omega)
        · rw [if_neg h3]
          by_cases h4 : i = f
          · rw [if_pos h4]; exact hb _ (by omega) (by omega)
          · rw [if_neg h4]; exact h.apart _ _ (by omega) (by omega)

/-- How many addresses. -/
def tot : List (Int × Int) → Int
  | [] => 0
  | p :: t => (p.2 - p.1) + tot t
theorem tot_append : ∀ L M : List (Int × Int), tot (L ++ M) = tot L + tot M
  | [], M => by simp [tot]
  | p :: t, M => by simp only [List.cons_append, tot, tot_append t M]; omega
theorem drop_one (L : List (Int × Int)) (i : Nat) (h : i < L.length) : L.drop i = L.getD i (0, 0) :: L.drop (i + 1) := by
  rw [List.getD_eq_getElem?_getD, List.getElem?_eq_getElem h]
  exact List.drop_eq_getElem_cons h

/-- A new span: the set's spans rise still, and there are as many addresses more. -/
theorem added_good {L : List (Int × Int)} (h : Good L) (lo hi : Int) (h0 : 0 ≤ lo) (h1 : lo < hi) (h2 : hi < 18446744073709551616) (hm : metAt L lo hi = false) :
    Good (added L lo hi) ∧ tot (added L lo hi) = tot L + (hi - lo) ∧ (added L lo hi).length ≤ L.length + 1 ∧ addFrom L lo ≤ addTo L lo hi ∧ addTo L lo hi ≤ addFrom L lo + 2 ∧ addTo L lo hi ≤ L.length := by
  obtain ⟨hr, hA, hC⟩ := beh_spec h lo
  unfold metAt at hm
  unfold added addFrom addTo addLo addHi
  generalize beh L lo = r at hr hA hC hm ⊢
  have hmm : r < L.length → hi ≤ (L.getD r (0, 0)).1 := by
    intro hlt
    have e := (h.each r hlt).2.1
    have c := hC r (Nat.le_refl _) hlt
    simp only [hlt, decide_true, Bool.true_and, decide_eq_false_iff_not] at hm
    omega
  have hC2 : ∀ j, r ≤ j → j < L.length → hi ≤ (L.getD j (0, 0)).1 := by
    intro j h3 h4
    by_cases e : j = r
    · rw [e]; exact hmm (by omega)
    · have a := h.apart r j (by omega) h4
      have b := (h.each r (by omega)).2.1
      have c := hmm (by omega)
      omega
  have split : ∀ f t, f ≤ t → tot L = tot (L.take f) + (tot ((L.drop f).take (t - f)) + tot (L.drop t)) := by
    intro f t hft
    have e1 : tot L = tot (L.take f) + tot (L.drop f) := by rw [← tot_append, List.take_append_drop]
    have e2 : tot (L.drop f) = tot ((L.drop f).take (t - f)) + tot ((L.drop f).drop (t - f)) := by rw [← tot_append, List.take_append_drop]
    rw [e1, e2, List.drop_drop, show f + (t - f) = t by omega]
  have go : ∀ (f t : Nat) (x y : Int), f ≤ t → t ≤ f + 2 → t ≤ L.length → 0 ≤ x → x < y → y < 18446744073709551616 → (∀ i, i < f → (L.getD i (0, 0)).2 < x) → (∀ j, t ≤ j → j < L.length → y < (L.getD j (0, 0)).1) → y - x = hi - lo + tot ((L.drop f).take (t - f)) →
      Good (L.take f ++ (x, y) :: L.drop t) ∧ tot (L.take f ++ (x, y) :: L.drop t) = tot L + (hi - lo) ∧ (L.take f ++ (x, y) :: L.drop t).length ≤ L.length + 1 ∧ f ≤ t ∧ t ≤ f + 2 ∧ t ≤ L.length := by
    intro f t x y a1 a2 a3 a4 a5 a6 a7 a8 a9
    refine ⟨good_mid h f t x y a1 a3 a4 a5 a6 a7 a8, ?_, ?_, a1, a2, a3⟩
    · rw [tot_append, split f t a1]
      simp only [tot]
      omega
    · simp; omega
  by_cases hL : 0 < r ∧ (L.getD (r - 1) (0, 0)).2 = lo
  · rw [if_pos hL, if_pos hL]
    have eL := h.each (r - 1) (by omega)
    have aL : ∀ i, i < r - 1 → (L.getD i (0, 0)).2 < (L.getD (r - 1) (0, 0)).1 := fun i hi => h.apart i (r - 1) hi (by omega)
    by_cases hR : r < L.length ∧ (L.getD r (0, 0)).1 = hi
    · rw [if_pos hR, if_pos hR]
      have eR := h.each r hR.1
      refine go _ _ _ _ (by omega) (by omega) (by omega) eL.1 (by omega) eR.2.2 aL (fun j x y => h.apart r j (by omega) y) ?_
      rw [show r + 1 - (r - 1) = 2 by omega, drop_one L (r - 1) (by omega), show r - 1 + 1 = r by omega, drop_one L r hR.1]
      simp only [List.take_succ_cons, List.take_zero, tot]
      omega
    · rw [if_neg hR, if_neg hR]
      refine go _ _ _ _ (by omega) (by omega) hr eL.1 (by omega) h2 aL (fun j x y => ?_) ?_
      · have a := hC2 j x y
        by_cases e : j = r
        · subst e
          have : ¬ (L.getD j (0, 0)).1 = hi := fun q => hR ⟨y, q⟩
          omega
        · have := h.apart r j (by omega) y
          have := (h.each r (by omega)).2.1
          have := hmm (by omega)
          omega
      · rw [show r - (r - 1) = 1 by omega, drop_one L (r - 1) (by omega)]
        simp only [List.take_succ_cons, List.take_zero, tot]
        omega
  · rw [if_neg hL, if_neg hL]
    have aL : ∀ i, i < r → (L.getD i (0, 0)).2 < lo := by
      intro i hi
      have a := hA i hi
      by_cases e : i = r - 1
      · have : ¬ (L.getD i (0, 0)).2 = lo := fun q => hL ⟨by omega, by rw [← e]; exact q⟩
        omega
      · have := h.apart i (r - 1) (by omega) (by omega)
        have := (h.each (r - 1) (by omega)).2.1
        have := hA (r - 1) (by omega)
        omega
    by_cases hR : r < L.length ∧ (L.getD r (0, 0)).1 = hi
    · rw [if_pos hR, if_pos hR]
      have eR := h.each r hR.1
      refine go _ _ _ _ (by omega) (by omega) (by omega) h0 (by omega) eR.2.2 aL (fun j x y => h.apart r j (by omega) y) ?_
      rw [show r + 1 - r = 1 by omega, drop_one L r hR.1]
      simp only [List.take_succ_cons, List.take_zero, tot]
      omega
    · rw [if_neg hR, if_neg hR]
      refine go _ _ _ _ (Nat.le_refl _) (by omega) hr h0 h1 h2 aL (fun j x y => ?_) ?_
      · have a := hC2 j x y
        by_cases e : j = r
        · subst e
          have : ¬ (L.getD j (0, 0)).1 = hi := fun q => hR ⟨y, q⟩
          omega
        · have := h.apart r j (by omega) y
          have := (h.each r (by omega)).2.1
          have := hmm (by omega)
          omega
      · rw [Nat.sub_self, List.take_zero]
        simp only [tot]
        omega

theorem good_nil : Good [] := ⟨fun i h => by simp at h, fun i j _ h => by simp at h⟩

/-- Each of a set's spans is covered. -/
theorem covers_each {L : List (Int × Int)} (h : Good L) (i : Nat) (hi : i < L.length) : covAt L (L.getD i (0, 0)).1 (L.getD i (0, 0)).2 = true := by
  obtain ⟨hr, hA, hC⟩ := beh_spec h (L.getD i (0, 0)).1
  have e := (h.each i hi).2.1
  have hb : beh L (L.getD i (0, 0)).1 = i := by
    generalize beh L (L.getD i (0, 0)).1 = r at hr hA hC
    by_cases h1 : i < r
    · have := hA i h1; omega
    · by_cases h2 : r < i
      · have := hC r (Nat.le_refl _) (by omega)
        have := h.apart r i h2 hi
        omega
      · omega
  unfold covAt
  rw [hb]
  simp [hi]

theorem sum_wrap : ∀ (L : List (Int × Int)) (s : Int), L.foldl (fun s p => IntKind.u64.wrap (s + wlen p)) (IntKind.u64.wrap s) = IntKind.u64.wrap (s + (L.map wlen).sum)
  | [], s => by simp
  | p :: t, s => by
    have e : IntKind.u64.wrap (IntKind.u64.wrap s + wlen p) = IntKind.u64.wrap (s + wlen p) := by
      rw [IntKind.wrap_u64, IntKind.wrap_u64, IntKind.wrap_u64]; omega
    simp only [List.foldl_cons, e, sum_wrap t (s + wlen p), List.map_cons, List.sum_cons]
    rw [Int.add_assoc]
theorem sumL_tot {L : List (Int × Int)} (h : Good L) : sumL L = IntKind.u64.wrap (tot L) := by
  have e := sum_wrap L 0
  rw [show IntKind.u64.wrap 0 = 0 from by rw [IntKind.wrap_u64]; rfl] at e
  unfold sumL
  rw [e, Int.zero_add]
  have hw : ∀ p ∈ L, wlen p = p.2 - p.1 := by
    intro p hp
    obtain ⟨i, hi, e⟩ := List.getElem_of_mem hp
    have := h.each i hi
    rw [List.getD_eq_getElem?_getD, List.getElem?_eq_getElem hi] at this
    simp only [Option.getD_some, e] at this
    unfold wlen
    rw [if_neg (by omega), IntWalk.u64_in _ ⟨by omega, by omega⟩]
  have ht : ∀ M : List (Int × Int), (∀ p ∈ M, wlen p = p.2 - p.1) → (M.map wlen).sum = tot M := by
    intro M
    induction M with
    | nil => intro _; rfl
    | cons p t ih => intro hM; simp only [List.map_cons, List.sum_cons, tot, hM p (by simp), ih (fun q hq => hM q (by simp [hq]))]
  rw [ht L hw]

/-- A span is added to whatever set. -/
theorem add_good (B : Nat) (v : Value) (L : List (Int × Int)) (lo hi : Int) (w : World) (h : SetAt w B v L) (hG : Good L) (hL : L.length < 90000) (h0 : 0 ≤ lo) (h2 : hi < 18446744073709551616) :
    Calls Try.prog 16 #[.pointer (some ⟨B, 0, none⟩), .agg #[.int .u64 lo, .int .u64 hi]] w fun e w' => ∃ (b : Bool) (u : Value) (L' : List (Int × Int)), e = .returned (.bool b) ∧ SetAt w' B u L' ∧ Good L' ∧ L'.length ≤ L.length + 1 ∧ tot L' = tot L + (if b then hi - lo else 0) ∧ (b = true → lo < hi) ∧ Kept B v w w' ∧ Lies w v u := by
  have keep : ∀ w', Below w.heap.size w w' → Kept B v w w' := fun w' hb => ⟨hb.os, hb.tape, hb.output, hb.size, fun k hk _ _ => hb.block k hk⟩
  by_cases hne : lo < hi
  · cases hm : metAt L lo hi with
    | true =>
      refine (add_met B v L lo hi w h (by omega) hne (hG.mono lo) hm).mono ?_
      rintro e w' ⟨rfl, hb⟩
      exact ⟨false, v, L, rfl, h.next hb, hG, by omega, by simp, (fun e => by cases e), keep _ hb, .inl rfl⟩
    | false =>
      obtain ⟨g1, g2, g3, g4, g5, g6⟩ := added_good hG lo hi h0 hne h2 hm
      have HR : Replaces B v L (addFrom L lo) (addTo L lo hi) (addLo L lo) (addHi L lo hi) (added L lo hi) := by
        by_cases hn : 0 < L.length
        · exact replaces_any B v L _ _ _ _ (by omega) g4 g5 g6 hn
        · obtain rfl : L = [] := List.eq_nil_of_length_eq_zero (by omega)
          exact replaces_end B v [] lo hi (by simp)
      refine (add_any B v L lo hi w h (by omega) hne (hG.mono lo) hm HR).mono ?_
      rintro e w' ⟨rfl, u, hs, hk, hl⟩
      exact ⟨true, u, added L lo hi, rfl, hs, g1, g3, by rw [g2]; rfl, fun _ => hne, hk, hl⟩
  · refine (add_empty B lo hi w (by omega)).mono ?_
    rintro e w' ⟨rfl, hb⟩
    exact ⟨false, v, L, rfl, h.next hb, hG, by omega, by simp, (fun e => by cases e), keep _ hb, .inl rfl⟩
end Go.Proofs.Ytcdgogcbijohcaa
