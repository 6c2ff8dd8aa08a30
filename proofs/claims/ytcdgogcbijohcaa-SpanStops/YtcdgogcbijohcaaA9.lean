/-
  Layer 3: a span is added to a set, whatever the set.
-/
import Derived.Test.YtcdgogcbijohcaaAddA0B0
import Derived.Test.YtcdgogcbijohcaaAddA0B1
import Derived.Test.YtcdgogcbijohcaaAddA0B2
import Derived.Test.YtcdgogcbijohcaaAddA1B0
import Derived.Test.YtcdgogcbijohcaaAddA1B1
import Derived.Test.YtcdgogcbijohcaaAddA1B2
import Derived.Test.YtcdgogcbijohcaaAddA2B0
import Derived.Test.YtcdgogcbijohcaaAddA2B1
import Derived.Test.YtcdgogcbijohcaaAddA2B2
namespace Go.Proofs.Ytcdgogcbijohcaa
open Go.RowKit

theorem getD_some {L : List (Int × Int)} {i : Nat} (h : i < L.length) : L[i]? = some (L.getD i (0, 0)) := by
  rw [List.getD_eq_getElem?_getD, List.getElem?_eq_getElem h]; rfl

theorem add_any (B : Nat) (v : Value) (L : List (Int × Int)) (lo hi : Int) (w : World) (h : SetAt w B v L) (hL : L.length ≤ 100000) (hne : lo < hi)
    (hs : ∀ a b, a ≤ b → b < L.length → lo < (L.getD a (0, 0)).2 → lo < (L.getD b (0, 0)).2) (hmet : metAt L lo hi = false)
    (HR : Replaces B v L (addFrom L lo) (addTo L lo hi) (addLo L lo) (addHi L lo hi) (added L lo hi)) :
    Calls Try.prog 16 #[.pointer (some ⟨B, 0, none⟩), .agg #[.int .u64 lo, .int .u64 hi]] w fun e w' => e = .returned (.bool true) ∧ ∃ u, SetAt w' B u (added L lo hi) ∧ Kept B v w w' ∧ Lies w v u := by
  have M := fun W hb => setMeets_any B v L lo hi W (h.next (w' := W) hb) hL hs
  rw [hmet] at M
  have BE := fun W hb => behind_any B v L lo W (h.next (w' := W) hb) hL hs
  have hrl : beh L lo ≤ L.length := by unfold beh; exact Nat.le_trans (List.countP_le_length) (by simp)
  have hpos : 0 < (added L lo hi).length := by unfold added; rw [List.length_append, List.length_cons]; omega
  unfold addFrom addTo addLo addHi at HR
  generalize added L lo hi = L' at HR hpos ⊢
  obtain ⟨r, hr⟩ : ∃ r, beh L lo = r := ⟨_, rfl⟩
  rw [hr] at BE HR hrl
  clear hs hmet hr
  obtain ⟨bq, cap0, hv0, hnc0, hcm0⟩ := h.none
  have cel : ∀ i, i < L.length → ∃ g cap, v = .slice (some ⟨g, 0, none⟩) L.length cap ∧ ∀ j, j < L.length → w.cell? ⟨g, j * 2, none⟩ = some (.int .u64 (L.getD j (0, 0)).1) ∧ w.cell? ⟨g, j * 2 + 1, none⟩ = some (.int .u64 (L.getD j (0, 0)).2) := by
    intro i hi
    obtain ⟨g, cap, e, _, _, _, _, hc⟩ := h.some (by omega)
    exact ⟨g, cap, e, fun j hj => hc j _ (getD_some hj)⟩
  cases r with
  | zero =>
    have e0 : ¬ (0 < 0 ∧ (L.getD (0 - 1) (0, 0)).2 = lo) := fun e => absurd e.1 (by omega)
    rw [if_neg e0, if_neg e0] at HR
    by_cases hn : 0 < L.length
    · obtain ⟨g, cap, rfl, hc⟩ := cel 0 hn
      obtain ⟨cq1, cq2⟩ := hc 0 hn
      obtain ⟨rfl, rfl⟩ : bq = some ⟨g, 0, none⟩ ∧ cap0 = cap := by cases hv0; exact ⟨rfl, rfl⟩
      by_cases hq : (L.getD 0 (0, 0)).1 = hi
      · have e1 : 0 < L.length ∧ (L.getD 0 (0, 0)).1 = hi := ⟨hn, hq⟩
        rw [if_pos e1, if_pos e1] at HR
        exact addA0B1 B g L.length cap0 L L' lo hi w _ _ h hnc0 hcm0 hne hL M BE hpos HR hn cq1 cq2 hq
      · have e1 : ¬ (0 < L.length ∧ (L.getD 0 (0, 0)).1 = hi) := fun e => hq e.2
        rw [if_neg e1, if_neg e1] at HR
        exact addA0B2 B g L.length cap0 L L' lo hi w _ _ h hnc0 hcm0 hne hL M BE hpos HR hn cq1 cq2 hq
    · have e1 : ¬ (0 < L.length ∧ (L.getD 0 (0, 0)).1 = hi) := fun e => hn e.1
      rw [if_neg e1, if_neg e1] at HR
      subst hv0
      exact addA0B0 B L.length cap0 bq L L' lo hi w h hnc0 hcm0 hne hL M BE hpos HR (by omega)
  | succ r' =>
    obtain ⟨g, cap, rfl, hc⟩ := cel r' (by omega)
    obtain ⟨cp1, cp2⟩ := hc r' (by omega)
    obtain ⟨rfl, rfl⟩ : bq = some ⟨g, 0, none⟩ ∧ cap0 = cap := by cases hv0; exact ⟨rfl, rfl⟩
    rw [show r' + 1 - 1 = r' by omega] at HR
    by_cases hp : (L.getD r' (0, 0)).2 = lo
    · have e0 : 0 < r' + 1 ∧ (L.getD r' (0, 0)).2 = lo := ⟨by omega, hp⟩
      rw [if_pos e0, if_pos e0] at HR
      by_cases hn : r' + 1 < L.length
      · obtain ⟨cq1, cq2⟩ := hc (r' + 1) hn
        by_cases hq : (L.getD (r' + 1) (0, 0)).1 = hi
        · have e1 : (r' + 1) < L.length ∧ (L.getD (r' + 1) (0, 0)).1 = hi := ⟨hn, hq⟩
          rw [if_pos e1, if_pos e1] at HR
          exact addA1B1 B g L.length cap0 L L' lo hi w r' _ _ _ _ h hnc0 hcm0 hne hL M BE hpos HR hrl cp1 cp2 hp hn cq1 cq2 hq
        · have e1 : ¬ ((r' + 1) < L.length ∧ (L.getD (r' + 1) (0, 0)).1 = hi) := fun e => hq e.2
          rw [if_neg e1, if_neg e1] at HR
          exact addA1B2 B g L.length cap0 L L' lo hi w r' _ _ _ _ h hnc0 hcm0 hne hL M BE hpos HR hrl cp1 cp2 hp hn cq1 cq2 hq
      · have e1 : ¬ ((r' + 1) < L.length ∧ (L.getD (r' + 1) (0, 0)).1 = hi) := fun e => hn e.1
        rw [if_neg e1, if_neg e1] at HR
        exact addA1B0 B g L.length cap0 L L' lo hi w r' _ _ h hnc0 hcm0 hne hL M BE hpos HR hrl cp1 cp2 hp (by omega)
    · have e0 : ¬ (0 < r' + 1 ∧ (L.getD r' (0, 0)).2 = lo) := fun e => hp e.2
      rw [if_neg e0, if_neg e0] at HR
      by_cases hn : r' + 1 < L.length
      · obtain ⟨cq1, cq2⟩ := hc (r' + 1) hn
        by_cases hq : (L.getD (r' + 1) (0, 0)).1 = hi
        · have e1 : (r' + 1) < L.length ∧ (L.getD (r' + 1) (0, 0)).1 = hi := ⟨hn, hq⟩
          rw [if_pos e1, if_pos e1] at HR
          exact addA2B1 B g L.length cap0 L L' lo hi w r' _ _ _ _ h hnc0 hcm0 hne hL M BE hpos HR hrl cp1 cp2 hp hn cq1 cq2 hq
        · have e1 : ¬ ((r' + 1) < L.length ∧ (L.getD (r' + 1) (0, 0)).1 = hi) := fun e => hq e.2
          rw [if_neg e1, if_neg e1] at HR
          exact addA2B2 B g L.length cap0 L L' lo hi w r' _ _ _ _ h hnc0 hcm0 hne hL M BE hpos HR hrl cp1 cp2 hp hn cq1 cq2 hq
      · have e1 : ¬ ((r' + 1) < L.length ∧ (L.getD (r' + 1) (0, 0)).1 = hi) := fun e => hn e.1
        rw [if_neg e1, if_neg e1] at HR
        exact addA2B0 B g L.length cap0 L L' lo hi w r' _ _ h hnc0 hcm0 hne hL M BE hpos HR hrl cp1 cp2 hp (by omega)

theorem two_cells {W : World} {vb : Nat} {x y : Int} (h1 : W.cell? ⟨vb, 0, none⟩ = some (.int .u64 x)) (h2 : W.cell? ⟨vb, 1, none⟩ = some (.int .u64 y)) :
    ∀ j u, (flat [(x, y)])[j]? = some u → W.cell? ((⟨vb, 0, none⟩ : Addr).add j) = some u := by
  intro j u hj
  rw [Addr.add_lit, Nat.zero_add]
  match j, hj with
  | 0, hj => simp [flat] at hj; subst hj; exact h1
  | 1, hj => simp [flat] at hj; subst hj; exact h2
  | j + 2, hj => simp [flat] at hj

/-- A span behind all others. -/
theorem replaces_end (B : Nat) (v : Value) (L : List (Int × Int)) (x y : Int) (hL : L.length < 100000) : Replaces B v L L.length L.length x y (L ++ [(x, y)]) := by
  intro W vb vc h hap hx
  obtain ⟨c1, c2⟩ := box_cells hx
  refine (replace_same 0 L.length vb 1 vc v (flat L) (flat [(x, y)]) W h.row (Nat.zero_le _) (by omega) (by omega) rfl (two_cells c1 c2) (flat_one _)).mono ?_
  rintro e W' ⟨v', rfl, hr, hg, hl⟩
  exact ⟨v', rfl, by rw [flat_append, List.length_append]; exact hr, hg, hl⟩
theorem flat_take : ∀ (L : List (Int × Int)) (i : Nat), (flat L).take (i * 2) = flat (L.take i)
  | L, 0 => by simp [flat]
  | [], i + 1 => by simp [flat]
  | p :: t, i + 1 => by
    rw [show (i + 1) * 2 = i * 2 + 1 + 1 by omega]
    simp only [flat, List.take_succ_cons, flat_take t i]
/-- A span in the place of the last one. -/
theorem replaces_last (B : Nat) (v : Value) (L : List (Int × Int)) (x y : Int) (hL : L.length < 100000) (i : Nat) (hi : L.length = i + 1) : Replaces B v L i L.length x y (L.take i ++ [(x, y)]) := by
  intro W vb vc h hap hx
  obtain ⟨c1, c2⟩ := box_cells hx
  obtain ⟨g, cap, rfl, _⟩ := h.some (by omega)
  refine (replace_tail 0 L.length i vb 1 vc cap g (flat L) (flat [(x, y)]) W h.row (Nat.zero_le _) (by omega) (by omega) (by omega) rfl (two_cells c1 c2) (flat_one _)).mono ?_
  rintro e W' ⟨v', rfl, hr, hg, hl⟩
  refine ⟨v', rfl, ?_, hg, hl⟩
  rw [flat_append, List.length_append, ← flat_take, List.length_take, Nat.min_eq_left (by omega)]
  exact hr
end Go.Proofs.Ytcdgogcbijohcaa
