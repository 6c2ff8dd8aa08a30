/-
  slices.Replace and slices.Insert at rows of spans: one in the place of the last two; one in the midst.
-/
import Derived.Test.YtcdgogcbijohcaaB1
import Derived.Lib.AppendZerosOnto
import Derived.Lib.Overlaps
import Derived.Shelf.RegionOpenPlain
namespace Go.Proofs.Ytcdgogcbijohcaa
open Go.RowKit
set_option linter.unusedVariables false

theorem grown_row {w W : World} {g : Nat} (c : Array Value) (h : w.grownBy W (some g)) : w.grownBy (W.setRow g c) (some g) :=
  ⟨h.os, h.tape, h.output, by simp [World.setRow]; exact h.size, fun k hk hne => (setRow_other W g k c (fun e => hne (by rw [e]))).trans (h.block k hk hne)⟩
theorem grown_refl (w : World) (r : Option Nat) : w.grownBy w r := ⟨rfl, rfl, rfl, Nat.le_refl _, fun _ _ _ => rfl⟩

set_option maxRecDepth 100000 in
set_option maxHeartbeats 1600000 in
theorem replace_last2 (f vb vc cap g : Nat) (cur c1 c2 : Array Value) (vs : List Value) (w : World) (hg : w.heap[g]? = some (.cells cur 33 (0, 0))) (hcs : cur.size = cap * 2) (hnc : f + 2 ≤ cap) (hcap : cap ≤ 9223372036854775807)
    (hvl : vs.length = 2) (hvs : ∀ j v, vs[j]? = some v → w.cell? ⟨vb, j, none⟩ = some v) (hv1 : ∀ v ∈ vs, v.oneCell' = true)
    (h1 : c1 = (cur.toList.take (f * 2) ++ vs ++ cur.toList.drop (f * 2 + vs.length)).toArray) (h2 : c2 = (c1.toList.take ((f + 1) * 2) ++ Z2 ++ c1.toList.drop ((f + 1) * 2 + 2)).toArray) :
    Calls Try.prog 29 #[.slice (some ⟨g, 0, none⟩) (f + 2) cap, .int .i64 f, .int .i64 ((f + 2 : Nat) : Int), .slice (some ⟨vb, 0, none⟩) 1 vc] w fun e w' => e = .returned (.slice (some ⟨g, 0, none⟩) (f + 1) cap) ∧ w'.heap[g]? = some (.cells c2 33 (0, 0)) ∧ w.grownBy w' (some g) := by
  have hc1s : c1.size = cap * 2 := by rw [h1]; simp; omega
  obtain ⟨i0, hinf, hz0, hz1, hz2⟩ := info_parts info33
  have k1 : ∀ ty, (Builtin.append_ #[24, 24] ty #[.slice (some ⟨g, 0, none⟩) f cap, .slice (some ⟨vb, 0, none⟩) 1 vc]).run Try.prog w = .ok (.slice (some ⟨g, 0, none⟩) (f + 1) cap) (w.setRow g c1) := by
    intro ty
    have h := run_append_room (P := Try.prog) w 24 ty 33 i0 Try.underlying24 hinf g f cap cur hg ⟨vb, 0, none⟩ 1 vc vs (by rw [hz1]; omega) (fun j u hj => by rw [Addr.add_lit, Nat.zero_add]; exact hvs j u hj) hv1 (by omega) (by rw [hz1]; omega)
    rw [hz1, ← h1] at h
    exact h
  obtain ⟨W1, hW1⟩ : ∃ W1, W1 = w.setRow g c1 := ⟨_, rfl⟩
  have hg1 : W1.heap[g]? = some (.cells c1 33 (0, 0)) := by rw [hW1]; exact setRow_heap w g cur c1 33 _ hg
  have b1' : w.grownBy W1 (some g) := by rw [hW1]; exact grown_row c1 (grown_refl w _)
  rw [← hW1] at k1
  have k3 := fun c => clear_one g ((f + 1) * 2) c c1 W1 hg1 (by omega)
  rw [← h2] at k3
  have HE : Hid (∀ W3, W3 = W1.setRow g c2 → W3.heap[g]? = some (.cells c2 33 (0, 0)) ∧ w.grownBy W3 (some g)) := by
    intro W3 e
    rw [e]
    exact ⟨setRow_heap W1 g c1 c2 33 _ hg1, grown_row c2 b1'⟩
  have x2 : ¬ cap = f + 1 := by omega
  have x3 : ¬ cap = f := by omega
  have x6 : f + 2 - (f + 1) = 1 := by omega
  clear hg hcs h1 h2 hvs hv1 hg1 b1' hW1
  go_enter Try.func29, Try.ntmps29
  go_wp2_with (at_builtin; refine Lib.wpList_append_run _ rfl _ _ 24 24 rfl _ _ rfl rfl _ _ (k1 _) ?_)
  go_ret
  exact ⟨rfl, HE.out _ rfl⟩

set_option maxRecDepth 100000 in
set_option maxHeartbeats 1600000 in
theorem insert_room (f d vb vc cap g : Nat) (cur c1 c2 cv : Array Value) (vs ds : List Value) (w : World) (hg : w.heap[g]? = some (.cells cur 33 (0, 0))) (hcs : cur.size = cap * 2) (hnc : f + d + 1 ≤ cap) (hcap : cap ≤ 9223372036854775807) (hd : 0 < d)
    (hvg : vb ≠ g) (hvh : w.heap[vb]? = some (.cells cv 33 (0, 0))) (hcv : cv.toList = vs) (hvl : vs.length = 2) (hv1 : ∀ v ∈ vs, v.oneCell' = true)
    (hds : ds = (cur.toList.drop (f * 2)).take (d * 2)) (hd1 : ∀ v ∈ ds, v.oneCell' = true)
    (h1 : c1 = (cur.toList.take ((f + 1) * 2) ++ ds ++ cur.toList.drop ((f + 1) * 2 + ds.length)).toArray) (h2 : c2 = (c1.toList.take (f * 2) ++ vs ++ c1.toList.drop (f * 2 + vs.length)).toArray) :
    Calls Try.prog 36 #[.slice (some ⟨g, 0, none⟩) (f + d) cap, .int .i64 f, .slice (some ⟨vb, 0, none⟩) 1 vc] w fun e w' => e = .returned (.slice (some ⟨g, 0, none⟩) (f + d + 1) cap) ∧ w'.heap[g]? = some (.cells c2 33 (0, 0)) ∧ w.grownBy w' (some g) := by
  have hdl : ds.length = d * 2 := by rw [hds]; simp; omega
  have hc1s : c1.size = cap * 2 := by rw [h1]; simp; omega
  have hov : ∀ lb cb o, (callFunc 37 #[.slice (some ⟨vb, 0, none⟩) 1 vc, .slice (some ⟨g, o, none⟩) lb cb]).run Try.prog w = .ok (.value (.bool false)) w := fun lb cb o => by
    rw [run_callFunc_extern Try.func37 (by kernel_rfl) (by kernel_rfl) (by kernel_rfl) (e := Extern.SlicesOverlaps.overlaps #[24, 24] #[4]) (by kernel_rfl),
      Lib.run_overlaps_apart w 24 4 33 Try.underlying24 2 (fun w => by kernel_rfl) ⟨vb, 0, none⟩ ⟨g, o, none⟩ 1 vc lb cb hvg 33 33 cv.size cur.size (by simp [World.shape?, hvh]) (by simp [World.shape?, hg]) (by omega) (by simp [World.frozen?, hvh]) (by simp [World.frozen?, hvh])]
    rfl
  have k1 : ∀ ty dc sc, (Builtin.copy_ #[24, 24] ty #[.slice (some ⟨g, (f + 1) * 2, none⟩) d dc, .slice (some ⟨g, f * 2, none⟩) (d + 1) sc]).run Try.prog w.drew = .ok (goInt d) (w.drew.setRow g c1) := by
    intro ty dc sc
    rw [h1]
    refine run_copy2 w.drew ty g ((f + 1) * 2) d dc ⟨g, f * 2, none⟩ (d + 1) sc d cur ds hg (by simp only [Nat.min_def]; split <;> omega) hdl (fun j v hj => ?_) (by omega) hd1
    have hj2 : j < ds.length := by
      by_cases h : j < ds.length
      · exact h
      · rw [List.getElem?_eq_none (by omega)] at hj; cases hj
    rw [Addr.add_lit]
    have e : cur[f * 2 + j]? = some v := by
      rw [← hj, hds, List.getElem?_take, if_pos (by omega), List.getElem?_drop, Array.getElem?_toList]
    have hg' : w.drew.heap[g]? = some (.cells cur 33 (0, 0)) := hg
    simp [World.cell?, hg', e]
  obtain ⟨W1, hW1⟩ : ∃ W1, W1 = w.drew.setRow g c1 := ⟨_, rfl⟩
  have hg1 : W1.heap[g]? = some (.cells c1 33 (0, 0)) := by rw [hW1]; exact setRow_heap w.drew g cur c1 33 _ hg
  have hvh1 : W1.heap[vb]? = some (.cells cv 33 (0, 0)) := by rw [hW1]; exact (setRow_other w.drew g vb c1 hvg).trans hvh
  have b1' : w.grownBy W1 (some g) := by rw [hW1]; exact grown_row c1 ⟨rfl, rfl, rfl, Nat.le_refl _, fun _ _ _ => rfl⟩
  rw [← hW1] at k1
  have k2 : ∀ ty dc, (Builtin.copy_ #[24, 24] ty #[.slice (some ⟨g, f * 2, none⟩) (d + 1) dc, .slice (some ⟨vb, 0, none⟩) 1 vc]).run Try.prog W1 = .ok (goInt (1 : Nat)) (W1.setRow g c2) := by
    intro ty dc
    rw [h2]
    refine run_copy2 W1 ty g (f * 2) (d + 1) dc ⟨vb, 0, none⟩ 1 vc 1 c1 vs hg1 (by simp only [Nat.min_def]; split <;> omega) (by omega) (fun j v hj => ?_) (by omega) hv1
    rw [Addr.add_lit, Nat.zero_add]
    rw [← hcv, Array.getElem?_toList] at hj
    simp [World.cell?, hvh1, hj]
  have HE : Hid (∀ W3, W3 = W1.setRow g c2 → W3.heap[g]? = some (.cells c2 33 (0, 0)) ∧ w.grownBy W3 (some g)) := by
    intro W3 e
    rw [e]
    exact ⟨setRow_heap W1 g c1 c2 33 _ hg1, grown_row c2 b1'⟩
  have x2 : ¬ cap = f + 1 := by omega
  have x3 : ¬ cap = f := by omega
  have x4 : f + d + 1 - (f + 1) = d := by omega
  have x5 : f + d + 1 - f = d + 1 := by omega
  have mixed := mixedTry'
  clear hg hcs h1 h2 hvh hvh1 hcv hv1 hds hd1 hg1 b1' hW1
  go_enter Try.func36, Try.ntmps36
  go_wp2_with (simp only [hov])
  go_region
  all_goals go_wp2
  all_goals go_ret
  all_goals exact ⟨rfl, HE.out _ rfl⟩

theorem zero33 (k : Nat) : (Builtin.zeroCells (Value.agg #[.int .u64 0, .int .u64 0]).cells k).size = k * 2 := by rw [size_zeroCells]; rfl

set_option maxRecDepth 100000 in
set_option maxHeartbeats 800000 in
theorem insert_grow (f d vb vc cap g : Nat) (cur cv : Array Value) (vs ds : List Value) (w : World) (hg : w.heap[g]? = some (.cells cur 33 (0, 0))) (hcs : cur.size = cap * 2) (hn : f + d ≤ cap) (hnc : cap < f + d + 1) (hcap : cap ≤ 100000) (hd : 0 < d)
    (hvh : w.heap[vb]? = some (.cells cv 33 (0, 0))) (hcv : cv.toList = vs) (hvl : vs.length = 2) (hv1 : ∀ v ∈ vs, v.oneCell' = true)
    (hds : ds = (cur.toList.drop (f * 2)).take (d * 2)) (hd1 : ∀ v ∈ ds, v.oneCell' = true) :
    Calls Try.prog 36 #[.slice (some ⟨g, 0, none⟩) (f + d) cap, .int .i64 f, .slice (some ⟨vb, 0, none⟩) 1 vc] w fun e w' => ∃ G c2, e = .returned (.slice (some ⟨w.heap.size, 0, none⟩) (f + d + 1) G) ∧ w'.heap[w.heap.size]? = some (.cells c2 33 (0, 0)) ∧ c2.size = G * 2 ∧ f + d + 1 ≤ G ∧ G ≤ maxLen ∧
      c2.toList.take ((f + d + 1) * 2) = cur.toList.take (f * 2) ++ vs ++ ds ∧ w.grownBy w' (some w.heap.size) := by
  have hdl : ds.length = d * 2 := by rw [hds]; simp; omega
  obtain ⟨i0, hinf, hz0, hz1, hz2⟩ := info_parts info33
  obtain ⟨G, hG⟩ : ∃ G, G = grownCap w (f + (d + 1)) cap 33 := ⟨_, rfl⟩
  have hG1 : f + (d + 1) ≤ G := by rw [hG]; exact grownCap_ge w _ _ _
  have hG2 : G ≤ maxLen := by rw [hG]; exact grownCap_le_maxLen w _ _ _ (by unfold maxLen; omega)
  obtain ⟨R0, hR0⟩ : ∃ R0 : Array Value, R0 = (cur.toList.take (f * 2)).toArray ++ Builtin.zeroCells (Value.agg #[.int .u64 0, .int .u64 0]).cells (d + 1) ++ Builtin.zeroCells (Value.agg #[.int .u64 0, .int .u64 0]).cells (G - (f + (d + 1))) := ⟨_, rfl⟩
  have hRs : R0.size = G * 2 := by rw [hR0]; simp only [Array.size_append, zero33]; simp; omega
  have hold : (Builtin.firstCells i0.size f (.slice (some ⟨g, 0, none⟩) f cap)).run Try.prog w.drew = .ok (cur.toList.take (f * 2)).toArray w.drew := by
    rw [hz1]
    refine run_firstCells_some w.drew 2 f ⟨g, 0, none⟩ f cap (cur.toList.take (f * 2)) (by rw [List.length_take]; simp; omega) (fun j v hj => ?_)
    rw [Addr.add_lit, Nat.zero_add]
    rw [List.getElem?_take] at hj
    split at hj
    · have hg' : w.drew.heap[g]? = some (.cells cur 33 (0, 0)) := hg
      rw [Array.getElem?_toList] at hj
      simp [World.cell?, hg', hj]
    · cases hj
  have k0 : ∀ ty, (Builtin.append_ #[24, 3] ty #[.slice (some ⟨g, 0, none⟩) f cap, .int .i64 ((d : Int) + 1)]).run Try.prog w = .ok (.slice (some ⟨w.heap.size, 0, none⟩) (f + (d + 1)) G) (w.drew.alloc (.cells R0 33)) := by
    intro ty
    have h := Lib.run_append_grow_zeros (P := Try.prog) w 24 3 ty 33 i0 _ .i64 .i64 Try.underlying24 Try.underlying3 hinf hz0 (some ⟨g, 0, none⟩) f cap (cur.toList.take (f * 2)) hold (d + 1) (by omega) (by omega) (by omega) (by omega) (by rw [hz2]; omega) (by rw [hz2]; exact growslice_fits (by omega) (by omega))
    rw [← hG, ← hR0, show ((d + 1 : Nat) : Int) = (d : Int) + 1 by omega] at h
    exact h
  obtain ⟨W0, hW0⟩ : ∃ W0, W0 = w.drew.alloc (.cells R0 33) := ⟨_, rfl⟩
  rw [← hW0] at k0
  have hn0 : W0.heap[w.heap.size]? = some (.cells R0 33 (0, 0)) := by rw [hW0]; exact heap_alloc_new w.drew _
  have hold0 : ∀ k, k < w.heap.size → W0.heap[k]? = w.heap[k]? := fun k hk => by rw [hW0]; exact Below.heap_alloc w.drew _ k hk
  have hvb : vb < w.heap.size := (Array.getElem?_eq_some_iff.1 hvh).1
  have hgb : g < w.heap.size := (Array.getElem?_eq_some_iff.1 hg).1
  have b0 : w.grownBy W0 (some w.heap.size) := by rw [hW0]; exact ⟨rfl, rfl, rfl, by simp, fun k hk _ => Below.heap_alloc w.drew _ k hk⟩
  obtain ⟨c1, h1⟩ : ∃ c1 : Array Value, c1 = (R0.toList.take (f * 2) ++ vs ++ R0.toList.drop (f * 2 + vs.length)).toArray := ⟨_, rfl⟩
  have hc1s : c1.size = G * 2 := by rw [h1]; simp; omega
  have k1 : ∀ ty dc, (Builtin.copy_ #[24, 24] ty #[.slice (some ⟨w.heap.size, f * 2, none⟩) (d + 1) dc, .slice (some ⟨vb, 0, none⟩) 1 vc]).run Try.prog W0 = .ok (goInt (1 : Nat)) (W0.setRow w.heap.size c1) := by
    intro ty dc
    rw [h1]
    refine run_copy2 W0 ty w.heap.size (f * 2) (d + 1) dc ⟨vb, 0, none⟩ 1 vc 1 R0 vs hn0 (by simp only [Nat.min_def]; split <;> omega) (by omega) (fun j v hj => ?_) (by omega) hv1
    rw [Addr.add_lit, Nat.zero_add]
    rw [← hcv, Array.getElem?_toList] at hj
    simp [World.cell?, (hold0 vb hvb).trans hvh, hj]
  obtain ⟨W1, hW1⟩ : ∃ W1, W1 = W0.setRow w.heap.size c1 := ⟨_, rfl⟩
  have hn1 : W1.heap[w.heap.size]? = some (.cells c1 33 (0, 0)) := by rw [hW1]; exact setRow_heap W0 _ R0 c1 33 _ hn0
  have hold1 : W1.heap[g]? = some (.cells cur 33 (0, 0)) := by rw [hW1]; exact (setRow_other W0 _ g c1 (by omega)).trans ((hold0 g hgb).trans hg)
  have b1' : w.grownBy W1 (some w.heap.size) := by rw [hW1]; exact grown_row c1 b0
  rw [← hW1] at k1
  obtain ⟨c2, h2⟩ : ∃ c2 : Array Value, c2 = (c1.toList.take ((f + 1) * 2) ++ ds ++ c1.toList.drop ((f + 1) * 2 + ds.length)).toArray := ⟨_, rfl⟩
  have hc2s : c2.size = G * 2 := by rw [h2]; simp; omega
  have k2 : ∀ ty dc sc, (Builtin.copy_ #[24, 24] ty #[.slice (some ⟨w.heap.size, (f + 1) * 2, none⟩) d dc, .slice (some ⟨g, f * 2, none⟩) d sc]).run Try.prog W1.drew = .ok (goInt d) (W1.drew.setRow w.heap.size c2) := by
    intro ty dc sc
    rw [h2]
    refine run_copy2 W1.drew ty w.heap.size ((f + 1) * 2) d dc ⟨g, f * 2, none⟩ d sc d c1 ds hn1 (by simp) hdl (fun j v hj => ?_) (by omega) hd1
    have hj2 : j < ds.length := by
      by_cases h : j < ds.length
      · exact h
      · rw [List.getElem?_eq_none (by omega)] at hj; cases hj
    rw [Addr.add_lit]
    have e : cur[f * 2 + j]? = some v := by
      rw [← hj, hds, List.getElem?_take, if_pos (by omega), List.getElem?_drop, Array.getElem?_toList]
    have hg' : W1.drew.heap[g]? = some (.cells cur 33 (0, 0)) := hold1
    simp [World.cell?, hg', e]
  have HE : Hid (∀ W3, W3 = W1.drew.setRow w.heap.size c2 → W3.heap[w.heap.size]? = some (.cells c2 33 (0, 0)) ∧ w.grownBy W3 (some w.heap.size)) := by
    intro W3 e
    rw [e]
    exact ⟨setRow_heap W1.drew _ c1 c2 33 _ hn1, grown_row c2 ⟨b1'.os, b1'.tape, b1'.output, b1'.size, b1'.block⟩⟩
  have HT : Hid (c2.toList.take ((f + d + 1) * 2) = cur.toList.take (f * 2) ++ vs ++ ds) := by
    show _ = _
    have e0 : R0.toList.take (f * 2) = cur.toList.take (f * 2) := by
      rw [hR0]
      simp only [Array.toList_append, List.append_assoc]
      have hl : (cur.toList.take (f * 2)).length = f * 2 := by rw [List.length_take]; simp; omega
      exact List.take_left' (by simpa using hl)
    have e1 : c1.toList.take ((f + 1) * 2) = cur.toList.take (f * 2) ++ vs := by
      rw [h1, e0]
      exact List.take_left' (by simp; omega)
    rw [h2, e1]
    exact List.take_left' (by simp; omega)
  have x1 : ¬ G = f + 1 := by omega
  have x2 : ¬ G = f := by omega
  have x3 : ¬ cap = f := by omega
  have x4 : f + (d + 1) - (f + 1) = d := by omega
  have x5 : f + (d + 1) - f = d + 1 := by omega
  have mixed := mixedTry'
  have hG9 : G ≤ 9223372036854775807 := by unfold maxLen at hG2; omega
  have HG : Hid (G ≤ maxLen) := hG2
  have HC : Hid (c2.size = G * 2) := hc2s
  clear hg hcs h1 h2 hvh hcv hv1 hds hd1 hn0 hn1 hold0 hold1 b0 b1' hW0 hW1 hG hR0 hRs hold hc1s hc2s hG2
  go_enter Try.func36, Try.ntmps36
  go_wp2_with (at_builtin; refine Lib.wpList_append_run _ rfl _ _ 24 3 rfl (.slice (some ⟨g, 0, none⟩) f cap) (.int .i64 ((d : Int) + 1)) (by simp [Act.eval]) (by simp [Act.eval]; omega) _ _ (k0 _) ?_)
  go_region
  all_goals go_wp2
  all_goals go_ret
  all_goals exact ⟨G, c2, rfl, (HE.out _ rfl).1, HC.out, by omega, HG.out, HT.out, (HE.out _ rfl).2⟩

set_option maxRecDepth 100000 in
set_option maxHeartbeats 1600000 in
/-- slices.Replace of no element is slices.Insert. -/
theorem replace_ins (n f vb vc cap g : Nat) (w : World) (Q : Ending → World → Prop) (hf : f < n) (hnc : n ≤ cap) (hcap : cap ≤ 9223372036854775807)
    (I : Calls Try.prog 36 #[.slice (some ⟨g, 0, none⟩) n cap, .int .i64 f, .slice (some ⟨vb, 0, none⟩) 1 vc] w fun e w' => ∃ v, e = .returned v ∧ Q e w') :
    Calls Try.prog 29 #[.slice (some ⟨g, 0, none⟩) n cap, .int .i64 f, .int .i64 f, .slice (some ⟨vb, 0, none⟩) 1 vc] w fun e w' => ∃ v, e = .returned v ∧ Q e w' := by
  have x3 : ¬ cap = f := by omega
  go_enter Try.func29, Try.ntmps29
  go_wp2_with (go_at_call 36; refine I.mono ?_; rintro e w' ⟨v, rfl, hq⟩)
  go_ret
  exact ⟨v, rfl, hq⟩
end Go.Proofs.Ytcdgogcbijohcaa
