/-
  slices.Replace at rows of spans, in the row's midst: one element in the place of one.
-/
import Derived.Test.YtcdgogcbijohcaaA3
import Derived.Laws.CopyRow
import Derived.Laws.CopyOwn
import Derived.Shelf.Spec.SlicesInsert
namespace Go.Proofs.Ytcdgogcbijohcaa
open Go.RowKit

theorem mixedTry' : Try.prog.follows Departure.mixedOrders = true := by kernel_rfl

/-- copy at elements of two cells. -/
theorem run_copy2 (w : World) (ty : TypeId) (g o dLen dCap : Nat) (a : Addr) (sLen sCap k : Nat) (cur : Array Value) (cs : List Value)
    (hg : w.heap[g]? = some (.cells cur 33 (0, 0))) (hk : Nat.min sLen dLen = k) (hn : cs.length = k * 2)
    (hsrc : ∀ j v, cs[j]? = some v → w.cell? (a.add j) = some v) (hfit : o + cs.length ≤ cur.size) (h1 : ∀ v ∈ cs, v.oneCell' = true) :
    (Builtin.copy_ #[24, 24] ty #[.slice (some ⟨g, o, none⟩) dLen dCap, .slice (some a) sLen sCap]).run Try.prog w =
      .ok (goInt k) (w.setRow g (cur.toList.take o ++ cs ++ cur.toList.drop (o + cs.length)).toArray) := by
  have hl := run_loadCells_list (P := Try.prog) w a cs hsrc
  have hst := run_storeCells_at Try.prog g o 33 cs 0 cur w hg (by simpa using hfit) h1
  obtain ⟨i, hi, _, hz, _⟩ := info_parts info33
  simp [Builtin.copy_, run_underlying Try.underlying24, Builtin.lenOf, Builtin.firstCells, sizeOf, typeInfo, hi, hz, hk, ← hn, hl, hst]

theorem clear_none (b : Option Addr) (c : Nat) (W : World) : (Builtin.clear_ #[24] 0 #[.slice b 0 c]).run Try.prog W = .ok (.tuple #[]) W := by
  cases b <;> simp [Builtin.clear_, run_underlying Try.underlying24]
/-- The cells of the empty span. -/
abbrev Z2 : List Value := [.int .u64 0, .int .u64 0]
/-- clear of one span. -/
theorem clear_one (g o c : Nat) (cur : Array Value) (W : World) (hg : W.heap[g]? = some (.cells cur 33 (0, 0))) (hfit : o + 2 ≤ cur.size) :
    (Builtin.clear_ #[24] 0 #[.slice (some ⟨g, o, none⟩) 1 c]).run Try.prog W = .ok (.tuple #[]) (W.setRow g (cur.toList.take o ++ Z2 ++ cur.toList.drop (o + 2)).toArray) := by
  have hst := run_storeCells_at Try.prog g o 33 Z2 0 cur W hg (by simpa using hfit) (by intro v hv; simp at hv; rw [hv]; rfl)
  obtain ⟨i, hi, hz, _, _⟩ := info_parts info33
  have hzc : (Builtin.zeroCells (Value.agg #[.int .u64 0, .int .u64 0]).cells 1).toList = [.int .u64 0, .int .u64 0] := by kernel_rfl
  simp only [Nat.add_zero] at hst
  simp [Builtin.clear_, run_underlying Try.underlying24, zeroValue, typeInfo, hi, hz, hzc, hst]

set_option maxRecDepth 100000 in
set_option maxHeartbeats 1600000 in
theorem replace_one (f d vb vc cap g : Nat) (cur c1 c2 : Array Value) (vs ds : List Value) (w : World) (hg : w.heap[g]? = some (.cells cur 33 (0, 0))) (hcs : cur.size = cap * 2) (hnc : f + 1 + d ≤ cap) (hcap : cap ≤ 9223372036854775807) (hd : 0 < d)
    (hvl : vs.length = 2) (hvs : ∀ j v, vs[j]? = some v → w.cell? ⟨vb, j, none⟩ = some v) (hv1 : ∀ v ∈ vs, v.oneCell' = true)
    (hds : ds = (cur.toList.drop ((f + 1) * 2)).take (d * 2)) (hd1 : ∀ v ∈ ds, v.oneCell' = true)
    (h1 : c1 = (cur.toList.take (f * 2) ++ vs ++ cur.toList.drop (f * 2 + vs.length)).toArray) (h2 : c2 = (c1.toList.take ((f + 1) * 2) ++ ds ++ c1.toList.drop ((f + 1) * 2 + ds.length)).toArray) :
    Calls Try.prog 29 #[.slice (some ⟨g, 0, none⟩) (f + 1 + d) cap, .int .i64 f, .int .i64 ((f + 1 : Nat) : Int), .slice (some ⟨vb, 0, none⟩) 1 vc] w fun e w' => e = .returned (.slice (some ⟨g, 0, none⟩) (f + 1 + d) cap) ∧ w'.heap[g]? = some (.cells c2 33 (0, 0)) ∧ w.grownBy w' (some g) := by
  have hc1s : c1.size = cap * 2 := by rw [h1]; simp; omega
  have hdl : ds.length = d * 2 := by rw [hds]; simp; omega
  have hcp1 : ∀ (W : World) ty, W.heap = w.heap → ∀ dc, (Builtin.copy_ #[24, 24] ty #[.slice (some ⟨g, f * 2, none⟩) (f + 1 + d - f) dc, .slice (some ⟨vb, 0, none⟩) 1 vc]).run Try.prog W = .ok (goInt (1 : Nat)) (W.setRow g c1) := by
    intro W ty hW dc
    rw [h1]
    exact run_copy2 W ty g (f * 2) (f + 1 + d - f) dc ⟨vb, 0, none⟩ 1 vc 1 cur vs (by rw [hW]; exact hg) (by simp only [Nat.min_def]; split <;> omega) (by omega)
      (fun j v hj => by rw [Addr.add_lit, Nat.zero_add, World.cell?_of_block (w := w) (by rw [hW])]; exact hvs j v hj) (by omega) hv1
  have hcp2 : ∀ (W : World) ty, W.heap[g]? = some (.cells c1 33 (0, 0)) → ∀ dc sc, (Builtin.copy_ #[24, 24] ty #[.slice (some ⟨g, (f + 1) * 2, none⟩) d dc, .slice (some ⟨g, (f + 1) * 2, none⟩) d sc]).run Try.prog W = .ok (goInt d) (W.setRow g c2) := by
    intro W ty hW dc sc
    rw [h2]
    refine run_copy2 W ty g ((f + 1) * 2) d dc ⟨g, (f + 1) * 2, none⟩ d sc d c1 ds hW (by simp) hdl (fun j v hj => ?_) (by omega) hd1
    have hj2 : j < ds.length := by
      by_cases h : j < ds.length
      · exact h
      · rw [List.getElem?_eq_none (by omega)] at hj; cases hj
    rw [Addr.add_lit]
    have e : c1[(f + 1) * 2 + j]? = some v := by
      rw [← hj, hds, h1]
      rw [List.getElem?_take, if_pos (by omega), List.getElem?_drop]
      simp only [List.getElem?_toArray]
      rw [List.getElem?_append_right (by simp; omega), List.getElem?_drop]
      congr 1
      simp
      omega
    simp [World.cell?, hW, e]
  obtain ⟨W1, hW1⟩ : ∃ W1, W1 = w.drew.setRow g c1 := ⟨_, rfl⟩
  have hg1 : W1.heap[g]? = some (.cells c1 33 (0, 0)) := by rw [hW1]; exact setRow_heap w.drew g cur c1 33 _ hg
  have b1' : w.grownBy W1 (some g) := by rw [hW1]; exact ⟨rfl, rfl, rfl, by simp [World.setRow], fun k _ hk => setRow_other w.drew g k c1 (fun e => hk (by rw [e]))⟩
  have k1 := fun ty => hcp1 w.drew ty rfl
  rw [← hW1] at k1
  have k2 := fun ty => hcp2 W1.drew ty hg1
  have HE : Hid (∀ W2, W2 = W1.drew.setRow g c2 → W2.heap[g]? = some (.cells c2 33 (0, 0)) ∧ w.grownBy W2 (some g)) := by
    intro W2 e
    rw [e]
    exact ⟨setRow_heap W1.drew g c1 c2 33 _ hg1, ⟨b1'.os, b1'.tape, b1'.output, by simp [World.setRow]; exact b1'.size, fun k hk hne => (setRow_other W1.drew g k c2 (fun e => hne (by rw [e]))).trans (b1'.block k hk hne)⟩⟩
  have x2 : ¬ cap = f + 1 := by omega
  have x3 : ¬ cap = f := by omega
  have mixed := mixedTry'
  have hclr := clear_none
  clear hg hcs hds hd1 h1 h2 hvs hv1 hcp1 hcp2 hg1 b1' hW1
  go_enter Try.func29, Try.ntmps29
  go_wp2
  go_region
  go_wp2
  go_region
  all_goals go_wp2
  all_goals go_ret
  all_goals exact ⟨rfl, HE.out _ rfl⟩
set_option maxRecDepth 100000 in
set_option maxHeartbeats 1600000 in
theorem replace_two (f d vb vc cap g : Nat) (cur c1 c2 c3 : Array Value) (vs ds : List Value) (w : World) (hg : w.heap[g]? = some (.cells cur 33 (0, 0))) (hcs : cur.size = cap * 2) (hnc : f + 2 + d ≤ cap) (hcap : cap ≤ 9223372036854775807) (hd : 0 < d)
    (hvl : vs.length = 2) (hvs : ∀ j v, vs[j]? = some v → w.cell? ⟨vb, j, none⟩ = some v) (hv1 : ∀ v ∈ vs, v.oneCell' = true)
    (hds : ds = (cur.toList.drop ((f + 2) * 2)).take (d * 2)) (hd1 : ∀ v ∈ ds, v.oneCell' = true)
    (h1 : c1 = (cur.toList.take (f * 2) ++ vs ++ cur.toList.drop (f * 2 + vs.length)).toArray) (h2 : c2 = (c1.toList.take ((f + 1) * 2) ++ ds ++ c1.toList.drop ((f + 1) * 2 + ds.length)).toArray) (h3 : c3 = (c2.toList.take ((f + 1 + d) * 2) ++ Z2 ++ c2.toList.drop ((f + 1 + d) * 2 + 2)).toArray) :
    Calls Try.prog 29 #[.slice (some ⟨g, 0, none⟩) (f + 2 + d) cap, .int .i64 f, .int .i64 ((f + 2 : Nat) : Int), .slice (some ⟨vb, 0, none⟩) 1 vc] w fun e w' => e = .returned (.slice (some ⟨g, 0, none⟩) (f + 1 + d) cap) ∧ w'.heap[g]? = some (.cells c3 33 (0, 0)) ∧ w.grownBy w' (some g) := by
  have hc1s : c1.size = cap * 2 := by rw [h1]; simp; omega
  have hdl : ds.length = d * 2 := by rw [hds]; simp; omega
  have hcp1 : ∀ (W : World) ty, W.heap = w.heap → ∀ dc, (Builtin.copy_ #[24, 24] ty #[.slice (some ⟨g, f * 2, none⟩) (f + 1 + d - f) dc, .slice (some ⟨vb, 0, none⟩) 1 vc]).run Try.prog W = .ok (goInt (1 : Nat)) (W.setRow g c1) := by
    intro W ty hW dc
    rw [h1]
    exact run_copy2 W ty g (f * 2) (f + 1 + d - f) dc ⟨vb, 0, none⟩ 1 vc 1 cur vs (by rw [hW]; exact hg) (by simp only [Nat.min_def]; split <;> omega) (by omega)
      (fun j v hj => by rw [Addr.add_lit, Nat.zero_add, World.cell?_of_block (w := w) (by rw [hW])]; exact hvs j v hj) (by omega) hv1
  have hcp2 : ∀ (W : World) ty, W.heap[g]? = some (.cells c1 33 (0, 0)) → ∀ dc sc, (Builtin.copy_ #[24, 24] ty #[.slice (some ⟨g, (f + 1) * 2, none⟩) d dc, .slice (some ⟨g, (f + 2) * 2, none⟩) d sc]).run Try.prog W = .ok (goInt d) (W.setRow g c2) := by
    intro W ty hW dc sc
    rw [h2]
    refine run_copy2 W ty g ((f + 1) * 2) d dc ⟨g, (f + 2) * 2, none⟩ d sc d c1 ds hW (by simp) hdl (fun j v hj => ?_) (by omega) hd1
    have hj2 : j < ds.length := by
      by_cases h : j < ds.length
      · exact h
      · rw [List.getElem?_eq_none (by omega)] at hj; cases hj
    rw [Addr.add_lit]
    have e : c1[(f + 2) * 2 + j]? = some v := by
      rw [← hj, hds, h1]
      rw [List.getElem?_take, if_pos (by omega), List.getElem?_drop]
      simp only [List.getElem?_toArray]
      rw [List.getElem?_append_right (by simp; omega), List.getElem?_drop]
      congr 1
      simp
      omega
    simp [World.cell?, hW, e]
  obtain ⟨W1, hW1⟩ : ∃ W1, W1 = w.drew.setRow g c1 := ⟨_, rfl⟩
  have hg1 : W1.heap[g]? = some (.cells c1 33 (0, 0)) := by rw [hW1]; exact setRow_heap w.drew g cur c1 33 _ hg
  have b1' : w.grownBy W1 (some g) := by rw [hW1]; exact ⟨rfl, rfl, rfl, by simp [World.setRow], fun k _ hk => setRow_other w.drew g k c1 (fun e => hk (by rw [e]))⟩
  have k1 := fun ty => hcp1 w.drew ty rfl
  rw [← hW1] at k1
  have k2 := fun ty => hcp2 W1.drew ty hg1
  have hc2s : c2.size = cap * 2 := by rw [h2]; simp; omega
  obtain ⟨W2, hW2⟩ : ∃ W2, W2 = W1.drew.setRow g c2 := ⟨_, rfl⟩
  have hg2 : W2.heap[g]? = some (.cells c2 33 (0, 0)) := by rw [hW2]; exact setRow_heap W1.drew g c1 c2 33 _ hg1
  have b2' : w.grownBy W2 (some g) := by rw [hW2]; exact ⟨b1'.os, b1'.tape, b1'.output, by simp [World.setRow]; exact b1'.size, fun k hk hne => (setRow_other W1.drew g k c2 (fun e => hne (by rw [e]))).trans (b1'.block k hk hne)⟩
  rw [← hW2] at k2
  have k3 := fun c => clear_one g ((f + 1 + d) * 2) c c2 W2 hg2 (by omega)
  rw [← h3] at k3
  have HE : Hid (∀ W3, W3 = W2.setRow g c3 → W3.heap[g]? = some (.cells c3 33 (0, 0)) ∧ w.grownBy W3 (some g)) := by
    intro W3 e
    rw [e]
    exact ⟨setRow_heap W2 g c2 c3 33 _ hg2, ⟨b2'.os, b2'.tape, b2'.output, by simp [World.setRow]; exact b2'.size, fun k hk hne => (setRow_other W2 g k c3 (fun e => hne (by rw [e]))).trans (b2'.block k hk hne)⟩⟩
  have x4 : ¬ cap = f + 2 := by omega
  have x5 : ¬ cap = f + 1 + d := by omega
  have x6 : f + 2 + d - (f + 1 + d) = 1 := by omega
  have x2 : ¬ cap = f + 1 := by omega
  have x3 : ¬ cap = f := by omega
  have mixed := mixedTry'
  clear hg hcs hds hd1 h1 h2 hvs hv1 hcp1 hcp2 hg1 b1' hW1 hW2 hg2 b2' h3
  go_enter Try.func29, Try.ntmps29
  go_wp2
  go_region
  go_wp2
  go_region
  all_goals go_wp2
  all_goals go_ret
  all_goals exact ⟨rfl, HE.out _ rfl⟩
end Go.Proofs.Ytcdgogcbijohcaa
