/-
  A set of layer 3 in memory, and which of its spans is the first that ends behind an address.
-/
import Derived.Test.YtcdgogcbijohcaaA2
import Derived.Shelf.SlSorted.Search
import Derived.Shelf.Lay
import Derived.Ground.SlsoProg
import Derived.Deep.RegionHeld3
import Derived.Deep.DrawnRows
namespace Go.Proofs
open Go.Shelf
def Ytcdgogcbijohcaa.l16_ren : Go.Shelf.Ren := ⟨fun | 16 => 34 | n => n, fun | 3 => 3 | 35 => 61 | 4 => 4 | 38 => 66 | n => n, fun | n => n⟩
theorem Ytcdgogcbijohcaa.l16 : Go.Proofs.SlLaysO.n16 Try.prog Ytcdgogcbijohcaa.l16_ren := {
  mixed := by kernel_rfl
  f16 := Try.func34.trans (congrArg some (by kernel_rfl))
  t3 := Try.underlying3
  a3 := Try.isAgg3
  z3 := Try.sizeOf3
  v3 := Try.zeroValue3
  t4 := Try.underlying4
  a4 := Try.isAgg4
  z4 := Try.sizeOf4
  v4 := Try.zeroValue4
  t35 := Try.underlying61
  a35 := Try.isAgg61
  z35 := Try.sizeOf61
  v35 := Try.zeroValue61
  t38 := Try.underlying66
  a38 := Try.isAgg66
  z38 := Try.sizeOf66
  v38 := Try.zeroValue66 }
end Go.Proofs
namespace Go.Proofs.Ytcdgogcbijohcaa
open Go.RowKit

/-- The cells of a row of spans. -/
def flat : List (Int × Int) → List Value
  | [] => []
  | p :: t => .int .u64 p.1 :: .int .u64 p.2 :: flat t

theorem flat_length : ∀ L : List (Int × Int), (flat L).length = L.length * 2
  | [] => rfl
  | p :: t => by simp only [flat, List.length_cons, flat_length t]; omega
theorem flat_append : ∀ L M : List (Int × Int), flat (L ++ M) = flat L ++ flat M
  | [], M => rfl
  | p :: t, M => by simp only [flat, List.cons_append, flat_append t M]
theorem flat_lo : ∀ (L : List (Int × Int)) (i : Nat) (p : Int × Int), L[i]? = some p → (flat L)[i * 2]? = some (.int .u64 p.1)
  | [], i, p, h => by simp at h
  | q :: t, 0, p, h => by simp at h; subst h; rfl
  | q :: t, i + 1, p, h => by
    have := flat_lo t i p (by simpa using h)
    rw [show (i + 1) * 2 = i * 2 + 1 + 1 by omega]
    simpa [flat] using this
theorem flat_hi : ∀ (L : List (Int × Int)) (i : Nat) (p : Int × Int), L[i]? = some p → (flat L)[i * 2 + 1]? = some (.int .u64 p.2)
  | [], i, p, h => by simp at h
  | q :: t, 0, p, h => by simp at h; subst h; rfl
  | q :: t, i + 1, p, h => by
    have := flat_hi t i p (by simpa using h)
    rw [show (i + 1) * 2 + 1 = i * 2 + 1 + 1 + 1 by omega]
    simpa [flat] using this
theorem flat_one : ∀ (L : List (Int × Int)) (u : Value), u ∈ flat L → u.oneCell' = true
  | [], u, h => by simp [flat] at h
  | q :: t, u, h => by
    simp only [flat, List.mem_cons] at h
    rcases h with rfl | rfl | h
    · rfl
    · rfl
    · exact flat_one t u h

/-- A set: its cell, and its row. -/
structure SetAt (w : World) (B : Nat) (v : Value) (L : List (Int × Int)) : Prop where
  cell : w.cell? ⟨B, 0, none⟩ = some v
  froz : w.frozen? ⟨B, 0, none⟩ = false
  row : w.ownsRow 0 33 2 v L.length (flat L)
  apart : v.ownBlock ≠ some B

theorem SetAt.lt {w : World} {B : Nat} {v : Value} {L : List (Int × Int)} (h : SetAt w B v L) : B < w.heap.size := World.block_lt_of_cell? w _ h.cell

/-- The row of a set that has a span. -/
theorem SetAt.some {w : World} {B : Nat} {v : Value} {L : List (Int × Int)} (h : SetAt w B v L) (hL : 0 < L.length) :
    ∃ g cap, v = .slice (some ⟨g, 0, none⟩) L.length cap ∧ g < w.heap.size ∧ g ≠ B ∧ L.length ≤ cap ∧ cap ≤ maxLen ∧ (∀ i p, L[i]? = Option.some p → w.cell? ⟨g, i * 2, none⟩ = Option.some (.int .u64 p.1) ∧ w.cell? ⟨g, i * 2 + 1, none⟩ = Option.some (.int .u64 p.2)) := by
  obtain ⟨hl, hv | ⟨g, cap, cur, rfl, hbg, hg, hnc, hcm, hcs, htake⟩⟩ := h.row
  · omega
  · refine ⟨g, cap, rfl, (Array.getElem?_eq_some_iff.1 hg).1, ?_, hnc, hcm, fun i p hp => ?_⟩
    · intro e; apply h.apart; simp [Value.ownBlock, e]
    · have hc := h.row.cells (g := g) rfl
      have c1 := hc _ _ (flat_lo L i p hp)
      have c2 := hc _ _ (flat_hi L i p hp)
      rw [Addr.add_lit, Nat.zero_add] at c1 c2
      exact ⟨c1, c2⟩
theorem SetAt.none {w : World} {B : Nat} {v : Value} {L : List (Int × Int)} (h : SetAt w B v L) : ∃ b cap, v = .slice b L.length cap ∧ L.length ≤ cap ∧ cap ≤ maxLen := by
  obtain ⟨hl, ⟨rfl, e⟩ | ⟨g, cap, cur, rfl, hbg, hg, hnc, hcm, hcs, htake⟩⟩ := h.row
  · exact ⟨Option.none, 0, by rw [e], by omega, by unfold maxLen; omega⟩
  · exact ⟨_, cap, rfl, hnc, hcm⟩

/-- What lies below is a set still. -/
theorem SetAt.below {w w' : World} {B : Nat} {v : Value} {L : List (Int × Int)} (h : SetAt w B v L) {n : Nat} (hb : Below n w w') (hB : B < n) (hv : ∀ g, v.ownBlock = Option.some g → g < n) : SetAt w' B v L := by
  refine ⟨(hb.cell (p := ⟨B, 0, Option.none⟩) hB).trans h.cell, (hb.frozen (p := ⟨B, 0, Option.none⟩) hB).trans h.froz, ?_, h.apart⟩
  obtain ⟨hl, hv0 | ⟨g, cap, cur, rfl, hbg, hg, hnc, hcm, hcs, htake⟩⟩ := h.row
  · exact ⟨hl, .inl hv0⟩
  · exact ⟨hl, .inr ⟨g, cap, cur, rfl, hbg, (hb.block g (hv g rfl)).trans hg, hnc, hcm, hcs, htake⟩⟩
theorem SetAt.own {w : World} {B : Nat} {v : Value} {L : List (Int × Int)} (h : SetAt w B v L) (g : Nat) (e : v.ownBlock = Option.some g) : g < w.heap.size := by
  obtain ⟨hl, ⟨rfl, _⟩ | ⟨g', cap, cur, rfl, hbg, hg, hnc, hcm, hcs, htake⟩⟩ := h.row
  · cases e
  · cases e; exact (Array.getElem?_eq_some_iff.1 hg).1
theorem SetAt.next {w w' : World} {B : Nat} {v : Value} {L : List (Int × Int)} (h : SetAt w B v L) (hb : Below w.heap.size w w') : SetAt w' B v L := h.below hb h.lt h.own

/-- The place of the first span that ends behind an address. -/
def beh (L : List (Int × Int)) (at_ : Int) : Nat := (List.range L.length).countP (fun i => !decide (at_ < (L.getD i (0, 0)).2))

set_option maxHeartbeats 800000 in
theorem behind1 (B g cap bA bS : Nat) (L : List (Int × Int)) (at_ lo hi : Int) (i : Nat) (W : World) (hx : L[i]? = some (lo, hi))
    (ca : W.cell? ⟨bA, 0, none⟩ = some (.int .u64 at_)) (cs : W.cell? ⟨bS, 0, none⟩ = some (.pointer (some ⟨B, 0, none⟩))) (cB : W.cell? ⟨B, 0, none⟩ = some (.slice (some ⟨g, 0, none⟩) L.length cap)) (cg : W.cell? ⟨g, i * 2 + 1, none⟩ = some (.int .u64 hi)) :
    Calls Try.prog 35 (#[.int .i64 i] ++ #[.pointer (some ⟨bA, 0, none⟩), .pointer (some ⟨bS, 0, none⟩)]) W fun e w' => e = .returned (.bool (decide (at_ < hi))) ∧ ∃ q, w' = W.drewN q := by
  have hlt : i < L.length := by
    by_cases h : i < L.length
    · exact h
    · rw [List.getElem?_eq_none (by omega)] at hx; cases hx
  have hiz : (i : Int) < (L.length : Int) := by omega
  clear hx
  obtain ⟨n, hn⟩ : ∃ n, L.length = n := ⟨_, rfl⟩
  rw [hn] at hlt hiz cB
  clear hn
  go_enter Try.func35, Try.ntmps35
  go_wp2
  go_region
  all_goals go_wp2
  all_goals go_ret
  all_goals exact ⟨rfl, 1, rfl⟩

theorem eg35 : ∀ args w, (callFunc 35 args).run Try.prog w = .ok (.enter 35 args) w := enters_of Try.func35 (by kernel_rfl) rfl
theorem cell_new0 (W : World) (v : Value) (t : TypeId) : (W.alloc (.cells #[v] t)).cell? ⟨W.heap.size, 0, none⟩ = some v := Go.Proofs.cell_new_sl W v t

set_option maxHeartbeats 1600000 in
theorem behind_any (B : Nat) (v : Value) (L : List (Int × Int)) (at_ : Int) (w : World) (h : SetAt w B v L) (hL : L.length ≤ 100000)
    (hs : ∀ a b, a ≤ b → b < L.length → at_ < (L.getD a (0, 0)).2 → at_ < (L.getD b (0, 0)).2) :
    Calls Try.prog 28 #[.pointer (some ⟨B, 0, none⟩), .int .u64 at_] w fun e w' => e = .returned (.int .i64 (beh L at_ : Nat)) ∧ Below w.heap.size w w' := by
  obtain ⟨W0, hW0⟩ : ∃ W0, W0 = (w.alloc (.cells #[.pointer (some ⟨B, 0, none⟩)] 41)).alloc (.cells #[.int .u64 at_] 31) := ⟨_, rfl⟩
  have hsize : W0.heap.size = w.heap.size + 1 + 1 := by rw [hW0]; simp
  have hb0 : Below w.heap.size w W0 := by rw [hW0]; exact ((Below.refl _ w).alloc (Nat.le_refl _) _).alloc (by simp) _
  have h0 := h.next hb0
  have cs : W0.cell? ⟨w.heap.size, 0, none⟩ = some (.pointer (some ⟨B, 0, none⟩)) := by rw [hW0]; exact Go.Proofs.cell_alloc_sl _ (cell_new0 w _ _)
  have ca : W0.cell? ⟨w.heap.size + 1, 0, none⟩ = some (.int .u64 at_) := by rw [hW0]; have := cell_new0 (w.alloc (.cells #[.pointer (some ⟨B, 0, none⟩)] 41)) (.int .u64 at_) 31; rwa [World.size_alloc] at this
  have hS := Go.Proofs.Any.sort_Search l16 35 #[.pointer (some ⟨w.heap.size + 1, 0, none⟩), .pointer (some ⟨w.heap.size, 0, none⟩)] L.length (fun i => decide (at_ < (L.getD i (0, 0)).2)) W0 eg35 (by omega)
    (fun m os i hi => by
      obtain ⟨g, cap, rfl, hg, hgB, hnc, hcm, hc⟩ := h0.some (by omega)
      have hp : L[i]? = some (L.getD i (0, 0)) := by rw [List.getD_eq_getElem?_getD, List.getElem?_eq_getElem hi]; rfl
      exact (behind1 B g cap (w.heap.size + 1) w.heap.size L at_ (L.getD i (0, 0)).1 (L.getD i (0, 0)).2 i _ hp (cell_grown (by simp [hsize]) ca m os) (cell_grown (by simp [hsize]; omega) cs m os) (cell_grown (by simp [hsize]; have := h.lt; omega) h0.cell m os)
        (cell_grown (by simpa using hg) (hc i _ hp).2 m os)).mono fun _ _ ⟨he, q, hq⟩ => ⟨he, q, #[], by rw [hq, Go.Sort.grow_empty]⟩)
    (fun a b h1 h2 h3 => by simpa using hs a b h1 h2 (by simpa using h3))
  have hS' : Calls Try.prog 34 #[.int .i64 L.length, .func (.func 35) #[] #[.pointer (some ⟨w.heap.size + 1, 0, none⟩), .pointer (some ⟨w.heap.size, 0, none⟩)]] W0 fun e w' => e = .returned (.int .i64 (beh L at_ : Nat)) ∧ ∃ q os, w' = Go.Sort.grow (W0.drewN q) os := hS
  clear hS
  obtain ⟨r, hr⟩ : ∃ r, beh L at_ = r := ⟨_, rfl⟩
  rw [hr] at hS' ⊢
  obtain ⟨b, cap, rfl, hnc, hcm⟩ := h.none
  have cB := h.cell
  have hBlt := h.lt
  clear h0 cs ca hs hb0 h
  obtain ⟨n, hn⟩ : ∃ n, L.length = n := ⟨_, rfl⟩
  rw [hn] at hS' cB
  clear hn
  go_enter Try.func28, Try.ntmps28
  go_wp2_with (go_at_call 34; rw [← hW0]; refine hS'.mono ?_; rintro e w' ⟨rfl, q, os, rfl⟩)
  go_ret
  refine ⟨rfl, ?_⟩
  rw [← hW0]
  have hb0 : Below w.heap.size w W0 := by rw [hW0]; exact ((Below.refl _ w).alloc (Nat.le_refl _) _).alloc (by simp) _
  exact hb0.trans (Go.Proofs.below_grown_sl w.heap.size W0 q os (by omega))
end Go.Proofs.Ytcdgogcbijohcaa
