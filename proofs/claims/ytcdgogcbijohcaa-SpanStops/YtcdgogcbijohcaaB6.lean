/-
  Layer 3: whether a set covers a span, once more, with what the call lays.
-/
import Derived.Test.YtcdgogcbijohcaaB5
import Derived.Shelf.SlSortCmp.QuietGrown
namespace Go.Proofs.Ytcdgogcbijohcaa
open Go.RowKit

/-- Blocks were laid behind, and orders drawn. -/
def Gr (W w' : World) : Prop := ∃ q os, w' = Go.Sort.grow (W.drewN q) os
theorem Gr.below {W w' : World} (h : Gr W w') : Below W.heap.size W w' := by
  obtain ⟨q, os, rfl⟩ := h
  exact Go.Proofs.below_grown_sl W.heap.size W q os (Nat.le_refl _)
theorem gr1 {W w' : World} {o : Obj} (h : w' = W.alloc o) : Gr W w' := ⟨0, #[o], by rw [h]; exact Go.Sort.alloc_eq_grow W o⟩
theorem Gr.trans {A B C : World} (h : Gr A B) (k : Gr B C) : Gr A C := by
  obtain ⟨q, os, rfl⟩ := h
  obtain ⟨q', os', rfl⟩ := k
  exact ⟨q + q', os ++ os', by show Go.Sort.grow (Go.Sort.grow ((A.drewN q).drewN q') os) os' = _; rw [Go.Sort.grow_grow, World.drewN_drewN]⟩
theorem gr2 {W w' : World} {o p : Obj} (h : w' = (W.alloc o).alloc p) : Gr W w' := (gr1 (W := W) (o := o) rfl).trans (gr1 h)
theorem gr3 {W w' : World} {o p q : Obj} (h : w' = ((W.alloc o).alloc p).alloc q) : Gr W w' := (gr2 (W := W) (o := o) (p := p) rfl).trans (gr1 h)
theorem Gr.call {f : FuncId} {args : Array Value} {w : World} {n : Nat} {os : Array Obj} {v : Value} (h : ∀ W, Calls Try.prog f args W fun e w' => e = .returned v ∧ Gr W w') :
    Calls Try.prog f args (Go.Sort.grow (w.drewN n) os) fun e w' => e = .returned v ∧ ∃ q os', w' = Go.Sort.grow ((Go.Sort.grow (w.drewN n) os).drewN q) os' := h _

set_option maxHeartbeats 1600000 in
theorem behind_g (B : Nat) (v : Value) (L : List (Int × Int)) (at_ : Int) (w : World) (h : SetAt w B v L) (hL : L.length ≤ 100000)
    (hs : ∀ a b, a ≤ b → b < L.length → at_ < (L.getD a (0, 0)).2 → at_ < (L.getD b (0, 0)).2) :
    Calls Try.prog 28 #[.pointer (some ⟨B, 0, none⟩), .int .u64 at_] w fun e w' => e = .returned (.int .i64 (beh L at_ : Nat)) ∧ Gr w w' := by
  obtain ⟨W0, hW0⟩ : ∃ W0, W0 = (w.alloc (.cells #[.pointer (some ⟨B, 0, none⟩)] 41)).alloc (.cells #[.int .u64 at_] 31) := ⟨_, rfl⟩
  have hsize : W0.heap.size = w.heap.size + 1 + 1 := by rw [hW0]; simp
  have hb0 : Below w.heap.size w W0 := by rw [hW0]; exact ((Below.refl _ w).alloc (Nat.le_refl _) _).alloc (by simp) _
  have h0 := h.next hb0
  have cs : W0.cell? ⟨w.heap.size, 0, none⟩ = some (.pointer (some ⟨B, 0, none⟩)) := by rw [hW0]; exact Go.Proofs.cell_alloc_sl _ (cell_new0 w _ _)
  have ca : W0.cell? ⟨w.heap.size + 1, 0, none⟩ = some (.int .u64 at_) := by rw [hW0]; have := cell_new0 (w.alloc (.cells #[.pointer (some ⟨B, 0, none⟩)] 41)) (.int .u64 at_) 31; rwa [World.size_alloc] at this
  have hS := Go.Proofs.Any.sort_Search l16 35 #[.pointer (some ⟨w.heap.size + 1, 0, none⟩), .pointer (some ⟨w.heap.size, 0, none⟩)] L.length (fun i => decide (at_ < (L.getD i (0, 0)).2)) W0 eg35 (by omega)
    (fun m os i hi => by
      obtain ⟨g, cap, rfl, hg, hgB, hnc, hcm, hc⟩ := h0.some (by omega)
      have hp : L[i]? = some (L.getD i (0, 0)) := by rw [List.getD_eq_getElem?_getD, List.getElem?_eq_getElem hi]; rfl
      exact (behind1 B g cap (w.heap.size + 1) w.heap.size L at_ (L.getD i (0, 0)).1 (L.getD i (0, 0)).2 i _ hp (cell_grown (by simp [hsize]) ca m os) (cell_grown (by simp [hsize]; omega) cs m os) (cell_grown (by simp [hsize]; have := h.lt; omega) h0.cell m os)
        (cell_grown (by simpa using hg) (hc i _ hp).2 m os)).mono fun _ _ ⟨he, q, hq⟩ => ⟨he, q, #[], by rw [hq, Go.Sort.grow_empty]⟩)
    (fun a b h1 h2 h3 => by simpa using hs a b h1 h2 (by simpa using h3))
  have hS' : Calls Try.prog 34 #[.int .i64 L.length, .func (.func 35) #[] #[.pointer (some ⟨w.heap.size + 1, 0, none⟩), .pointer (some ⟨w.heap.size, 0, none⟩)]] W0 fun e w' => e = .returned (.int .i64 (beh L at_ : Nat)) ∧ ∃ q os, w' = Go.Sort.grow (W0.drewN q) os := hS
  clear hS
  obtain ⟨r, hr⟩ : ∃ r, beh L at_ = r := ⟨_, rfl⟩
  rw [hr] at hS' ⊢
  obtain ⟨b, cap, rfl, hnc, hcm⟩ := h.none
  have cB := h.cell
  have hBlt := h.lt
  clear h0 cs ca hs hb0 h
  obtain ⟨n, hn⟩ : ∃ n, L.length = n := ⟨_, rfl⟩
  rw [hn] at hS' cB
  clear hn
  go_enter Try.func28, Try.ntmps28
  go_wp2_with (go_at_call 34; rw [← hW0]; refine hS'.mono ?_; rintro e w' ⟨rfl, q, os, rfl⟩)
  go_ret
  refine ⟨rfl, ?_⟩
  rw [← hW0]
  exact (gr2 hW0).trans ⟨q, os, rfl⟩

theorem beh_each {L : List (Int × Int)} (h : Good L) (i : Nat) (hi : i < L.length) : beh L (L.getD i (0, 0)).1 = i := by
  obtain ⟨hr, hA, hC⟩ := beh_spec h (L.getD i (0, 0)).1
  have e := (h.each i hi).2.1
  generalize beh L (L.getD i (0, 0)).1 = r at hr hA hC
  by_cases h1 : i < r
  · have := hA i h1; omega
  · by_cases h2 : r < i
    · have := hC r (Nat.le_refl _) (by omega)
      have := h.apart r i h2 hi
      omega
    · omega

set_option maxRecDepth 100000 in
set_option maxHeartbeats 1600000 in
theorem covers_g (B : Nat) (v : Value) (L : List (Int × Int)) (i : Nat) (lo hh : Int) (w : World) (h : SetAt w B v L) (hL : L.length ≤ 100000) (hG : Good L) (hi : i < L.length) (hp : L.getD i (0, 0) = (lo, hh)) :
    Calls Try.prog 9 #[.pointer (some ⟨B, 0, none⟩), .agg #[.int .u64 lo, .int .u64 hh]] w fun e w' => e = .returned (.bool true) ∧ Gr w w' := by
  have hlh : lo < hh := by have := (hG.each i hi).2.1; rw [hp] at this; exact this
  have hbe : beh L lo = i := by have := beh_each hG i hi; rw [hp] at this; exact this
  have hx := box_at w lo hh
  have hb1 := b1 (w := w) (box lo hh) rfl
  have BE := fun W hb => behind_g B v L lo W (h.next (w' := W) hb) hL (hG.mono lo)
  rw [hbe] at BE
  have hpl : L[i]? = some (lo, hh) := by rw [← hp]; exact getD_some hi
  obtain ⟨g, cap, rfl, hg, hgB, hnc, hcm, hc⟩ := h.some (by omega)
  obtain ⟨d1, d2⟩ := hc i _ hpl
  have cB := h.cell
  have hBl := h.lt
  have hne : ¬ hh ≤ lo := by omega
  have hcap : cap ≤ 9223372036854775807 := by unfold maxLen at hcm; omega
  have V := within_any lo hh lo hh
  have V2 : ∀ W, Calls Try.prog 21 #[.agg #[.int .u64 lo, .int .u64 hh], .agg #[.int .u64 lo, .int .u64 hh]] W fun e w' => e = .returned (.bool true) ∧ Gr W w' := fun W => (V W).mono fun _ _ k => ⟨by rw [k.1]; simp, gr3 k.2⟩
  obtain ⟨n, hn⟩ : ∃ n, L.length = n := ⟨_, rfl⟩
  rw [hn] at hi cB hnc
  have hii : (i : Int) < (n : Int) := by omega
  clear hc hpl h hG hp hbe V hn hcm
  go_enter Try.func9, Try.ntmps9
  go_wp2_with (first
    | (go_at_call 27; refine (empty_any _ _ _).mono ?_; rintro e w2 ⟨rfl, hw2⟩; have hb2 := b1 _ hw2; have hg2 := gr1 hw2; clear hw2; have c20 := (hb2.cell (World.block_lt_of_cell? _ _ hx.1)).trans hx.1; have c21 := (hb2.cell (World.block_lt_of_cell? _ _ hx.2)).trans hx.2; have hbb := bt hb1 hb2)
    | (go_at_call 28; refine (BE _ hbb).mono ?_; rintro e w3 ⟨rfl, hg3⟩; have hb3 := hg3.below; have c30 := (hb3.cell (World.block_lt_of_cell? _ _ c20)).trans c20; have c31 := (hb3.cell (World.block_lt_of_cell? _ _ c21)).trans c21; have hbw := bt hbb hb3))
  have z1 := fun n os => Go.cell_grown (World.block_lt_of_cell? _ _ c30) c30 n os
  have z2 := fun n os => Go.cell_grown (World.block_lt_of_cell? _ _ c31) c31 n os
  have e3 := (hbw.cell (p := ⟨B, 0, none⟩) hBl).trans cB
  have z3 := fun n os => Go.cell_grown (World.block_lt_of_cell? _ _ e3) e3 n os
  have e4 := (hbw.cell (p := ⟨g, i * 2, none⟩) hg).trans d1
  have z4 := fun n os => Go.cell_grown (World.block_lt_of_cell? _ _ e4) e4 n os
  have e5 := (hbw.cell (p := ⟨g, i * 2 + 1, none⟩) hg).trans d2
  have z5 := fun n os => Go.cell_grown (World.block_lt_of_cell? _ _ e5) e5 n os
  have mixed := mixedTry
  have HG : Hid (Gr w w3) := ((gr1 (W := w) (o := box lo hh) rfl).trans hg2).trans hg3
  clear c20 c21 c30 c31 e3 e4 e5 hb1 hb2 hb3 hbb hbw hg2 hg3 d1 d2 cB hx
  go_quiet_grown (first | (go_at_call 21; refine Calls.grown_of (Gr.call V2)))
  go_wp2
  go_ret
  exact ⟨rfl, HG.out.trans ⟨_, _, rfl⟩⟩
end Go.Proofs.Ytcdgogcbijohcaa
