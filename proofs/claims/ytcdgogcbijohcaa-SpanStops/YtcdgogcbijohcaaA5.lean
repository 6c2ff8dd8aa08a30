/-
  Layer 3: a span is added to a set.
-/
import Derived.Test.YtcdgogcbijohcaaA4
import Derived.OneCell
import Derived.Deep.RegionWith
namespace Go.Proofs.Ytcdgogcbijohcaa
open Go.RowKit

/-- All that lay is as it was, but for the set's cell and its row. -/
structure Kept (B : Nat) (v : Value) (w w' : World) : Prop where
  os : w'.os = w.os
  tape : w'.tape = w.tape
  output : w'.output = w.output
  size : w.heap.size ≤ w'.heap.size
  block : ∀ k, k < w.heap.size → k ≠ B → v.ownBlock ≠ some k → w'.heap[k]? = w.heap[k]?

def addFrom (L : List (Int × Int)) (lo : Int) : Nat := if 0 < beh L lo ∧ (L.getD (beh L lo - 1) (0, 0)).2 = lo then beh L lo - 1 else beh L lo
def addLo (L : List (Int × Int)) (lo : Int) : Int := if 0 < beh L lo ∧ (L.getD (beh L lo - 1) (0, 0)).2 = lo then (L.getD (beh L lo - 1) (0, 0)).1 else lo
def addTo (L : List (Int × Int)) (lo hi : Int) : Nat := if beh L lo < L.length ∧ (L.getD (beh L lo) (0, 0)).1 = hi then beh L lo + 1 else beh L lo
def addHi (L : List (Int × Int)) (lo hi : Int) : Int := if beh L lo < L.length ∧ (L.getD (beh L lo) (0, 0)).1 = hi then (L.getD (beh L lo) (0, 0)).2 else hi
/-- The set's spans, with a span more. -/
def added (L : List (Int × Int)) (lo hi : Int) : List (Int × Int) := L.take (addFrom L lo) ++ (addLo L lo, addHi L lo hi) :: L.drop (addTo L lo hi)

theorem box_cells {W : World} {vb : Nat} {x y : Int} (h : W.heap[vb]? = some (box x y)) : W.cell? ⟨vb, 0, none⟩ = some (.int .u64 x) ∧ W.cell? ⟨vb, 1, none⟩ = some (.int .u64 y) := by
  constructor <;> simp [World.cell?, h]
theorem box_new (W : World) (o : Obj) (n : Nat) (h : n = W.heap.size) : (W.alloc o).heap[n]? = some o := by rw [h]; exact heap_alloc_new W o

/-- What slices.Replace does at a set. -/
def Replaces (B : Nat) (v : Value) (L : List (Int × Int)) (f t : Nat) (x y : Int) (L' : List (Int × Int)) : Prop :=
  ∀ W vb vc, SetAt W B v L → v.ownBlock ≠ some vb → W.heap[vb]? = some (box x y) →
    Calls Try.prog 29 #[v, .int .i64 f, .int .i64 t, .slice (some ⟨vb, 0, none⟩) 1 vc] W fun e W' => ∃ v', e = .returned v' ∧ W'.ownsRow 0 33 2 v' L'.length (flat L') ∧ W.grownBy W' v.ownBlock ∧ Lies W v v'

set_option maxHeartbeats 400000 in
theorem add_nil (lo hi : Int) (w : World) : Calls Try.prog 16 #[.pointer none, .agg #[.int .u64 lo, .int .u64 hi]] w fun e w' => e = .returned (.bool false) ∧ Below w.heap.size w w' := by
  go_enter Try.func16, Try.ntmps16
  go_wp2
  go_ret
  exact ⟨rfl, b1 _ rfl⟩

set_option maxRecDepth 100000 in
set_option maxHeartbeats 1600000 in
theorem add_empty (B : Nat) (lo hi : Int) (w : World) (hne : hi ≤ lo) : Calls Try.prog 16 #[.pointer (some ⟨B, 0, none⟩), .agg #[.int .u64 lo, .int .u64 hi]] w fun e w' => e = .returned (.bool false) ∧ Below w.heap.size w w' := by
  go_enter Try.func16, Try.ntmps16
  go_wp2_with (go_at_call 27; refine (empty_any _ _ _).mono ?_; rintro e w2 ⟨rfl, rfl⟩)
  go_ret
  exact ⟨rfl, b2 _ _ rfl⟩

set_option maxRecDepth 100000 in
set_option maxHeartbeats 1600000 in
theorem add_met (B : Nat) (v : Value) (L : List (Int × Int)) (lo hi : Int) (w : World) (h : SetAt w B v L) (hL : L.length ≤ 100000) (hne : lo < hi)
    (hs : ∀ a b, a ≤ b → b < L.length → lo < (L.getD a (0, 0)).2 → lo < (L.getD b (0, 0)).2) (hmet : metAt L lo hi = true) :
    Calls Try.prog 16 #[.pointer (some ⟨B, 0, none⟩), .agg #[.int .u64 lo, .int .u64 hi]] w fun e w' => e = .returned (.bool false) ∧ Below w.heap.size w w' := by
  have M := fun W hb => setMeets_any B v L lo hi W (h.next (w' := W) hb) hL hs
  rw [hmet] at M
  have hne' : ¬ hi ≤ lo := by omega
  have hx := box_at w lo hi
  have hb1 := b1 (w := w) (box lo hi) rfl
  clear h hs hmet
  go_enter Try.func16, Try.ntmps16
  go_wp2_with (first | (go_at_call 27; refine (empty_b _ _ _).mono ?_; rintro e w2 ⟨rfl, hb2⟩; have c0 := (hb2.cell (World.block_lt_of_cell? _ _ hx.1)).trans hx.1; have c1 := (hb2.cell (World.block_lt_of_cell? _ _ hx.2)).trans hx.2; have hbb := bt hb1 hb2) | (go_at_call 11; refine (M _ hbb).mono ?_; rintro e w3 ⟨rfl, hb3⟩))
  go_ret
  exact ⟨rfl, bt hbb hb3⟩

/-- The facts that the walk of Add needs, from world to world. -/
theorem x_next {W W' : World} {X : Nat} {lo hi : Int} (hb : Below W.heap.size W W') (h : W.cell? ⟨X, 0, none⟩ = some (.int .u64 lo) ∧ W.cell? ⟨X, 1, none⟩ = some (.int .u64 hi) ∧ W.frozen? ⟨X, 0, none⟩ = false ∧ W.frozen? ⟨X, 1, none⟩ = false) :
    W'.cell? ⟨X, 0, none⟩ = some (.int .u64 lo) ∧ W'.cell? ⟨X, 1, none⟩ = some (.int .u64 hi) ∧ W'.frozen? ⟨X, 0, none⟩ = false ∧ W'.frozen? ⟨X, 1, none⟩ = false := by
  obtain ⟨c1, c2, c3, c4⟩ := h
  have hX := World.block_lt_of_cell? W _ c1
  exact ⟨(hb.cell (p := ⟨X, 0, none⟩) hX).trans c1, (hb.cell (p := ⟨X, 1, none⟩) hX).trans c2, (hb.frozen (p := ⟨X, 0, none⟩) hX).trans c3, (hb.frozen (p := ⟨X, 1, none⟩) hX).trans c4⟩
theorem x_at (w : World) (lo hi : Int) : (w.alloc (box lo hi)).cell? ⟨w.heap.size, 0, none⟩ = some (.int .u64 lo) ∧ (w.alloc (box lo hi)).cell? ⟨w.heap.size, 1, none⟩ = some (.int .u64 hi) ∧ (w.alloc (box lo hi)).frozen? ⟨w.heap.size, 0, none⟩ = false ∧ (w.alloc (box lo hi)).frozen? ⟨w.heap.size, 1, none⟩ = false := by
  obtain ⟨c1, c2⟩ := box_at w lo hi
  exact ⟨c1, c2, by simp [go_sem], by simp [go_sem]⟩

theorem xb_next {W W' : World} {X B : Nat} {lo hi : Int} {v : Value} (hb : Below W.heap.size W W')
    (hS : W.cell? ⟨X, 0, none⟩ = some (.int .u64 lo) ∧ W.cell? ⟨X, 1, none⟩ = some (.int .u64 hi) ∧ W.cell? ⟨B, 0, none⟩ = some v) :
    W'.cell? ⟨X, 0, none⟩ = some (.int .u64 lo) ∧ W'.cell? ⟨X, 1, none⟩ = some (.int .u64 hi) ∧ W'.cell? ⟨B, 0, none⟩ = some v := by
  obtain ⟨c1, c2, c3⟩ := hS
  exact ⟨(hb.cell (World.block_lt_of_cell? W _ c1)).trans c1, (hb.cell (World.block_lt_of_cell? W _ c2)).trans c2, (hb.cell (World.block_lt_of_cell? W _ c3)).trans c3⟩
theorem xb_after {w W W' : World} {B : Nat} {lo hi : Int} {v : Value} {L : List (Int × Int)} (h : SetAt w B v L) (hg : W.grownBy W' v.ownBlock)
    (hS : W.cell? ⟨w.heap.size, 0, none⟩ = some (.int .u64 lo) ∧ W.cell? ⟨w.heap.size, 1, none⟩ = some (.int .u64 hi) ∧ W.cell? ⟨B, 0, none⟩ = some v) :
    W'.cell? ⟨w.heap.size, 0, none⟩ = some (.int .u64 lo) ∧ W'.cell? ⟨w.heap.size, 1, none⟩ = some (.int .u64 hi) ∧ W'.cell? ⟨B, 0, none⟩ = some v := by
  obtain ⟨c1, c2, c3⟩ := hS
  have k1 := hg.block w.heap.size (World.block_lt_of_cell? W _ c1) (fun e => by have := h.own _ e.symm; omega)
  have k2 := hg.block B (World.block_lt_of_cell? W _ c3) (fun e => h.apart e.symm)
  exact ⟨(World.cell?_of_block (a := ⟨w.heap.size, 0, none⟩) k1).trans c1, (World.cell?_of_block (a := ⟨w.heap.size, 1, none⟩) k1).trans c2, (World.cell?_of_block (a := ⟨B, 0, none⟩) k2).trans c3⟩
theorem add_cell {B : Nat} {v : Value} {L : List (Int × Int)} {w W W' : World} (h : SetAt w B v L) (hb : Below w.heap.size w W) (hg : W.grownBy W' v.ownBlock) :
    W'.cell? ⟨B, 0, none⟩ = some v ∧ W'.frozen? ⟨B, 0, none⟩ = false := by
  have h2 := h.next hb
  have hk := hg.block B h2.lt (fun e => h.apart e.symm)
  exact ⟨(World.cell?_of_block (a := ⟨B, 0, none⟩) hk).trans h2.cell, (World.frozen?_of_block (a := ⟨B, 0, none⟩) hk).trans h2.froz⟩
theorem add_close {B : Nat} {v v' : Value} {L L' : List (Int × Int)} {w W W' : World} (h : SetAt w B v L) (hb : Below w.heap.size w W) (hrow : W'.ownsRow 0 33 2 v' L'.length (flat L')) (hg : W.grownBy W' v.ownBlock) (hl : Lies W v v') :
    ∃ u, SetAt (W'.setCell ⟨B, 0, none⟩ v') B u L' ∧ Kept B v w (W'.setCell ⟨B, 0, none⟩ v') ∧ Lies w v u := by
  obtain ⟨c1, c2⟩ := add_cell h hb hg
  have hap : v'.ownBlock ≠ some B := by
    rcases hl with e | ⟨g, hg1, e⟩
    · rw [e]; exact h.apart
    · rw [e]; intro e2; cases e2; have := h.lt; have := hb.size; omega
  refine ⟨v', ⟨World.cell?_setCell_same' _ _ _ (by rw [c1]; rfl), by rw [World.frozen?_setCell]; exact c2, ownsRow_setCell_other hrow (by exact hap) _, hap⟩, ⟨hg.os.trans hb.os, hg.tape.trans hb.tape, hg.output.trans hb.output, ?_, ?_⟩, ?_⟩
  · rw [World.size_setCell]; exact Nat.le_trans hb.size hg.size
  · intro k hk hkB hkv
    rw [Below.heap_setCell _ _ _ _ (by exact hkB)]
    exact (hg.block k (Nat.lt_of_lt_of_le hk hb.size) (fun e => hkv e.symm)).trans (hb.block k hk)
  · exact hl.imp id fun ⟨g, h1, h2⟩ => ⟨g, Nat.le_trans hb.size h1, h2⟩

theorem rep_at {B f t vb vc : Nat} {v : Value} {L L' : List (Int × Int)} {x y : Int} {w W : World} (HR : Replaces B v L f t x y L') (h : SetAt w B v L) (hb2 : Below w.heap.size w W) (hpos : 0 < L'.length) (hvb : w.heap.size ≤ vb)
    (hx : W.heap[vb]? = some (box x y)) :
    Calls Try.prog 29 #[v, .int .i64 f, .int .i64 t, .slice (some ⟨vb, 0, none⟩) 1 vc] W fun e W' => ∃ g n cap, e = .returned (.slice (some ⟨g, 0, none⟩) n cap) ∧ W'.cell? ⟨B, 0, none⟩ = some v ∧ W'.frozen? ⟨B, 0, none⟩ = false ∧
      (∃ u, SetAt (W'.setCell ⟨B, 0, none⟩ (.slice (some ⟨g, 0, none⟩) n cap)) B u L' ∧ Kept B v w (W'.setCell ⟨B, 0, none⟩ (.slice (some ⟨g, 0, none⟩) n cap)) ∧ Lies w v u) ∧ W.grownBy W' v.ownBlock := by
  refine (HR _ vb vc (h.next hb2) (fun e => ?_) hx).mono ?_
  · have h1 := h.own _ e
    omega
  · rintro e W' ⟨v', rfl, hrow, hg, hl⟩
    obtain ⟨g, cap, rfl⟩ := ownsRow_pos hrow hpos
    obtain ⟨c1, c2⟩ := add_cell h hb2 hg
    exact ⟨g, _, cap, rfl, c1, c2, add_close h hb2 hrow hg hl, hg⟩

end Go.Proofs.Ytcdgogcbijohcaa
