/-
  Layer 3: a span is added to a set: one of the nine ways of the walk.
-/
import Derived.Test.YtcdgogcbijohcaaA5
namespace Go.Proofs.Ytcdgogcbijohcaa
open Go.RowKit
set_option linter.unusedVariables false

set_option maxRecDepth 100000 in
set_option maxHeartbeats 3200000 in
theorem addA1B0 (B g n cap : Nat) (L L' : List (Int × Int)) (lo hi : Int) (w : World) (r' : Nat) (p1 p2 : Int) (h : SetAt w B (.slice (some ⟨g, 0, none⟩) n cap) L) (hnc : n ≤ cap) (hcm : cap ≤ maxLen) (hne : lo < hi) (hn : n ≤ 100000)
    (M : ∀ W, Below w.heap.size w W → Calls Try.prog 11 #[.pointer (some ⟨B, 0, none⟩), .agg #[.int .u64 lo, .int .u64 hi]] W fun e w' => e = .returned (.bool false) ∧ Below W.heap.size W w')
    (BE : ∀ W, Below w.heap.size w W → Calls Try.prog 28 #[.pointer (some ⟨B, 0, none⟩), .int .u64 lo] W fun e w' => e = .returned (.int .i64 (r' + 1 : Nat)) ∧ Below W.heap.size W w')
    (hpos : 0 < L'.length) (HR : Replaces B (.slice (some ⟨g, 0, none⟩) n cap) L r' (r' + 1) p1 hi L')
    (hrn : (r' + 1) ≤ n) (cp1 : w.cell? ⟨g, r' * 2, none⟩ = some (.int .u64 p1)) (cp2 : w.cell? ⟨g, r' * 2 + 1, none⟩ = some (.int .u64 p2)) (hp : p2 = lo) (hrl : n = (r' + 1)) :
    Calls Try.prog 16 #[.pointer (some ⟨B, 0, none⟩), .agg #[.int .u64 lo, .int .u64 hi]] w fun e w' => e = .returned (.bool true) ∧ ∃ u, SetAt w' B u L' ∧ Kept B (.slice (some ⟨g, 0, none⟩) n cap) w w' ∧ Lies w (.slice (some ⟨g, 0, none⟩) n cap) u := by
  have hgw : g < w.heap.size := h.own g rfl
  have hgB : g ≠ B := fun e => h.apart (by rw [← e]; rfl)
  have hgX : g ≠ w.heap.size := by omega
  have hBlt := h.lt
  have hBX : B ≠ w.heap.size := by omega
  have hne' : ¬ hi ≤ lo := by omega
  have hx := x_at w lo hi
  have hb1 := b1 (w := w) (box lo hi) rfl
  have cB := h.cell
  have fB := h.froz
  have Hs : Hid (SetAt w B (.slice (some ⟨g, 0, none⟩) n cap) L) := h
  clear h
  subst hp
  subst hrl
  have hri : (r' : Int) < (r' + 1 : Nat) := by omega
  go_enter Try.func16, Try.ntmps16
  go_wp2_with (first
    | (go_at_call 27; refine (empty_b _ _ _).mono ?_; rintro e w2 ⟨rfl, hb2⟩; have hx2 := x_next hb2 hx; have c20 := hx2.1; have c21 := hx2.2.1; have hbb := bt hb1 hb2)
    | (go_at_call 11; refine (M _ hbb).mono ?_; rintro e w3 ⟨rfl, hb3⟩; have hx3 := x_next hb3 hx2; have c30 := hx3.1; have hb4 := bt hbb hb3)
    | (go_at_call 28; refine (BE _ hb4).mono ?_; rintro e w5 ⟨rfl, hb5⟩; have hx5 := x_next hb5 hx3; have hb6 := bt hb4 hb5; have c50 := hx5.1; have c51 := hx5.2.1; have f50 := hx5.2.2.1; have f51 := hx5.2.2.2; have cB5 := (hb6.cell (p := ⟨B, 0, none⟩) hBlt).trans cB; have fB5 := (hb6.frozen (p := ⟨B, 0, none⟩) hBlt).trans fB; have hB5 : B < w5.heap.size := World.block_lt_of_cell? _ _ cB5; have hX5 : w.heap.size < w5.heap.size := World.block_lt_of_cell? _ _ c50; have hg5 : g < w5.heap.size := Nat.lt_of_lt_of_le hgw hb6.size; have cp15 := (hb6.cell (p := ⟨g, r' * 2, none⟩) hgw).trans cp1; have cp25 := (hb6.cell (p := ⟨g, r' * 2 + 1, none⟩) hgw).trans cp2))
  go_region
  go_wp2
  go_region
  go_wp2
  go_region_with (go_at_call 29; refine (rep_at HR Hs.out (by (repeat first | exact hb6 | exact Nat.le_refl _ | apply Below.drew | refine Below.alloc ?_ ?_ _ | refine Below.setCell ?_ ?_ _ | (have := hb6.size; simp; omega))) hpos (by have h2 := hb6.size; first | exact h2 | (simp; omega)) (by first | exact box_new _ _ _ rfl | exact box_new _ _ _ (by simp))).mono ?_; rintro e W' ⟨g', n', cap', rfl, cB9, fB9, HC, hg⟩)
  all_goals go_wp2
  all_goals go_ret
  all_goals exact ⟨rfl, HC⟩

end Go.Proofs.Ytcdgogcbijohcaa
