/-
  The statement SpanNil: its walk.
-/
import Derived.Test.YtcdgogcbijohcaaSpeaks
namespace Go.Proofs.Ytcdgogcbijohcaa
open Go.RowKit

set_option maxHeartbeats 400000 in
theorem remove_nil (lo hi : Int) (w : World) : Calls Try.prog 12 #[.pointer none, .agg #[.int .u64 lo, .int .u64 hi]] w fun e w' => e = .returned (.bool false) ∧ Below w.heap.size w w' := by
  by_cases h : hi ≤ lo
  · go_enter Try.func12, Try.ntmps12
    go_wp2_with (go_at_call 27; refine (empty_any _ _ _).mono ?_; rintro e w2 ⟨rfl, rfl⟩)
    go_ret
    exact ⟨rfl, b2 _ _ rfl⟩
  · have hx := box_at w lo hi
    have hb1 := b1 (w := w) (box lo hi) rfl
    go_enter Try.func12, Try.ntmps12
    go_wp2_with (first | (go_at_call 27; refine (empty_b _ _ _).mono ?_; rintro e w2 ⟨rfl, hb2⟩; have c0 := (hb2.cell (World.block_lt_of_cell? _ _ hx.1)).trans hx.1; have c1 := (hb2.cell (World.block_lt_of_cell? _ _ hx.2)).trans hx.2; have hbb := bt hb1 hb2) | (go_at_call 9; refine (setCovers_nil _ _ _).mono ?_; rintro e w3 ⟨rfl, hb3⟩))
    go_ret
    exact ⟨rfl, bt hbb hb3⟩

set_option maxHeartbeats 400000 in
theorem all1_nil (f : Value) (b : Nat) (w : World) (h : w.cell? ⟨b, 0, none⟩ = some (.pointer none)) : Calls Try.prog 33 #[f, .pointer (some ⟨b, 0, none⟩)] w fun e w' => e = .returned (.tuple #[]) ∧ w' = w := by
  go_enter Try.func33, Try.ntmps33
  go_wp2
  go_returns
  exact ⟨rfl, rfl⟩

set_option maxHeartbeats 400000 in
theorem all_p (p : Option Addr) (w : World) : Calls Try.prog 22 #[.pointer p] w fun e w' => e = .returned (.func (.func 33) #[] #[.pointer (some ⟨w.heap.size, 0, none⟩)]) ∧ w' = w.alloc (.cells #[.pointer p] 41) := by
  go_enter Try.func22, Try.ntmps22
  go_wp2
  go_ret
  exact ⟨rfl, rfl⟩

theorem nil_ptr (w : World) (o : Obj) : ((w.alloc o).alloc (.cells #[.pointer none] 41)).cell? ⟨w.heap.size + 1, 0, none⟩ = some (.pointer none) := by
  have := cell_new0 (w.alloc o) (.pointer none) 41
  rwa [World.size_alloc] at this
theorem xn_next {W W' : World} {X N : Nat} {lo hi : Int} (hb : Below W.heap.size W W')
    (hS : W.cell? ⟨X, 0, none⟩ = some (.int .u64 lo) ∧ W.cell? ⟨X, 1, none⟩ = some (.int .u64 hi) ∧ W.cell? ⟨N, 0, none⟩ = some (.int .i64 0)) :
    W'.cell? ⟨X, 0, none⟩ = some (.int .u64 lo) ∧ W'.cell? ⟨X, 1, none⟩ = some (.int .u64 hi) ∧ W'.cell? ⟨N, 0, none⟩ = some (.int .i64 0) := by
  obtain ⟨c1, c2, c3⟩ := hS
  exact ⟨(hb.cell (World.block_lt_of_cell? W _ c1)).trans c1, (hb.cell (World.block_lt_of_cell? W _ c2)).trans c2, (hb.cell (World.block_lt_of_cell? W _ c3)).trans c3⟩

set_option maxRecDepth 100000 in
set_option maxHeartbeats 800000 in
theorem nil_walk (lo hi : Int) (w : World) : Calls Try.prog 6 #[.int .u64 lo, .int .u64 hi] w fun e w' => e = .returned (.bool true) ∧ Below w.heap.size w w' := by
  go_enter Try.func6, Try.ntmps6
  go_wp2_with (first
    | (go_at_call 8; refine (speaks_any _).mono ?_; rintro e w1 ⟨rfl, hb1⟩; have hx := box_at w1 lo hi; have hbx := b1 (w := w1) (box lo hi) rfl)
    | (go_at_call 14; refine (fit_nil _ _ _ _ _).mono ?_; rintro e w2 ⟨rfl, hb2⟩; have c20 := (hb2.cell (World.block_lt_of_cell? _ _ hx.1)).trans hx.1; have c21 := (hb2.cell (World.block_lt_of_cell? _ _ hx.2)).trans hx.2; have hq2 := bt hbx hb2; have hl2 : w1.heap.size < w2.heap.size := World.block_lt_of_cell? _ _ c20; have hn0 := cell_new0 w2 (.int .i64 0) 3; have hb3 := b2 (w := w2) (.cells #[.int .i64 0] 3) (.cells #[.pointer none] 41) rfl;
        have hS3 : ((w2.alloc (.cells #[.int .i64 0] 3)).alloc (.cells #[.pointer none] 41)).cell? ⟨w1.heap.size, 0, none⟩ = some (.int .u64 lo) ∧ ((w2.alloc (.cells #[.int .i64 0] 3)).alloc (.cells #[.pointer none] 41)).cell? ⟨w1.heap.size, 1, none⟩ = some (.int .u64 hi) ∧ ((w2.alloc (.cells #[.int .i64 0] 3)).alloc (.cells #[.pointer none] 41)).cell? ⟨w2.heap.size, 0, none⟩ = some (.int .i64 0) := ⟨(hb3.cell (World.block_lt_of_cell? _ _ c20)).trans c20, (hb3.cell (World.block_lt_of_cell? _ _ c21)).trans c21, Go.Proofs.cell_alloc_sl _ hn0⟩; have hp3 := nil_ptr w2 (.cells #[.int .i64 0] 3))
    | (go_at_call 22; refine (all_p _ _).mono ?_; rintro e w3 ⟨rfl, rfl⟩)
    | (go_at_call 33; refine (all1_nil _ _ _ hp3).mono ?_; rintro e w3' ⟨rfl, rfl⟩)
    | (go_at_call 16; refine (add_nil _ _ _).mono ?_; rintro e w4 ⟨rfl, hb4⟩; have hS4 := xn_next hb4 hS3; have c40 := hS4.1; have c41 := hS4.2.1)
    | (go_at_call 12; refine (remove_nil _ _ _).mono ?_; rintro e w5 ⟨rfl, hb5⟩; have hS5 := xn_next hb5 hS4; have c50 := hS5.1; have c51 := hS5.2.1)
    | (go_at_call 9; refine (setCovers_nil _ _ _).mono ?_; rintro e w6 ⟨rfl, hb6⟩; have hS6 := xn_next hb6 hS5; have c60 := hS6.1; have c61 := hS6.2.1)
    | (go_at_call 11; refine (setMeets_nil _ _ _).mono ?_; rintro e w7 ⟨rfl, hb7⟩; have hS7 := xn_next hb7 hS6; have c72 := hS7.2.2)
    | (go_at_call 24; refine (setLen_nil _).mono ?_; rintro e w8 ⟨rfl, hb8⟩))
  go_ret
  exact ⟨rfl, bt hb1 (bt (bt hq2 hb3) (bt hb4 (bt hb5 (bt hb6 (bt hb7 hb8)))))⟩
end Go.Proofs.Ytcdgogcbijohcaa
