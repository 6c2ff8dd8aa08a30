/-
  The statement SpanTwo: its walk.
-/
import Derived.Test.YtcdgogcbijohcaaSpeaks
import Derived.Deep.DeepCutAuto
import Derived.Shelf.SlSortCmp.QuietGrown
namespace Go.Proofs.Ytcdgogcbijohcaa
open Go.RowKit

theorem has_b (lo hi at_ : Int) (w : World) : Calls Try.prog 19 #[.agg #[.int .u64 lo, .int .u64 hi], .int .u64 at_] w fun e w' => e = .returned (.bool (decide (lo ≤ at_) && decide (at_ < hi))) ∧ Below w.heap.size w w' :=
  (has_any lo hi at_ w).mono fun _ _ h => ⟨h.1, b1 _ h.2⟩
theorem len_b (lo hi : Int) (w : World) (h0 : 0 ≤ lo) (h1 : hi < 18446744073709551616) : Calls Try.prog 18 #[.agg #[.int .u64 lo, .int .u64 hi]] w fun e w' => e = .returned (.int .u64 (if hi ≤ lo then 0 else hi - lo)) ∧ Below w.heap.size w w' :=
  (len_any lo hi w h0 h1).mono fun _ _ h => ⟨h.1, b2 _ _ h.2⟩

theorem box43 (w : World) (x y : Int) : (w.alloc (.cells #[.int .u64 x, .int .u64 y] 43)).cell? ⟨w.heap.size, 0, none⟩ = some (.int .u64 x) ∧ (w.alloc (.cells #[.int .u64 x, .int .u64 y] 43)).cell? ⟨w.heap.size, 1, none⟩ = some (.int .u64 y) := by
  constructor
  · rw [World.cell?_alloc_at _ _ _ _ (by simp)]; rfl
  · rw [World.cell?_alloc_at _ _ _ _ (by simp)]; rfl
theorem four_next {w W W' : World} {A B X Y : Nat} {a0 a1 b0 b1 : Int} (hb : Below W.heap.size W W') (hS : W.cell? ⟨A, 0, none⟩ = some (.int .u64 a0) ∧ W.cell? ⟨A, 1, none⟩ = some (.int .u64 a1) ∧ W.cell? ⟨B, 0, none⟩ = some (.int .u64 b0) ∧ W.cell? ⟨B, 1, none⟩ = some (.int .u64 b1) ∧ W.cell? ⟨X, 0, none⟩ = some (.int .u64 a0) ∧ W.cell? ⟨X, 1, none⟩ = some (.int .u64 a1) ∧ W.cell? ⟨Y, 0, none⟩ = some (.int .u64 b0) ∧ W.cell? ⟨Y, 1, none⟩ = some (.int .u64 b1) ∧ Below w.heap.size w W) :
    W'.cell? ⟨A, 0, none⟩ = some (.int .u64 a0) ∧ W'.cell? ⟨A, 1, none⟩ = some (.int .u64 a1) ∧ W'.cell? ⟨B, 0, none⟩ = some (.int .u64 b0) ∧ W'.cell? ⟨B, 1, none⟩ = some (.int .u64 b1) ∧ W'.cell? ⟨X, 0, none⟩ = some (.int .u64 a0) ∧ W'.cell? ⟨X, 1, none⟩ = some (.int .u64 a1) ∧ W'.cell? ⟨Y, 0, none⟩ = some (.int .u64 b0) ∧ W'.cell? ⟨Y, 1, none⟩ = some (.int .u64 b1) ∧ Below w.heap.size w W' := by
  obtain ⟨c1, c2, c3, c4, c5, c6, c7, c8, c9⟩ := hS
  exact ⟨(hb.cell (World.block_lt_of_cell? W _ c1)).trans c1, (hb.cell (World.block_lt_of_cell? W _ c2)).trans c2, (hb.cell (World.block_lt_of_cell? W _ c3)).trans c3, (hb.cell (World.block_lt_of_cell? W _ c4)).trans c4,
    (hb.cell (World.block_lt_of_cell? W _ c5)).trans c5, (hb.cell (World.block_lt_of_cell? W _ c6)).trans c6, (hb.cell (World.block_lt_of_cell? W _ c7)).trans c7, (hb.cell (World.block_lt_of_cell? W _ c8)).trans c8, bt c9 hb⟩

/-- Blocks were laid behind, and orders drawn. -/
def Gr (W w' : World) : Prop := ∃ q os, w' = Go.Sort.grow (W.drewN q) os
theorem Gr.below {W w' : World} (h : Gr W w') : Below W.heap.size W w' := by
  obtain ⟨q, os, rfl⟩ := h
  exact Go.Proofs.below_grown_sl W.heap.size W q os (Nat.le_refl _)
theorem gr1 {W w' : World} {o : Obj} (h : w' = W.alloc o) : Gr W w' := ⟨0, #[o], by rw [h]; exact Go.Sort.alloc_eq_grow W o⟩
theorem Gr.trans {A B C : World} (h : Gr A B) (k : Gr B C) : Gr A C := by
  obtain ⟨q, os, rfl⟩ := h
  obtain ⟨q', os', rfl⟩ := k
  exact ⟨q + q', os ++ os', by show Go.Sort.grow (Go.Sort.grow ((A.drewN q).drewN q') os) os' = _; rw [Go.Sort.grow_grow, World.drewN_drewN]⟩
theorem gr2 {W w' : World} {o p : Obj} (h : w' = (W.alloc o).alloc p) : Gr W w' := (gr1 (W := W) (o := o) rfl).trans (gr1 h)
theorem gr3 {W w' : World} {o p q : Obj} (h : w' = ((W.alloc o).alloc p).alloc q) : Gr W w' := (gr2 (W := W) (o := o) (p := p) rfl).trans (gr1 h)
theorem Gr.call {f : FuncId} {args : Array Value} {w : World} {n : Nat} {os : Array Obj} {v : Value} (h : ∀ W, Calls Try.prog f args W fun e w' => e = .returned v ∧ Gr W w') :
    Calls Try.prog f args (Go.Sort.grow (w.drewN n) os) fun e w' => e = .returned v ∧ ∃ q os', w' = Go.Sort.grow ((Go.Sort.grow (w.drewN n) os).drewN q) os' := h _

/-- The calls that the walk meets. -/
structure Answers (a0 a1 b0 b1 t n : Int) (S T M V : Bool) : Prop where
  len : ∀ W, Calls Try.prog 18 #[.agg #[.int .u64 a0, .int .u64 a1]] W fun e w' => e = .returned (.int .u64 n) ∧ Gr W w'
  hasS : ∀ W, Calls Try.prog 19 #[.agg #[.int .u64 a0, .int .u64 a1], .int .u64 t] W fun e w' => e = .returned (.bool S) ∧ Gr W w'
  hasT : ∀ W, Calls Try.prog 19 #[.agg #[.int .u64 b0, .int .u64 b1], .int .u64 t] W fun e w' => e = .returned (.bool T) ∧ Gr W w'
  m1 : ∀ W, Calls Try.prog 20 #[.agg #[.int .u64 a0, .int .u64 a1], .agg #[.int .u64 b0, .int .u64 b1]] W fun e w' => e = .returned (.bool M) ∧ Gr W w'
  m2 : ∀ W, Calls Try.prog 20 #[.agg #[.int .u64 b0, .int .u64 b1], .agg #[.int .u64 a0, .int .u64 a1]] W fun e w' => e = .returned (.bool M) ∧ Gr W w'
  v1 : ∀ W, Calls Try.prog 21 #[.agg #[.int .u64 a0, .int .u64 a1], .agg #[.int .u64 a0, .int .u64 a1]] W fun e w' => e = .returned (.bool true) ∧ Gr W w'
  v2 : ∀ W, Calls Try.prog 21 #[.agg #[.int .u64 a0, .int .u64 a1], .agg #[.int .u64 b0, .int .u64 b1]] W fun e w' => e = .returned (.bool V) ∧ Gr W w'

theorem four_new {w w1 : World} {A B : Nat} {a0 a1 b0 b1 : Int} (c1 : w1.cell? ⟨A, 0, none⟩ = some (.int .u64 a0)) (c2 : w1.cell? ⟨A, 1, none⟩ = some (.int .u64 a1)) (c3 : w1.cell? ⟨B, 0, none⟩ = some (.int .u64 b0)) (c4 : w1.cell? ⟨B, 1, none⟩ = some (.int .u64 b1)) (hb : Below w.heap.size w w1) :
    (let W := ((w1.alloc (box a0 a1)).alloc (box b0 b1)).drew; W.cell? ⟨A, 0, none⟩ = some (.int .u64 a0) ∧ W.cell? ⟨A, 1, none⟩ = some (.int .u64 a1) ∧ W.cell? ⟨B, 0, none⟩ = some (.int .u64 b0) ∧ W.cell? ⟨B, 1, none⟩ = some (.int .u64 b1) ∧ W.cell? ⟨w1.heap.size, 0, none⟩ = some (.int .u64 a0) ∧ W.cell? ⟨w1.heap.size, 1, none⟩ = some (.int .u64 a1) ∧ W.cell? ⟨w1.heap.size + 1, 0, none⟩ = some (.int .u64 b0) ∧ W.cell? ⟨w1.heap.size + 1, 1, none⟩ = some (.int .u64 b1) ∧ Below w.heap.size w W) ∧ (let W := ((w1.alloc (box b0 b1)).alloc (box a0 a1)).drew; W.cell? ⟨A, 0, none⟩ = some (.int .u64 a0) ∧ W.cell? ⟨A, 1, none⟩ = some (.int .u64 a1) ∧ W.cell? ⟨B, 0, none⟩ = some (.int .u64 b0) ∧ W.cell? ⟨B, 1, none⟩ = some (.int .u64 b1) ∧ W.cell? ⟨w1.heap.size + 1, 0, none⟩ = some (.int .u64 a0) ∧ W.cell? ⟨w1.heap.size + 1, 1, none⟩ = some (.int .u64 a1) ∧ W.cell? ⟨w1.heap.size, 0, none⟩ = some (.int .u64 b0) ∧ W.cell? ⟨w1.heap.size, 1, none⟩ = some (.int .u64 b1) ∧ Below w.heap.size w W) := by
  have hb1 : Below w1.heap.size w1 ((w1.alloc (box a0 a1)).alloc (box b0 b1)).drew := (b2 _ _ rfl).drew
  have hb2 : Below w1.heap.size w1 ((w1.alloc (box b0 b1)).alloc (box a0 a1)).drew := (b2 _ _ rfl).drew
  obtain ⟨x1, x2⟩ := box_at w1 a0 a1
  obtain ⟨y1, y2⟩ := box_at (w1.alloc (box a0 a1)) b0 b1
  obtain ⟨u1, u2⟩ := box_at w1 b0 b1
  obtain ⟨v1, v2⟩ := box_at (w1.alloc (box b0 b1)) a0 a1
  rw [World.size_alloc] at y1 y2 v1 v2
  exact ⟨⟨(hb1.cell (World.block_lt_of_cell? _ _ c1)).trans c1, (hb1.cell (World.block_lt_of_cell? _ _ c2)).trans c2, (hb1.cell (World.block_lt_of_cell? _ _ c3)).trans c3, (hb1.cell (World.block_lt_of_cell? _ _ c4)).trans c4, Go.Proofs.cell_alloc_sl _ x1, Go.Proofs.cell_alloc_sl _ x2, y1, y2, bt hb hb1⟩,
    ⟨(hb2.cell (World.block_lt_of_cell? _ _ c1)).trans c1, (hb2.cell (World.block_lt_of_cell? _ _ c2)).trans c2, (hb2.cell (World.block_lt_of_cell? _ _ c3)).trans c3, (hb2.cell (World.block_lt_of_cell? _ _ c4)).trans c4, v1, v2, Go.Proofs.cell_alloc_sl _ u1, Go.Proofs.cell_alloc_sl _ u2, bt hb hb2⟩⟩

set_option maxRecDepth 100000 in
set_option maxHeartbeats 6400000 in
theorem two_walk (a0 a1 b0 b1 t n : Int) (S T M V : Bool) (w : World) (hn : n = if a1 ≤ a0 then 0 else a1 - a0) (ha0 : 0 ≤ a0) (ha1 : a1 < 18446744073709551616) (hS : S = (decide (a0 ≤ t) && decide (t < a1))) (K : Answers a0 a1 b0 b1 t n S T M V)
    (h1 : S = true → T = true → M = true) (h2 : V = true → S = true → T = true) (h3 : M = decide (max a0 b0 < min a1 b1))
    (KL1 : M = true → ∀ W, Calls Try.prog 19 #[.agg #[.int .u64 a0, .int .u64 a1], .int .u64 (max a0 b0)] W fun e w' => e = .returned (.bool true) ∧ Gr W w')
    (KL2 : M = true → ∀ W, Calls Try.prog 19 #[.agg #[.int .u64 b0, .int .u64 b1], .int .u64 (max a0 b0)] W fun e w' => e = .returned (.bool true) ∧ Gr W w')
    (KH1 : M = true → ∀ W, Calls Try.prog 19 #[.agg #[.int .u64 a0, .int .u64 a1], .int .u64 (min a1 b1 - 1)] W fun e w' => e = .returned (.bool true) ∧ Gr W w')
    (KH2 : M = true → ∀ W, Calls Try.prog 19 #[.agg #[.int .u64 b0, .int .u64 b1], .int .u64 (min a1 b1 - 1)] W fun e w' => e = .returned (.bool true) ∧ Gr W w')
    (hhi : M = true → IntKind.u64.wrap (min a1 b1 - 1) = min a1 b1 - 1) :
    Calls Try.prog 4 #[.agg #[.int .u64 a0, .int .u64 a1], .agg #[.int .u64 b0, .int .u64 b1], .int .u64 t] w fun e w' => e = .returned (.bool true) ∧ Below w.heap.size w w' := by
  obtain ⟨Klen, KS, KT, K1, K2, K3, K4⟩ := K
  go_enter Try.func4, Try.ntmps4
  go_wp2_with (first | (go_at_call 8; refine (speaks_any _).mono ?_; rintro e w1 ⟨rfl, hb1⟩))
  have hbw := bt (b2 (w := w) _ _ rfl) hb1
  obtain ⟨q1, q2⟩ := box43 w a0 a1
  obtain ⟨q3, q4⟩ := box43 (w.alloc (.cells #[.int .u64 a0, .int .u64 a1] 43)) b0 b1
  rw [World.size_alloc] at q3 q4
  have cA0 := (hb1.cell (p := ⟨w.heap.size, 0, none⟩) (by simp; omega)).trans (Go.Proofs.cell_alloc_sl _ q1)
  have cA1 := (hb1.cell (p := ⟨w.heap.size, 1, none⟩) (by simp; omega)).trans (Go.Proofs.cell_alloc_sl _ q2)
  have cB0 := (hb1.cell (p := ⟨w.heap.size + 1, 0, none⟩) (by simp)).trans q3
  have cB1 := (hb1.cell (p := ⟨w.heap.size + 1, 1, none⟩) (by simp)).trans q4
  clear hb1 q1 q2 q3 q4
  have hAl : w.heap.size < w1.heap.size := World.block_lt_of_cell? _ _ cA0
  have hBl : w.heap.size + 1 < w1.heap.size := World.block_lt_of_cell? _ _ cB0
  go_cut [7, 8] (fun p q wc => ∃ X Y : Nat, p = .pointer (some ⟨X, 0, none⟩) ∧ q = .pointer (some ⟨Y, 0, none⟩) ∧ wc.cell? ⟨w.heap.size, 0, none⟩ = some (.int .u64 a0) ∧ wc.cell? ⟨w.heap.size, 1, none⟩ = some (.int .u64 a1) ∧ wc.cell? ⟨w.heap.size + 1, 0, none⟩ = some (.int .u64 b0) ∧ wc.cell? ⟨w.heap.size + 1, 1, none⟩ = some (.int .u64 b1) ∧ wc.cell? ⟨X, 0, none⟩ = some (.int .u64 a0) ∧ wc.cell? ⟨X, 1, none⟩ = some (.int .u64 a1) ∧ wc.cell? ⟨Y, 0, none⟩ = some (.int .u64 b0) ∧ wc.cell? ⟨Y, 1, none⟩ = some (.int .u64 b1) ∧ Below w.heap.size w wc)
  case first =>
    have HN := four_new cA0 cA1 cB0 cB1 hbw
    go_region
    · go_wp2_with fail
      go_meet
      case rel => exact ⟨_, _, rfl, rfl, HN.1⟩
    · go_wp2_with fail
      go_meet
      case rel => exact ⟨_, _, rfl, rfl, HN.2⟩
  case rest =>
    obtain ⟨X, Y, rfl, rfl, hF⟩ := hcut
    clear hAl hBl cA0 cA1 cB0 cB1 hbw w1
    have e1 := hF.1
    have e2 := hF.2.1
    go_upto_if 28 with fail
    go_cut [9] (fun p wd => p = .int .u64 n ∧ wd.cell? ⟨w.heap.size, 0, none⟩ = some (.int .u64 a0) ∧ wd.cell? ⟨w.heap.size, 1, none⟩ = some (.int .u64 a1) ∧ wd.cell? ⟨w.heap.size + 1, 0, none⟩ = some (.int .u64 b0) ∧ wd.cell? ⟨w.heap.size + 1, 1, none⟩ = some (.int .u64 b1) ∧ wd.cell? ⟨X, 0, none⟩ = some (.int .u64 a0) ∧ wd.cell? ⟨X, 1, none⟩ = some (.int .u64 a1) ∧ wd.cell? ⟨Y, 0, none⟩ = some (.int .u64 b0) ∧ wd.cell? ⟨Y, 1, none⟩ = some (.int .u64 b1) ∧ Below w.heap.size w wd)
    case first =>
      by_cases hlt : a0 < a1
      · have hle : ¬ a1 ≤ a0 := by omega
        rw [if_neg hle] at hn
        have hwr : IntKind.u64.wrap (a1 - a0) = n := by rw [hn]; exact IntWalk.u64_in _ ⟨by omega, by omega⟩
        clear hn hle
        go_wp2
        go_meet
        case rel => exact ⟨rfl, hF⟩
      · have hle : a1 ≤ a0 := by omega
        rw [if_pos hle] at hn
        subst hn
        go_wp2
        go_meet
        case rel => exact ⟨rfl, hF⟩
    case rest =>
      obtain ⟨rfl, hF'⟩ := hcut
      clear hF e1 e2 hn
      go_upto_if 68 with fail
      go_cut [68] (fun p we => p = .bool false ∧ we.cell? ⟨w.heap.size, 0, none⟩ = some (.int .u64 a0) ∧ we.cell? ⟨w.heap.size, 1, none⟩ = some (.int .u64 a1) ∧ we.cell? ⟨w.heap.size + 1, 0, none⟩ = some (.int .u64 b0) ∧ we.cell? ⟨w.heap.size + 1, 1, none⟩ = some (.int .u64 b1) ∧ we.cell? ⟨X, 0, none⟩ = some (.int .u64 a0) ∧ we.cell? ⟨X, 1, none⟩ = some (.int .u64 a1) ∧ we.cell? ⟨Y, 0, none⟩ = some (.int .u64 b0) ∧ we.cell? ⟨Y, 1, none⟩ = some (.int .u64 b1) ∧ Below w.heap.size w we)
      case first =>
        obtain ⟨f1, f2, f3, f4, f5, f6, f7, f8, f9⟩ := hF'
        have z1 := fun n os => Go.cell_grown (World.block_lt_of_cell? _ _ f1) f1 n os
        have z2 := fun n os => Go.cell_grown (World.block_lt_of_cell? _ _ f2) f2 n os
        have z5 := fun n os => Go.cell_grown (World.block_lt_of_cell? _ _ f5) f5 n os
        have z6 := fun n os => Go.cell_grown (World.block_lt_of_cell? _ _ f6) f6 n os
        have z7 := fun n os => Go.cell_grown (World.block_lt_of_cell? _ _ f7) f7 n os
        have z8 := fun n os => Go.cell_grown (World.block_lt_of_cell? _ _ f8) f8 n os
        have HF : Hid (wc.cell? ⟨w.heap.size, 0, none⟩ = some (.int .u64 a0) ∧ wc.cell? ⟨w.heap.size, 1, none⟩ = some (.int .u64 a1) ∧ wc.cell? ⟨w.heap.size + 1, 0, none⟩ = some (.int .u64 b0) ∧ wc.cell? ⟨w.heap.size + 1, 1, none⟩ = some (.int .u64 b1) ∧ wc.cell? ⟨X, 0, none⟩ = some (.int .u64 a0) ∧ wc.cell? ⟨X, 1, none⟩ = some (.int .u64 a1) ∧ wc.cell? ⟨Y, 0, none⟩ = some (.int .u64 b0) ∧ wc.cell? ⟨Y, 1, none⟩ = some (.int .u64 b1) ∧ Below w.heap.size w wc) := ⟨f1, f2, f3, f4, f5, f6, f7, f8, f9⟩
        clear f1 f2 f3 f4 f5 f6 f7 f8 f9
        have mixed := mixedTry
        by_cases hat : a0 ≤ t
        · have hSt : decide (t < a1) = S := by rw [hS]; simp [hat]
          clear hS
          go_wp2
          go_quiet_grown (first | (go_at_call 18; refine Calls.grown_of (Gr.call Klen)) | (go_at_call 19; refine Calls.grown_of (Gr.call KS)) | (go_at_call 20; first | (with_reducible refine Calls.grown_of (Gr.call K1)) | (with_reducible refine Calls.grown_of (Gr.call K2))) | (go_at_call 21; refine Calls.grown_of (Gr.call K3)))
          go_wp2
          go_meet
          case rel => exact ⟨rfl, four_next (Go.Proofs.below_grown_sl _ _ _ _ (Nat.le_refl _)) HF.out⟩
        · have hSf : S = false := by rw [hS]; simp [hat]
          subst hSf
          have hatb : decide (a0 ≤ t) = false := by simp [hat]
          clear hS
          go_wp2
          go_quiet_grown (first | (go_at_call 18; refine Calls.grown_of (Gr.call Klen)) | (go_at_call 19; refine Calls.grown_of (Gr.call KS)) | (go_at_call 20; first | (with_reducible refine Calls.grown_of (Gr.call K1)) | (with_reducible refine Calls.grown_of (Gr.call K2))) | (go_at_call 21; refine Calls.grown_of (Gr.call K3)))
          go_wp2
          go_meet
          case rel => exact ⟨rfl, four_next (Go.Proofs.below_grown_sl _ _ _ _ (Nat.le_refl _)) HF.out⟩
      case rest =>
        obtain ⟨rfl, hG⟩ := hcut
        clear hF' Klen K2 K3 hS
        have g1 := hG.2.2.2.2.1
        have g2 := hG.2.2.2.2.2.1
        have g3 := hG.2.2.2.2.2.2.1
        have g4 := hG.2.2.2.2.2.2.2.1
        have NX : ∀ W W', Below W.heap.size W W' → (W.cell? ⟨w.heap.size, 0, none⟩ = some (.int .u64 a0) ∧ W.cell? ⟨w.heap.size, 1, none⟩ = some (.int .u64 a1) ∧ W.cell? ⟨w.heap.size + 1, 0, none⟩ = some (.int .u64 b0) ∧ W.cell? ⟨w.heap.size + 1, 1, none⟩ = some (.int .u64 b1) ∧ W.cell? ⟨X, 0, none⟩ = some (.int .u64 a0) ∧ W.cell? ⟨X, 1, none⟩ = some (.int .u64 a1) ∧ W.cell? ⟨Y, 0, none⟩ = some (.int .u64 b0) ∧ W.cell? ⟨Y, 1, none⟩ = some (.int .u64 b1) ∧ Below w.heap.size w W) → W'.cell? ⟨w.heap.size, 0, none⟩ = some (.int .u64 a0) ∧ W'.cell? ⟨w.heap.size, 1, none⟩ = some (.int .u64 a1) ∧ W'.cell? ⟨w.heap.size + 1, 0, none⟩ = some (.int .u64 b0) ∧ W'.cell? ⟨w.heap.size + 1, 1, none⟩ = some (.int .u64 b1) ∧ W'.cell? ⟨X, 0, none⟩ = some (.int .u64 a0) ∧ W'.cell? ⟨X, 1, none⟩ = some (.int .u64 a1) ∧ W'.cell? ⟨Y, 0, none⟩ = some (.int .u64 b0) ∧ W'.cell? ⟨Y, 1, none⟩ = some (.int .u64 b1) ∧ Below w.heap.size w W' := fun W W' => four_next
        go_upto_region 9 with fail
        go_cut [98] (fun p we => p = .bool false ∧ we.cell? ⟨w.heap.size, 0, none⟩ = some (.int .u64 a0) ∧ we.cell? ⟨w.heap.size, 1, none⟩ = some (.int .u64 a1) ∧ we.cell? ⟨w.heap.size + 1, 0, none⟩ = some (.int .u64 b0) ∧ we.cell? ⟨w.heap.size + 1, 1, none⟩ = some (.int .u64 b1) ∧ we.cell? ⟨X, 0, none⟩ = some (.int .u64 a0) ∧ we.cell? ⟨X, 1, none⟩ = some (.int .u64 a1) ∧ we.cell? ⟨Y, 0, none⟩ = some (.int .u64 b0) ∧ we.cell? ⟨Y, 1, none⟩ = some (.int .u64 b1) ∧ Below w.heap.size w we)
        case first =>
          cases S <;> cases T <;> cases V <;> cases M
          all_goals first | (exact absurd (h1 rfl rfl) (by decide)) | (exact absurd (h2 rfl rfl) (by decide)) | skip
          all_goals clear h1 h2 h3
          all_goals
            go_wp2_with (first
              | (go_at_call 19; first | (with_reducible refine (KS _).mono ?_; rintro e w4 ⟨rfl, hgr⟩; have hG' := four_next hgr.below (by assumption); have q1 := hG'.2.2.2.2.1; have q2 := hG'.2.2.2.2.2.1; have q3 := hG'.2.2.2.2.2.2.1; have q4 := hG'.2.2.2.2.2.2.2.1) | (with_reducible refine (KT _).mono ?_; rintro e w4 ⟨rfl, hgr⟩; have hG' := four_next hgr.below (by assumption); have q1 := hG'.2.2.2.2.1; have q2 := hG'.2.2.2.2.2.1; have q3 := hG'.2.2.2.2.2.2.1; have q4 := hG'.2.2.2.2.2.2.2.1))
              | (go_at_call 20; refine (K1 _).mono ?_; rintro e w4 ⟨rfl, hgr⟩; have hG' := four_next hgr.below (by assumption); have q1 := hG'.2.2.2.2.1; have q2 := hG'.2.2.2.2.2.1; have q3 := hG'.2.2.2.2.2.2.1; have q4 := hG'.2.2.2.2.2.2.2.1)
              | (go_at_call 21; refine (K4 _).mono ?_; rintro e w4 ⟨rfl, hgr⟩; have hG' := four_next hgr.below (by assumption); have q1 := hG'.2.2.2.2.1; have q2 := hG'.2.2.2.2.2.1; have q3 := hG'.2.2.2.2.2.2.1; have q4 := hG'.2.2.2.2.2.2.2.1))
            go_meet
            case rel => exact ⟨rfl, by assumption⟩
        case rest =>
          obtain ⟨rfl, hH⟩ := hcut
          clear hG g1 g2 g3 g4 h1 h2
          go_upto_region 11 with fail
          go_cut [10, 11] (fun p q we => p = .int .u64 (max a0 b0) ∧ q = .int .u64 (min a1 b1) ∧ we.cell? ⟨w.heap.size, 0, none⟩ = some (.int .u64 a0) ∧ we.cell? ⟨w.heap.size, 1, none⟩ = some (.int .u64 a1) ∧ we.cell? ⟨w.heap.size + 1, 0, none⟩ = some (.int .u64 b0) ∧ we.cell? ⟨w.heap.size + 1, 1, none⟩ = some (.int .u64 b1) ∧ we.cell? ⟨X, 0, none⟩ = some (.int .u64 a0) ∧ we.cell? ⟨X, 1, none⟩ = some (.int .u64 a1) ∧ we.cell? ⟨Y, 0, none⟩ = some (.int .u64 b0) ∧ we.cell? ⟨Y, 1, none⟩ = some (.int .u64 b1) ∧ Below w.heap.size w we)
          case first =>
            have HH : Hid (wc.cell? ⟨w.heap.size, 0, none⟩ = some (.int .u64 a0) ∧ wc.cell? ⟨w.heap.size, 1, none⟩ = some (.int .u64 a1) ∧ wc.cell? ⟨w.heap.size + 1, 0, none⟩ = some (.int .u64 b0) ∧ wc.cell? ⟨w.heap.size + 1, 1, none⟩ = some (.int .u64 b1) ∧ wc.cell? ⟨X, 0, none⟩ = some (.int .u64 a0) ∧ wc.cell? ⟨X, 1, none⟩ = some (.int .u64 a1) ∧ wc.cell? ⟨Y, 0, none⟩ = some (.int .u64 b0) ∧ wc.cell? ⟨Y, 1, none⟩ = some (.int .u64 b1) ∧ Below w.heap.size w wc) := hH
            obtain ⟨f1, f2, f3, f4, f5, f6, f7, f8, f9⟩ := hH
            clear f5 f6 f7 f8 f9 h3 KS KT K1 K4
            by_cases j1 : b0 ≤ a0
            all_goals by_cases j2 : a1 ≤ b1
            all_goals
              have jm : Hid (max a0 b0 = if b0 ≤ a0 then a0 else b0) := by show _ = _; split <;> omega
              have jn : Hid (min a1 b1 = if a1 ≤ b1 then a1 else b1) := by show _ = _; split <;> omega
              go_region
              all_goals go_wp2
              all_goals go_meet
              all_goals exact ⟨by rw [jm.out], by rw [jn.out], four_next (Below.refl _ _).drew HH.out⟩
          case rest =>
            obtain ⟨rfl, rfl, hI⟩ := hcut
            clear hH
            generalize max a0 b0 = lo at h3 KL1 KL2 ⊢
            generalize min a1 b1 = hi at h3 KH1 KH2 hhi ⊢
            have i1 := hI.2.2.2.2.1
            have i2 := hI.2.2.2.2.2.1
            have i3 := hI.2.2.2.2.2.2.1
            have i4 := hI.2.2.2.2.2.2.2.1
            have h3' : decide (lo < hi) = M := h3.symm
            clear h3
            cases M with
            | false =>
              go_wp2_with (go_at_call 20; refine (K1 _).mono ?_; rintro e w4 ⟨rfl, hgr⟩; have hG' := four_next hgr.below (by assumption); have q1 := hG'.2.2.2.2.1; have q2 := hG'.2.2.2.2.2.1; have q3 := hG'.2.2.2.2.2.2.1; have q4 := hG'.2.2.2.2.2.2.2.1)
              go_ret
              exact ⟨rfl, (by assumption : w4.cell? ⟨w.heap.size, 0, none⟩ = some (.int .u64 a0) ∧ w4.cell? ⟨w.heap.size, 1, none⟩ = some (.int .u64 a1) ∧ w4.cell? ⟨w.heap.size + 1, 0, none⟩ = some (.int .u64 b0) ∧ w4.cell? ⟨w.heap.size + 1, 1, none⟩ = some (.int .u64 b1) ∧ w4.cell? ⟨X, 0, none⟩ = some (.int .u64 a0) ∧ w4.cell? ⟨X, 1, none⟩ = some (.int .u64 a1) ∧ w4.cell? ⟨Y, 0, none⟩ = some (.int .u64 b0) ∧ w4.cell? ⟨Y, 1, none⟩ = some (.int .u64 b1) ∧ Below w.heap.size w w4).2.2.2.2.2.2.2.2⟩
            | true =>
              have e1 := KL1 rfl
              have e2 := KL2 rfl
              have e3 := KH1 rfl
              have e4 := KH2 rfl
              have hw : IntKind.u64.wrap (hi - 1) = hi - 1 := hhi rfl
              go_wp2_with (first
                | (go_at_call 20; refine (K1 _).mono ?_; rintro e w4 ⟨rfl, hgr⟩; have hG' := four_next hgr.below (by assumption); have q1 := hG'.2.2.2.2.1; have q2 := hG'.2.2.2.2.2.1; have q3 := hG'.2.2.2.2.2.2.1; have q4 := hG'.2.2.2.2.2.2.2.1)
                | (go_at_call 19; first | (with_reducible refine (e1 _).mono ?_; rintro e w4 ⟨rfl, hgr⟩; have hG' := four_next hgr.below (by assumption); have q1 := hG'.2.2.2.2.1; have q2 := hG'.2.2.2.2.2.1; have q3 := hG'.2.2.2.2.2.2.1; have q4 := hG'.2.2.2.2.2.2.2.1) | (with_reducible refine (e2 _).mono ?_; rintro e w4 ⟨rfl, hgr⟩; have hG' := four_next hgr.below (by assumption); have q1 := hG'.2.2.2.2.1; have q2 := hG'.2.2.2.2.2.1; have q3 := hG'.2.2.2.2.2.2.1; have q4 := hG'.2.2.2.2.2.2.2.1) | (with_reducible refine (e3 _).mono ?_; rintro e w4 ⟨rfl, hgr⟩; have hG' := four_next hgr.below (by assumption); have q1 := hG'.2.2.2.2.1; have q2 := hG'.2.2.2.2.2.1; have q3 := hG'.2.2.2.2.2.2.1; have q4 := hG'.2.2.2.2.2.2.2.1) | (with_reducible refine (e4 _).mono ?_; rintro e w4 ⟨rfl, hgr⟩; have hG' := four_next hgr.below (by assumption); have q1 := hG'.2.2.2.2.1; have q2 := hG'.2.2.2.2.2.1; have q3 := hG'.2.2.2.2.2.2.1; have q4 := hG'.2.2.2.2.2.2.2.1)))
              go_ret
              exact ⟨rfl, hG'.2.2.2.2.2.2.2.2⟩
end Go.Proofs.Ytcdgogcbijohcaa
