/-
  Layer 3: how many addresses a set has.
-/
import Derived.Test.YtcdgogcbijohcaaA6
namespace Go.Proofs.Ytcdgogcbijohcaa
open Go.RowKit Go.Shelf
attribute [local go_sem] Oper.semAt_some

theorem mixedTry : Try.prog.follows Departure.mixedOrders = true := by kernel_rfl

def wlen (p : Int × Int) : Int := if p.2 ≤ p.1 then 0 else IntKind.u64.wrap (p.2 - p.1)
def sumL (L : List (Int × Int)) : Int := L.foldl (fun s p => IntKind.u64.wrap (s + wlen p)) 0
theorem sumL_snoc (L : List (Int × Int)) (p : Int × Int) : sumL (L ++ [p]) = IntKind.u64.wrap (sumL L + wlen p) := by simp [sumL, List.foldl_append]

set_option maxHeartbeats 400000 in
theorem len_w (lo hi : Int) (w : World) : Calls Try.prog 18 #[.agg #[.int .u64 lo, .int .u64 hi]] w fun e w' => e = .returned (.int .u64 (wlen (lo, hi))) ∧ w' = (w.alloc (box lo hi)).alloc (box lo hi) := by
  unfold wlen
  by_cases h : hi ≤ lo
  · go_enter Try.func18, Try.ntmps18
    go_wp2_with (go_at_call 27; refine (empty_any _ _ _).mono ?_; rintro e w' ⟨rfl, rfl⟩)
    go_ret
    exact ⟨rfl, rfl⟩
  · go_enter Try.func18, Try.ntmps18
    go_wp2_with (go_at_call 27; refine (empty_any _ _ _).mono ?_; rintro e w' ⟨rfl, rfl⟩)
    go_ret
    exact ⟨rfl, rfl⟩

set_option maxRecDepth 100000 in
set_option maxHeartbeats 2000000 in
theorem setLen_any (B : Nat) (v : Value) (L : List (Int × Int)) (hL : L.length ≤ 100000) (w : World) (hset : SetAt w B v L) :
    Calls Try.prog 24 #[.pointer (some ⟨B, 0, none⟩)] w fun e w' => e = .returned (.int .u64 (sumL L)) ∧ Below w.heap.size w w' := by
  refine (callsIn_wide (n := 4)).1 ?_
  refine callsIn_of_wp_marks Try.func24 rfl trivial ?_ rfl
  simp only [Try.ntmps24, List.size_toArray, List.length_cons, List.length_nil, Nat.reduceAdd, Nat.reduceSub, Array.replicate_succ, Array.replicate_zero, List.push_toArray, List.append_toArray, List.nil_append, List.cons_append]
  have f22 : Fence.wide.fn 22 := trivial
  gi_wp2_with (gi_at_call 22; refine (all_in Fence.wide 3 trivial rfl _ _).mono ?_; rintro e w' ⟨rfl, rfl⟩)
  have bS := (Boxed.new w 31 (.int .u64 0)).alloc (.cells #[.pointer (some ⟨B, 0, none⟩)] 41)
  have bA := Boxed.new (w.alloc (.cells #[.int .u64 0] 31)) 41 (.pointer (some ⟨B, 0, none⟩))
  rw [World.size_alloc] at bA
  have hB0 : Below w.heap.size w ((w.alloc (.cells #[.int .u64 0] 31)).alloc (.cells #[.pointer (some ⟨B, 0, none⟩)] 41)) := ((Below.refl _ w).alloc (Nat.le_refl _) _).alloc (by simp) _
  have hsz : ((w.alloc (.cells #[.int .u64 0] 31)).alloc (.cells #[.pointer (some ⟨B, 0, none⟩)] 41)).heap.size = w.heap.size + 2 := by simp
  obtain ⟨W0, hW0⟩ : ∃ W0, (w.alloc (.cells #[.int .u64 0] 31)).alloc (.cells #[.pointer (some ⟨B, 0, none⟩)] 41) = W0 := ⟨_, rfl⟩
  rw [hW0] at bS bA hB0 hsz ⊢
  clear hW0
  refine wpIn_rangeFunc_ownH rfl (by omega) (gf := 33) (lb := #[.pointer (some ⟨w.heap.size + 1, 0, none⟩)]) rfl trivial (enters_of Try.func33 (by kernel_rfl) rfl)
    (all_stops Fence.wide 3 trivial rfl (by omega) (w.heap.size + 1) w.heap.size B v L hL W0 bA.cell (hset.next hB0) hset.own (by omega)) belowK_t (belowK_b (by omega)) (Below.refl _ _) (fun _ => rfl)
    (fun pre W => Boxed W w.heap.size 31 (.int .u64 (sumL pre)) ∧ Below w.heap.size w W)
    (fun _ _ _ => False)
    (OwnFrom.and (Own.from (boxed_own _ _ _) _) (ownFrom_below (Nat.le_refl _) (by omega)))
    (fun _ _ _ _ _ hs _ _ => hs)
    ⟨bS, hB0⟩
    (fun x a' W => ∃ Bx, w.heap.size < Bx ∧ W.heap[Bx]? = some (.cells #[.int .u64 x.1, .int .u64 x.2] 33 (0, 0)) ∧ a' = { tmps := #[.pointer (some ⟨B, 0, none⟩), undef, .int .u64 0, .pointer (some ⟨w.heap.size, 0, none⟩), .pointer (some ⟨Bx, 0, none⟩), .pointer (some ⟨B, 0, none⟩), .func (.func 33) #[] #[.pointer (some ⟨w.heap.size + 1, 0, none⟩)], .agg #[.int .u64 x.1, .int .u64 x.2], undef, undef, undef, undef, undef], defers := [] })
    (fun x a' _ X Y row hs hg hr => by obtain ⟨Bx, h1, h2, h3⟩ := hs; exact ⟨Bx, h1, (hg.block Bx (Array.getElem?_eq_some_iff.1 h2).1 (fun e => by obtain ⟨o, ho, hc⟩ := (hr Bx e.symm).2; rw [h2] at ho; cases ho; cases hc)).trans h2, h3⟩)
    ?assign ?body ?done ?stop
  case assign =>
    rintro l pre ⟨lo, hi⟩ W K ⟨bS1, hB1⟩ hK
    gi_wp2
    exact hK _ _ ((KeepsOthers.alloc _ _).from _) ((Below.refl _ W).alloc hB1.size _) ⟨bS1.alloc _, hB1.alloc hB1.size _⟩ ⟨W.heap.size, bS1.lt, World.alloc_heap_new W _, rfl⟩
  case body =>
    rintro l pre ⟨lo, hi⟩ a' W hl ⟨r, hr⟩ ⟨bS1, hB1⟩ ⟨Bx, hBx, bX, rfl⟩ hlt
    have cS := bS1.cell
    have fS := bS1.frozen
    have hSlt : w.heap.size < W.heap.size := bS1.lt
    have cX0 : W.cell? ⟨Bx, 0, none⟩ = some (.int .u64 lo) := by simp [World.cell?, bX]
    have cX1 : W.cell? ⟨Bx, 1, none⟩ = some (.int .u64 hi) := by simp [World.cell?, bX]
    have hBxlt : Bx < W.heap.size := (Array.getElem?_eq_some_iff.1 bX).1
    have f18 : Fence.wide.fn 18 := trivial
    gi_wp2
    have mixed := mixedTry
    gi_region_with_o (gi_at_call 18; refine (CallsIn.inRound l (callsIn_wide.2 (len_w _ _ _))).mono ?_; rintro e w' ⟨rfl, rfl⟩)
    all_goals gi_wp2
    all_goals
      have hBB : Below w.heap.size W ((((W.setCell ⟨w.heap.size, 0, none⟩ (.int .u64 (IntKind.u64.wrap (sumL pre + wlen (lo, hi))))).alloc (box lo hi)).alloc (box lo hi)).drew) :=
        ((((Below.refl w.heap.size W).setCell (p := ⟨w.heap.size, 0, none⟩) (Nat.le_refl _) _).alloc (by simp; omega) _).alloc (by simp; omega) _).drew
      exact ⟨((((KeepsOthers.setCell _ _ _).trans (KeepsOthers.alloc _ _)).trans (KeepsOthers.alloc _ _)).trans (KeepsOthers.drew _)).from _, hBB, by rw [sumL_snoc]; exact ((bS1.set _).alloc _).alloc _, hB1.trans hBB⟩
  case done =>
    rintro D ys W hD rfl ⟨bS1, hB1⟩ hK
    have cS := bS1.cell
    gi_wp2
    refine ⟨by simp, .inl ⟨_, _, rfl, run_takeDeferred hK, ?_⟩⟩
    exact ⟨_, results_tmp rfl _ _ _, rfl, hB1.trans (belowK_b (w := w) (Nat.le_refl _) W D _ _ (by omega) hK rfl rfl)⟩
  case stop =>
    rintro D c pre W _ _ h _
    exact h.elim
set_option maxRecDepth 100000 in
set_option maxHeartbeats 2000000 in
theorem setLen_nil (w : World) :
    Calls Try.prog 24 #[.pointer (none)] w fun e w' => e = .returned (.int .u64 (0)) ∧ Below w.heap.size w w' := by
  refine (callsIn_wide (n := 4)).1 ?_
  refine callsIn_of_wp_marks Try.func24 rfl trivial ?_ rfl
  simp only [Try.ntmps24, List.size_toArray, List.length_cons, List.length_nil, Nat.reduceAdd, Nat.reduceSub, Array.replicate_succ, Array.replicate_zero, List.push_toArray, List.append_toArray, List.nil_append, List.cons_append]
  have f22 : Fence.wide.fn 22 := trivial
  gi_wp2_with (gi_at_call 22; refine (all_in Fence.wide 3 trivial rfl _ _).mono ?_; rintro e w' ⟨rfl, rfl⟩)
  have bS := (Boxed.new w 31 (.int .u64 0)).alloc (.cells #[.pointer (none)] 41)
  have bA := Boxed.new (w.alloc (.cells #[.int .u64 0] 31)) 41 (.pointer (none))
  rw [World.size_alloc] at bA
  have hB0 : Below w.heap.size w ((w.alloc (.cells #[.int .u64 0] 31)).alloc (.cells #[.pointer (none)] 41)) := ((Below.refl _ w).alloc (Nat.le_refl _) _).alloc (by simp) _
  have hsz : ((w.alloc (.cells #[.int .u64 0] 31)).alloc (.cells #[.pointer (none)] 41)).heap.size = w.heap.size + 2 := by simp
  obtain ⟨W0, hW0⟩ : ∃ W0, (w.alloc (.cells #[.int .u64 0] 31)).alloc (.cells #[.pointer (none)] 41) = W0 := ⟨_, rfl⟩
  rw [hW0] at bS bA hB0 hsz ⊢
  clear hW0
  refine wpIn_rangeFunc_ownH rfl (by omega) (gf := 33) (lb := #[.pointer (some ⟨w.heap.size + 1, 0, none⟩)]) rfl trivial (enters_of Try.func33 (by kernel_rfl) rfl)
    (all_stops_nil Fence.wide 3 trivial rfl (w.heap.size + 1) w.heap.size W0 bA.cell) belowK_t (belowK_b (by omega)) (Below.refl _ _) (fun _ => rfl)
    (fun pre W => Boxed W w.heap.size 31 (.int .u64 (sumL pre)) ∧ Below w.heap.size w W)
    (fun _ _ _ => False)
    (OwnFrom.and (Own.from (boxed_own _ _ _) _) (ownFrom_below (Nat.le_refl _) (by omega)))
    (fun _ _ _ _ _ hs _ _ => hs)
    ⟨bS, hB0⟩
    (fun x a' W => ∃ Bx, w.heap.size < Bx ∧ W.heap[Bx]? = some (.cells #[.int .u64 x.1, .int .u64 x.2] 33 (0, 0)) ∧ a' = { tmps := #[.pointer (none), undef, .int .u64 0, .pointer (some ⟨w.heap.size, 0, none⟩), .pointer (some ⟨Bx, 0, none⟩), .pointer (none), .func (.func 33) #[] #[.pointer (some ⟨w.heap.size + 1, 0, none⟩)], .agg #[.int .u64 x.1, .int .u64 x.2], undef, undef, undef, undef, undef], defers := [] })
    (fun x a' _ X Y row hs hg hr => by obtain ⟨Bx, h1, h2, h3⟩ := hs; exact ⟨Bx, h1, (hg.block Bx (Array.getElem?_eq_some_iff.1 h2).1 (fun e => by obtain ⟨o, ho, hc⟩ := (hr Bx e.symm).2; rw [h2] at ho; cases ho; cases hc)).trans h2, h3⟩)
    ?assign ?body ?done ?stop
  case assign =>
    rintro l pre ⟨lo, hi⟩ W K ⟨bS1, hB1⟩ hK
    gi_wp2
    exact hK _ _ ((KeepsOthers.alloc _ _).from _) ((Below.refl _ W).alloc hB1.size _) ⟨bS1.alloc _, hB1.alloc hB1.size _⟩ ⟨W.heap.size, bS1.lt, World.alloc_heap_new W _, rfl⟩
  case body =>
    rintro l pre x a' W _ _ _ _ hlt
    exact absurd hlt (Nat.not_lt_zero _)
  case done =>
    rintro D ys W hD rfl ⟨bS1, hB1⟩ hK
    have cS := bS1.cell
    gi_wp2
    refine ⟨by simp, .inl ⟨_, _, rfl, run_takeDeferred hK, ?_⟩⟩
    exact ⟨_, results_tmp rfl _ _ _, rfl, hB1.trans (belowK_b (w := w) (Nat.le_refl _) W D _ _ (by omega) hK rfl rfl)⟩
  case stop =>
    rintro D c pre W _ h _ _
    exact h.elim
end Go.Proofs.Ytcdgogcbijohcaa
