/-
  Layer 3: the least place within a span.
-/
import Derived.Test.YtcdgogcbijohcaaA7
namespace Go.Proofs.Ytcdgogcbijohcaa
open Go.RowKit Go.Shelf
attribute [local go_sem] Oper.semAt_some

/-- What aligned answers, where the address is one. -/
def Al (at_ al a : Int) (b : Bool) : Prop := 0 ≤ at_ → at_ < 18446744073709551616 → 0 ≤ a ∧ a < 18446744073709551616 ∧ b = decide (upTo at_ al < 18446744073709551616) ∧ (b = true → a = upTo at_ al)

set_option maxHeartbeats 400000 in
theorem aligned_e (at_ al : Int) (w : World) (h2 : 0 < al) (h3 : al < 18446744073709551616) :
    Calls Try.prog 30 #[.int .u64 at_, .int .u64 al] w fun e w' => (∃ a b, e = .returned (.tuple #[.int .u64 a, .bool b]) ∧ Al at_ al a b) ∧ w' = w := by
  by_cases h : 0 ≤ at_ ∧ at_ < 18446744073709551616
  · refine (aligned_any at_ al w h.1 h.2 h2 h3).mono ?_
    rintro e w' ⟨⟨a, b, rfl, h4, h5, h6, h7⟩, rfl⟩
    exact ⟨⟨a, b, rfl, fun _ _ => ⟨h4, h5, h6, h7⟩⟩, rfl⟩
  · have hal : ¬ al = 0 := by omega
    obtain ⟨r, hr⟩ : ∃ r, Int.tmod at_ al = r := ⟨_, rfl⟩
    have HA : Hid (¬ (0 ≤ at_ ∧ at_ < 18446744073709551616)) := h
    clear h
    by_cases hr0 : r = 0
    · go_enter Try.func30, Try.ntmps30
      go_wp2
      go_ret2
      exact ⟨⟨_, _, rfl, fun x y => absurd ⟨x, y⟩ HA.out⟩, rfl⟩
    · go_enter Try.func30, Try.ntmps30
      go_wp2
      go_ret2
      exact ⟨⟨_, _, rfl, fun x y => absurd ⟨x, y⟩ HA.out⟩, rfl⟩

/-- The state of the search: an address, and whether there is one. -/
abbrev St := Int × Bool
def stops (n : Int) (s : St) (x : Int × Int) : Bool := !s.2 || (decide (s.1 ≤ x.1) && decide (n ≤ IntKind.u64.wrap (x.1 - s.1)))
def Step (al : Int) (s : St) (x : Int × Int) (s' : St) : Prop := if s.1 < x.2 then Al x.2 al s'.1 s'.2 else s' = s
def Run (n al : Int) (s0 : St) (L : List (Int × Int)) (s : St) : Prop :=
  ∀ P : List (Int × Int) → St → Prop, P [] s0 →
    (∀ (pre : List (Int × Int)) (s : St) (x : Int × Int) (s' : St), P pre s → stops n s x = false → Step al s x s' → P (pre ++ [x]) s') → P L s
theorem Run.nil {n al : Int} {s0 : St} : Run n al s0 [] s0 := fun _ h _ => h
theorem Run.snoc {n al : Int} {s0 : St} {pre : List (Int × Int)} {s : St} {x : Int × Int} {s' : St} (h : Run n al s0 pre s) (h2 : stops n s x = false) (h3 : Step al s x s') : Run n al s0 (pre ++ [x]) s' :=
  fun P h0 h1 => h1 _ _ _ _ (h P h0 h1) h2 h3
/-- How the search ends. -/
def Fin (n al : Int) (s0 : St) (L : List (Int × Int)) (s : St) : Prop := Run n al s0 L s ∨ ∃ pre x, pre ++ [x] <+: L ∧ Run n al s0 pre s ∧ stops n s x = true
def fitEnd (n hi : Int) (s : St) : Int × Bool := if s.2 = true ∧ s.1 < hi ∧ n ≤ IntKind.u64.wrap (hi - s.1) then (s.1, true) else (0, false)

set_option maxRecDepth 100000 in
set_option maxHeartbeats 1000000 in
theorem fit_nil (n al lo hi : Int) (w : World) :
    Calls Try.prog 14 #[.pointer none, .int .u64 n, .int .u64 al, .agg #[.int .u64 lo, .int .u64 hi]] w fun e w' => e = .returned (.tuple #[.int .u64 0, .bool false]) ∧ Below w.heap.size w w' := by
  go_enter Try.func14, Try.ntmps14
  go_wp2
  go_ret2
  exact ⟨rfl, b3 _ _ _ rfl⟩

/-- What Fit answers. -/
def FitPost (w : World) (L : List (Int × Int)) (n al lo hi : Int) (e : Ending) (w' : World) : Prop :=
  (∃ s0 s : St, Al lo al s0.1 s0.2 ∧ Fin n al s0 L s ∧ e = .returned (.tuple #[.int .u64 (fitEnd n hi s).1, .bool (fitEnd n hi s).2])) ∧ Below w.heap.size w w'

/-- What the boxes of the search hold between two rounds. -/
def FitI (w : World) (n al lo hi : Int) (s0 : St) (pre : List (Int × Int)) (W : World) : Prop :=
  ∃ s : St, Run n al s0 pre s ∧ Boxed W (w.heap.size + 1 + 1 + 1) 31 (.int .u64 s.1) ∧ Boxed W (w.heap.size + 1 + 1 + 1 + 1) 4 (.bool s.2) ∧ Boxed W w.heap.size 31 (.int .u64 n) ∧ Boxed W (w.heap.size + 1) 31 (.int .u64 al) ∧ W.heap[w.heap.size + 1 + 1]? = some (.cells #[.int .u64 lo, .int .u64 hi] 33 (0, 0)) ∧ Below w.heap.size w W
/-- .. and behind a round that was left. -/
def FitX (w : World) (n al lo hi : Int) (s0 : St) (pre : List (Int × Int)) (W : World) : Prop :=
  ∃ (q : List (Int × Int)) (x : Int × Int) (s : St), pre = q ++ [x] ∧ Run n al s0 q s ∧ stops n s x = true ∧ Boxed W (w.heap.size + 1 + 1 + 1) 31 (.int .u64 s.1) ∧ Boxed W (w.heap.size + 1 + 1 + 1 + 1) 4 (.bool s.2) ∧ Boxed W w.heap.size 31 (.int .u64 n) ∧ Boxed W (w.heap.size + 1) 31 (.int .u64 al) ∧ W.heap[w.heap.size + 1 + 1]? = some (.cells #[.int .u64 lo, .int .u64 hi] 33 (0, 0)) ∧ Below w.heap.size w W

theorem cells_kept {W W' : World} {row : Option Nat} {b : Nat} {cs : Array Value} {t : TypeId} (h : W.heap[b]? = some (.cells cs t (0, 0))) (hg : W.grownBy W' row) (hr : ∀ r, row = some r → ∃ o : Obj, W.heap[r]? = some o ∧ o.isCells = false) : W'.heap[b]? = some (.cells cs t (0, 0)) :=
  (hg.block b (Array.getElem?_eq_some_iff.1 h).1 (fun e => by obtain ⟨o, ho, hc⟩ := hr b e.symm; rw [h] at ho; cases ho; cases hc)).trans h

theorem fit_set {w W : World} {n al lo hi a : Int} {ok : Bool} (a1 : Int) (b1 : Bool)
    (h : Boxed W (w.heap.size + 1 + 1 + 1) 31 (.int .u64 a) ∧ Boxed W (w.heap.size + 1 + 1 + 1 + 1) 4 (.bool ok) ∧ Boxed W w.heap.size 31 (.int .u64 n) ∧ Boxed W (w.heap.size + 1) 31 (.int .u64 al) ∧ W.heap[w.heap.size + 1 + 1]? = some (.cells #[.int .u64 lo, .int .u64 hi] 33 (0, 0)) ∧ Below w.heap.size w W) :
    KeepsOthers W ((W.setCell ⟨w.heap.size + 1 + 1 + 1, 0, none⟩ (.int .u64 a1)).setCell ⟨w.heap.size + 1 + 1 + 1 + 1, 0, none⟩ (.bool b1)) ∧ Below w.heap.size W ((W.setCell ⟨w.heap.size + 1 + 1 + 1, 0, none⟩ (.int .u64 a1)).setCell ⟨w.heap.size + 1 + 1 + 1 + 1, 0, none⟩ (.bool b1)) ∧
    (Boxed ((W.setCell ⟨w.heap.size + 1 + 1 + 1, 0, none⟩ (.int .u64 a1)).setCell ⟨w.heap.size + 1 + 1 + 1 + 1, 0, none⟩ (.bool b1)) (w.heap.size + 1 + 1 + 1) 31 (.int .u64 a1) ∧ Boxed ((W.setCell ⟨w.heap.size + 1 + 1 + 1, 0, none⟩ (.int .u64 a1)).setCell ⟨w.heap.size + 1 + 1 + 1 + 1, 0, none⟩ (.bool b1)) (w.heap.size + 1 + 1 + 1 + 1) 4 (.bool b1) ∧
     Boxed ((W.setCell ⟨w.heap.size + 1 + 1 + 1, 0, none⟩ (.int .u64 a1)).setCell ⟨w.heap.size + 1 + 1 + 1 + 1, 0, none⟩ (.bool b1)) w.heap.size 31 (.int .u64 n) ∧ Boxed ((W.setCell ⟨w.heap.size + 1 + 1 + 1, 0, none⟩ (.int .u64 a1)).setCell ⟨w.heap.size + 1 + 1 + 1 + 1, 0, none⟩ (.bool b1)) (w.heap.size + 1) 31 (.int .u64 al) ∧
     ((W.setCell ⟨w.heap.size + 1 + 1 + 1, 0, none⟩ (.int .u64 a1)).setCell ⟨w.heap.size + 1 + 1 + 1 + 1, 0, none⟩ (.bool b1)).heap[w.heap.size + 1 + 1]? = some (.cells #[.int .u64 lo, .int .u64 hi] 33 (0, 0)) ∧ Below w.heap.size w ((W.setCell ⟨w.heap.size + 1 + 1 + 1, 0, none⟩ (.int .u64 a1)).setCell ⟨w.heap.size + 1 + 1 + 1 + 1, 0, none⟩ (.bool b1))) := by
  obtain ⟨h1, h2, h3, h4, h5, h6⟩ := h
  have hb : Below w.heap.size W ((W.setCell ⟨w.heap.size + 1 + 1 + 1, 0, none⟩ (.int .u64 a1)).setCell ⟨w.heap.size + 1 + 1 + 1 + 1, 0, none⟩ (.bool b1)) :=
    ((Below.refl w.heap.size W).setCell (p := ⟨w.heap.size + 1 + 1 + 1, 0, none⟩) (by show w.heap.size ≤ w.heap.size + 1 + 1 + 1; omega) _).setCell (p := ⟨w.heap.size + 1 + 1 + 1 + 1, 0, none⟩) (by show w.heap.size ≤ w.heap.size + 1 + 1 + 1 + 1; omega) _
  have ot : ∀ k, k ≠ w.heap.size + 1 + 1 + 1 → k ≠ w.heap.size + 1 + 1 + 1 + 1 → ((W.setCell ⟨w.heap.size + 1 + 1 + 1, 0, none⟩ (.int .u64 a1)).setCell ⟨w.heap.size + 1 + 1 + 1 + 1, 0, none⟩ (.bool b1)).heap[k]? = W.heap[k]? :=
    fun k k1 k2 => (Below.heap_setCell _ _ _ k k2).trans (Below.heap_setCell _ _ _ k k1)
  refine ⟨(KeepsOthers.setCell _ _ _).trans (KeepsOthers.setCell _ _ _), hb, ?_, ?_, (ot _ (by omega) (by omega)).trans h3, (ot _ (by omega) (by omega)).trans h4, (ot _ (by omega) (by omega)).trans h5, h6.trans hb⟩
  · exact (Below.heap_setCell _ _ _ _ (by show w.heap.size + 1 + 1 + 1 ≠ w.heap.size + 1 + 1 + 1 + 1; omega)).trans (h1.set _)
  · exact Boxed.set _ ((Below.heap_setCell _ _ _ _ (by show w.heap.size + 1 + 1 + 1 + 1 ≠ w.heap.size + 1 + 1 + 1; omega)).trans h2)

theorem fitI_own (w : World) (n al lo hi : Int) (s0 : St) {B : Nat} (hB : w.heap.size ≤ B) : OwnFrom B (FitI w n al lo hi s0) := by
  rintro pre W W' row ⟨s, hR, b1, b2, b3, b4, b5, hb⟩ hg hr
  have hr2 := fun r e => (hr r e).2
  exact ⟨s, hR, cells_kept b1 hg hr2, cells_kept b2 hg hr2, cells_kept b3 hg hr2, cells_kept b4 hg hr2, cells_kept b5 hg hr2, hb.grown hg hb.size (fun k e => Nat.le_trans hB (hr k e).1)⟩
theorem fitX_own (w : World) (n al lo hi : Int) (s0 : St) {B : Nat} (hB : w.heap.size ≤ B) : OwnFrom B (FitX w n al lo hi s0) := by
  rintro pre W W' row ⟨q, x, s, hp, hR, hst, b1, b2, b3, b4, b5, hb⟩ hg hr
  have hr2 := fun r e => (hr r e).2
  exact ⟨q, x, s, hp, hR, hst, cells_kept b1 hg hr2, cells_kept b2 hg hr2, cells_kept b3 hg hr2, cells_kept b4 hg hr2, cells_kept b5 hg hr2, hb.grown hg hb.size (fun k e => Nat.le_trans hB (hr k e).1)⟩

set_option maxRecDepth 100000 in
set_option maxHeartbeats 2000000 in
theorem fit_any (B : Nat) (v : Value) (L : List (Int × Int)) (hL : L.length ≤ 100000) (n al lo hi : Int) (w : World) (hset : SetAt w B v L) (hn : n ≠ 0) (ha0 : 0 < al) (ha1 : al < 18446744073709551616) :
    Calls Try.prog 14 #[.pointer (some ⟨B, 0, none⟩), .int .u64 n, .int .u64 al, .agg #[.int .u64 lo, .int .u64 hi]] w (FitPost w L n al lo hi) := by
  have hal : ¬ al = 0 := by omega
  have hnb : (n == 0) = false := by simp [hn]
  have hab : (al == 0) = false := by simp [hal]
  refine (callsIn_wide (n := 4)).1 ?_
  refine callsIn_of_wp_marks Try.func14 rfl trivial ?_ rfl
  simp only [Try.ntmps14, List.size_toArray, List.length_cons, List.length_nil, Nat.reduceAdd, Nat.reduceSub, Array.replicate_succ, Array.replicate_zero, List.push_toArray, List.append_toArray, List.nil_append, List.cons_append]
  have f22 : Fence.wide.fn 22 := trivial
  have f30 : Fence.wide.fn 30 := trivial
  gi_wp2_with (first | (gi_at_call 22; refine (all_in Fence.wide 3 trivial rfl _ _).mono ?_; rintro e w' ⟨rfl, rfl⟩) | (gi_at_call 30; refine (callsIn_wide.2 (aligned_e _ _ _ ha0 ha1)).mono ?_; rintro e w' ⟨⟨a0, b0, rfl, hA0⟩, rfl⟩))
  have hW : ∃ W0 : World, ((((((w.alloc (.cells #[.int .u64 n] 31)).alloc (.cells #[.int .u64 al] 31)).alloc (.cells #[.int .u64 lo, .int .u64 hi] 33)).alloc (.cells #[.int .u64 a0] 31)).alloc (.cells #[.bool b0] 4)).alloc (.cells #[.pointer (some ⟨B, 0, none⟩)] 41)) = W0 ∧ W0.heap.size = w.heap.size + 6 ∧ Below w.heap.size w W0 ∧ Boxed W0 w.heap.size 31 (.int .u64 n) ∧ Boxed W0 (w.heap.size + 1) 31 (.int .u64 al) ∧ W0.heap[w.heap.size + 1 + 1]? = some (.cells #[.int .u64 lo, .int .u64 hi] 33 (0, 0)) ∧
      Boxed W0 (w.heap.size + 1 + 1 + 1) 31 (.int .u64 a0) ∧ Boxed W0 (w.heap.size + 1 + 1 + 1 + 1) 4 (.bool b0) ∧ Boxed W0 (w.heap.size + 1 + 1 + 1 + 1 + 1) 41 (.pointer (some ⟨B, 0, none⟩)) := by
    refine ⟨_, rfl, by simp, ?_, ?_, ?_, ?_, ?_, ?_, ?_⟩
    · exact ((((((Below.refl _ w).alloc (Nat.le_refl _) _).alloc (by simp) _).alloc (by simp; omega) _).alloc (by simp; omega) _).alloc (by simp; omega) _).alloc (by simp; omega) _
    · exact (((((Boxed.new w 31 _).alloc _).alloc _).alloc _).alloc _).alloc _
    · have := ((((Boxed.new (w.alloc (.cells #[.int .u64 n] 31)) 31 (.int .u64 al)).alloc (.cells #[.int .u64 lo, .int .u64 hi] 33)).alloc (.cells #[.int .u64 a0] 31)).alloc (.cells #[.bool b0] 4)).alloc (.cells #[.pointer (some ⟨B, 0, none⟩)] 41)
      simp only [World.size_alloc] at this
      exact this
    · have h := World.alloc_heap_new ((w.alloc (.cells #[.int .u64 n] 31)).alloc (.cells #[.int .u64 al] 31)) (.cells #[.int .u64 lo, .int .u64 hi] 33)
      simp only [World.size_alloc] at h
      exact ((Below.heap_alloc _ _ _ (by simp)).trans ((Below.heap_alloc _ _ _ (by simp)).trans ((Below.heap_alloc _ _ _ (by simp)).trans h)))
    · have h := World.alloc_heap_new (((w.alloc (.cells #[.int .u64 n] 31)).alloc (.cells #[.int .u64 al] 31)).alloc (.cells #[.int .u64 lo, .int .u64 hi] 33)) (.cells #[.int .u64 a0] 31)
      simp only [World.size_alloc] at h
      exact ((Below.heap_alloc _ _ _ (by simp)).trans ((Below.heap_alloc _ _ _ (by simp)).trans h))
    · have h := World.alloc_heap_new ((((w.alloc (.cells #[.int .u64 n] 31)).alloc (.cells #[.int .u64 al] 31)).alloc (.cells #[.int .u64 lo, .int .u64 hi] 33)).alloc (.cells #[.int .u64 a0] 31)) (.cells #[.bool b0] 4)
      simp only [World.size_alloc] at h
      exact ((Below.heap_alloc _ _ _ (by simp)).trans h)
    · have h := World.alloc_heap_new (((((w.alloc (.cells #[.int .u64 n] 31)).alloc (.cells #[.int .u64 al] 31)).alloc (.cells #[.int .u64 lo, .int .u64 hi] 33)).alloc (.cells #[.int .u64 a0] 31)).alloc (.cells #[.bool b0] 4)) (.cells #[.pointer (some ⟨B, 0, none⟩)] 41)
      simp only [World.size_alloc] at h
      exact h
  obtain ⟨W0, hW0, hsz, hB0, bN, bL, bI, bT, bO, bA⟩ := hW
  rw [hW0]
  clear hW0
  refine wpIn_rangeFunc_ownH rfl (by omega) (gf := 33) (lb := #[.pointer (some ⟨w.heap.size + 1 + 1 + 1 + 1 + 1, 0, none⟩)]) rfl trivial (enters_of Try.func33 (by kernel_rfl) rfl)
    (all_stops Fence.wide 3 trivial rfl (by omega) (w.heap.size + 1 + 1 + 1 + 1 + 1) w.heap.size B v L hL W0 bA.cell (hset.next hB0) hset.own (by omega)) belowK_t (belowK_b (by omega)) (Below.refl _ _) (fun _ => rfl)
    (fun pre W => FitI w n al lo hi (a0, b0) pre W)
    (fun c pre W => c = .exit 0 ∧ FitX w n al lo hi (a0, b0) pre W)
    (fitI_own w n al lo hi (a0, b0) (by omega)) (fun c => OwnFrom.and (ownFrom_pure _ _) (fitX_own w n al lo hi (a0, b0) (by omega)))
    ⟨(a0, b0), .nil, bT, bO, bN, bL, bI, hB0⟩
    (fun x a' W => ∃ Bx, w.heap.size + 4 < Bx ∧ W.heap[Bx]? = some (.cells #[.int .u64 x.1, .int .u64 x.2] 33 (0, 0)) ∧ a' = { tmps := #[.pointer (some ⟨B, 0, none⟩), .int .u64 n, .int .u64 al, .agg #[.int .u64 lo, .int .u64 hi], undef, .pointer (some ⟨w.heap.size, 0, none⟩), .pointer (some ⟨w.heap.size + 1, 0, none⟩), .pointer (some ⟨w.heap.size + 1 + 1, 0, none⟩), .int .u64 0, .bool false, .pointer (some ⟨w.heap.size + 1 + 1 + 1, 0, none⟩), .pointer (some ⟨w.heap.size + 1 + 1 + 1 + 1, 0, none⟩), .pointer (some ⟨Bx, 0, none⟩), .pointer (some ⟨B, 0, none⟩), .bool false, .bool false, .int .u64 n, .bool false, .bool false, .bool false, .int .u64 al, .bool false, .bool false, .tuple #[.int .u64 a0, .bool b0], .pointer (some ⟨w.heap.size + 1 + 1, 0, none⟩), .int .u64 lo, .int .u64 al, .tuple #[.int .u64 a0, .bool b0], .int .u64 a0, .bool b0, .pointer (some ⟨B, 0, none⟩), .func (.func 33) #[] #[.pointer (some ⟨w.heap.size + 1 + 1 + 1 + 1 + 1, 0, none⟩)], .agg #[.int .u64 x.1, .int .u64 x.2], undef, undef, undef, undef, undef, undef, undef, undef, undef, undef, undef, undef, undef, undef, undef, undef, undef, undef, undef, undef, undef, undef, undef, undef, undef, undef, undef, undef, undef, undef, undef, undef, undef, undef, undef, undef, undef, undef, undef, undef, undef, undef, undef, undef], defers := [] })
    (fun x a' _ X Y row hs hg hr => by obtain ⟨Bx, h1, h2, h3⟩ := hs; exact ⟨Bx, h1, (hg.block Bx (Array.getElem?_eq_some_iff.1 h2).1 (fun e => by obtain ⟨o, ho, hc⟩ := (hr Bx e.symm).2; rw [h2] at ho; cases ho; cases hc)).trans h2, h3⟩)
    ?assign ?body ?done ?stop
  case assign =>
    rintro l pre ⟨x1, x2⟩ W K ⟨s, hR, bT1, bO1, bN1, bL1, bI1, hB1⟩ hK
    gi_wp2
    exact hK _ _ ((KeepsOthers.alloc _ _).from _) ((Below.refl _ W).alloc hB1.size _) ⟨s, hR, bT1.alloc _, bO1.alloc _, bN1.alloc _, bL1.alloc _, (Below.heap_alloc _ _ _ (Array.getElem?_eq_some_iff.1 bI1).1).trans bI1, hB1.alloc hB1.size _⟩ ⟨W.heap.size, bO1.lt, World.alloc_heap_new W _, rfl⟩
  case body =>
    rintro l pre ⟨x1, x2⟩ a' W hl ⟨r, hr⟩ ⟨⟨a, ok⟩, hR, bT1, bO1, bN1, bL1, bI1, hB1⟩ ⟨Bx, hBx, bX, rfl⟩ hlt
    have cT := bT1.cell
    have fT := bT1.frozen
    have hTl := bT1.lt
    have cO := bO1.cell
    have fO := bO1.frozen
    have hOl := bO1.lt
    have cN := bN1.cell
    have cL := bL1.cell
    have cX0 : W.cell? ⟨Bx, 0, none⟩ = some (.int .u64 x1) := by simp [World.cell?, bX]
    have cX1 : W.cell? ⟨Bx, 1, none⟩ = some (.int .u64 x2) := by simp [World.cell?, bX]
    have HI : Hid (FitI w n al lo hi (a0, b0) pre W) := ⟨(a, ok), hR, bT1, bO1, bN1, bL1, bI1, hB1⟩
    have HR : Hid (Run n al (a0, b0) pre (a, ok)) := hR
    have HB : Hid (Boxed W (w.heap.size + 1 + 1 + 1) 31 (.int .u64 a) ∧ Boxed W (w.heap.size + 1 + 1 + 1 + 1) 4 (.bool ok) ∧ Boxed W w.heap.size 31 (.int .u64 n) ∧ Boxed W (w.heap.size + 1) 31 (.int .u64 al) ∧ W.heap[w.heap.size + 1 + 1]? = some (.cells #[.int .u64 lo, .int .u64 hi] 33 (0, 0)) ∧ Below w.heap.size w W) := ⟨bT1, bO1, bN1, bL1, bI1, hB1⟩
    clear hR bI1 bX
    cases ok with
    | false =>
      gi_wp2
      exact ⟨KeepsFrom.refl _ _, rfl, pre, (x1, x2), (a, false), rfl, HR.out, rfl, HB.out⟩
    | true =>
      by_cases h1 : a ≤ x1
      · by_cases h2 : n ≤ IntKind.u64.wrap (x1 - a)
        · gi_wp2
          exact ⟨KeepsFrom.refl _ _, rfl, pre, (x1, x2), (a, true), rfl, HR.out, by simp [stops, h1, h2], HB.out⟩
        · by_cases h3 : a < x2
          · gi_wp2_with (gi_at_call 30; refine (CallsIn.inRound l (callsIn_wide.2 (aligned_e _ _ _ ha0 ha1))).mono ?_; rintro e w' ⟨⟨a1, b1, rfl, hA1⟩, rfl⟩)
            exact ⟨(fit_set a1 b1 HB.out).1.from _, (fit_set a1 b1 HB.out).2.1, (a1, b1), .snoc HR.out (by simp [stops]; omega) (by unfold Step; rw [if_pos (by show a < x2; omega)]; exact hA1), (fit_set a1 b1 HB.out).2.2⟩
          · gi_wp2
            exact ⟨KeepsFrom.refl _ _, Below.refl _ _, (a, true), .snoc HR.out (by simp [stops]; omega) (by unfold Step; rw [if_neg (by show ¬ a < x2; omega)]), HB.out⟩
      · by_cases h3 : a < x2
        · gi_wp2_with (gi_at_call 30; refine (CallsIn.inRound l (callsIn_wide.2 (aligned_e _ _ _ ha0 ha1))).mono ?_; rintro e w' ⟨⟨a1, b1, rfl, hA1⟩, rfl⟩)
          exact ⟨(fit_set a1 b1 HB.out).1.from _, (fit_set a1 b1 HB.out).2.1, (a1, b1), .snoc HR.out (by simp [stops]; omega) (by unfold Step; rw [if_pos (by show a < x2; omega)]; exact hA1), (fit_set a1 b1 HB.out).2.2⟩
        · gi_wp2
          exact ⟨KeepsFrom.refl _ _, Below.refl _ _, (a, true), .snoc HR.out (by simp [stops]; omega) (by unfold Step; rw [if_neg (by show ¬ a < x2; omega)]), HB.out⟩
  case done =>
    rintro D ys W hD rfl ⟨⟨a, ok⟩, hR, bT1, bO1, bN1, bL1, bI1, hB1⟩ hK
    have hF : Hid (Fin n al (a0, b0) ys (a, ok)) := .inl hR
    have hBB : Hid (Below w.heap.size w (W.putObj D (.deferred none))) := hB1.trans (belowK_b (w := w) (Nat.le_refl _) W D _ _ (by omega) hK rfl rfl)
    have hA : Hid (Al lo al a0 b0) := hA0
    have cT := bT1.cell
    have cO := bO1.cell
    have cN := bN1.cell
    have cI1 : W.cell? ⟨w.heap.size + 1 + 1, 1, none⟩ = some (.int .u64 hi) := by simp [World.cell?, bI1]
    clear hR bT1 bO1 bN1 bL1 bI1
    cases ok with
    | false =>
      gi_wp2
      refine ⟨by simp, .inl ⟨_, _, rfl, run_takeDeferred hK, ?_⟩⟩
      exact ⟨_, results_tmp2 rfl _ _ _, ⟨(a0, b0), (a, false), hA.out, hF.out, rfl⟩, hBB.out⟩
    | true =>
      by_cases h1 : a < hi
      · by_cases h2 : n ≤ IntKind.u64.wrap (hi - a)
        · have hE : Hid (fitEnd n hi (a, true) = (a, true)) := if_pos ⟨rfl, h1, h2⟩
          gi_wp2
          refine ⟨by simp, .inl ⟨_, _, rfl, run_takeDeferred hK, ?_⟩⟩
          exact ⟨_, results_tmp2 rfl _ _ _, ⟨(a0, b0), (a, true), hA.out, hF.out, by rw [hE.out]; rfl⟩, hBB.out⟩
        · have hE : Hid (fitEnd n hi (a, true) = (0, false)) := if_neg (fun h => h2 h.2.2)
          gi_wp2
          refine ⟨by simp, .inl ⟨_, _, rfl, run_takeDeferred hK, ?_⟩⟩
          exact ⟨_, results_tmp2 rfl _ _ _, ⟨(a0, b0), (a, true), hA.out, hF.out, by rw [hE.out]; rfl⟩, hBB.out⟩
      · have hE : Hid (fitEnd n hi (a, true) = (0, false)) := if_neg (fun h => h1 h.2.1)
        gi_wp2
        refine ⟨by simp, .inl ⟨_, _, rfl, run_takeDeferred hK, ?_⟩⟩
        exact ⟨_, results_tmp2 rfl _ _ _, ⟨(a0, b0), (a, true), hA.out, hF.out, by rw [hE.out]; rfl⟩, hBB.out⟩
  case stop =>
    rintro D c pre W hD hSp ⟨rfl, q, x, ⟨a, ok⟩, rfl, hR, hst, bT1, bO1, bN1, bL1, bI1, hB1⟩ hK
    have hF : Hid (Fin n al (a0, b0) L (a, ok)) := .inr ⟨q, x, hSp, hR, hst⟩
    clear hst
    have hBB : Hid (Below w.heap.size w (W.putObj D (.deferred none))) := hB1.trans (belowK_b (w := w) (Nat.le_refl _) W D _ _ (by omega) hK rfl rfl)
    have hA : Hid (Al lo al a0 b0) := hA0
    have cT := bT1.cell
    have cO := bO1.cell
    have cN := bN1.cell
    have cI1 : W.cell? ⟨w.heap.size + 1 + 1, 1, none⟩ = some (.int .u64 hi) := by simp [World.cell?, bI1]
    clear hR bT1 bO1 bN1 bL1 bI1
    cases ok with
    | false =>
      gi_wp2
      refine ⟨by simp, .inl ⟨_, _, rfl, run_takeDeferred hK, ?_⟩⟩
      exact ⟨_, results_tmp2 rfl _ _ _, ⟨(a0, b0), (a, false), hA.out, hF.out, rfl⟩, hBB.out⟩
    | true =>
      by_cases h1 : a < hi
      · by_cases h2 : n ≤ IntKind.u64.wrap (hi - a)
        · have hE : Hid (fitEnd n hi (a, true) = (a, true)) := if_pos ⟨rfl, h1, h2⟩
          gi_wp2
          refine ⟨by simp, .inl ⟨_, _, rfl, run_takeDeferred hK, ?_⟩⟩
          exact ⟨_, results_tmp2 rfl _ _ _, ⟨(a0, b0), (a, true), hA.out, hF.out, by rw [hE.out]; rfl⟩, hBB.out⟩
        · have hE : Hid (fitEnd n hi (a, true) = (0, false)) := if_neg (fun h => h2 h.2.2)
          gi_wp2
          refine ⟨by simp, .inl ⟨_, _, rfl, run_takeDeferred hK, ?_⟩⟩
          exact ⟨_, results_tmp2 rfl _ _ _, ⟨(a0, b0), (a, true), hA.out, hF.out, by rw [hE.out]; rfl⟩, hBB.out⟩
      · have hE : Hid (fitEnd n hi (a, true) = (0, false)) := if_neg (fun h => h1 h.2.1)
        gi_wp2
        refine ⟨by simp, .inl ⟨_, _, rfl, run_takeDeferred hK, ?_⟩⟩
        exact ⟨_, results_tmp2 rfl _ _ _, ⟨(a0, b0), (a, true), hA.out, hF.out, by rw [hE.out]; rfl⟩, hBB.out⟩
end Go.Proofs.Ytcdgogcbijohcaa
