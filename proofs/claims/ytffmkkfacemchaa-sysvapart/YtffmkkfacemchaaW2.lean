/-
  Layer 13: Walk, Find of any table.
-/
import Derived.Test.YtffmkkfacemchaaW1
namespace Go.Proofs.Ytffmkkfacemchaa
open Go.RowKit Go.Shelf Go.Sort
attribute [local go_sem] Oper.semAt_some
set_option linter.unusedVariables false

/-- A table's rows, that lie in w. -/
structure Tab (w : World) (a0 a1 : Option Addr) (n0 n1 c0 c1 b o b' o' : Nat) (B C : Nat → Nat) : Prop where
  e0 : 0 < n0 → a0 = some ⟨b, o, none⟩
  e1 : 0 < n1 → a1 = some ⟨b', o', none⟩
  rb : RowU w b o n0 B
  rc : RowU w b' o' n1 C
  lb : b < w.heap.size
  lc : b' < w.heap.size
  hn0 : n0 ≤ 9223372036854775807
  hn1 : n1 ≤ 9223372036854775807
  hc0 : n0 ≤ c0
  hc1 : n1 ≤ c1
  hB : ∀ j, j < n0 → B j < 4294967296
  hC : ∀ j, j < n1 → C j < 4294967296
theorem Tab.below {w W : World} {a0 a1 : Option Addr} {n0 n1 c0 c1 b o b' o' : Nat} {B C : Nat → Nat} (h : Tab w a0 a1 n0 n1 c0 c1 b o b' o' B C) (hb : Below w.heap.size w W) : Tab W a0 a1 n0 n1 c0 c1 b o b' o' B C :=
  ⟨h.e0, h.e1, h.rb.next hb h.lb, h.rc.next hb h.lc, Nat.lt_of_lt_of_le h.lb hb.size, Nat.lt_of_lt_of_le h.lc hb.size, h.hn0, h.hn1, h.hc0, h.hc1, h.hB, h.hC⟩
/-- A row of names. -/
structure Names (w : World) (an : Option Addr) (nn bn on : Nat) (nm : Nat → ByteArray) : Prop where
  en : 0 < nn → an = some ⟨bn, on, none⟩
  rn : ∀ j, j < nn → w.cell? ⟨bn, on + j, none⟩ = some (.string (nm j))
  ln : 0 < nn → bn < w.heap.size
  hn : nn ≤ 9223372036854775807
  hs : ∀ j, j < nn → (nm j).size ≤ 9223372036854775807
theorem Names.below {w W : World} {an : Option Addr} {nn bn on : Nat} {nm : Nat → ByteArray} (h : Names w an nn bn on nm) (hb : Below w.heap.size w W) : Names W an nn bn on nm :=
  ⟨h.en, fun j hj => (hb.cell (p := ⟨bn, on + j, none⟩) (h.ln (by omega))).trans (h.rn j hj), fun h0 => Nat.lt_of_lt_of_le (h.ln h0) hb.size, h.hn, h.hs⟩

theorem walkv_in (n : Nat) (x y : Value) (s : ByteArray) (w : World) :
    CallsIn Fence.wide n Try.prog 15 #[tbv x y, .string s] w fun e w' => e = .returned (.func (.func 45) #[] #[.pointer (some ⟨w.heap.size, 0, none⟩), .pointer (some ⟨w.heap.size + 1, 0, none⟩)]) ∧ w' = (w.alloc (.cells #[x, y] 25)).alloc (.cells #[.string s] 9) := by
  refine callsIn_of_wp Try.func15 rfl trivial ?_ rfl
  simp only [Try.ntmps15, List.size_toArray, List.length_cons, List.length_nil, Nat.reduceAdd, Nat.reduceSub, Array.replicate_succ, Array.replicate_zero, List.push_toArray, List.append_toArray, List.nil_append, List.cons_append]
  gi_wp2
  go_ret
  exact ⟨rfl, rfl⟩

/-- Is it the symbol that Find looks for? -/
def hit (nm : Nat → ByteArray) (nn : Nat) (s : ByteArray) (x : Nat) : Bool := decide (x < nn ∧ nm x = s)
theorem teq (t : ByteArray) : (t.toList == t.toList) = true := beq_self_eq_true _
theorem tne {t s : ByteArray} (h : ¬ t = s) : (t.toList == s.toList) = false := by
  rw [beq_eq_false_iff_ne]
  intro e
  apply h
  rw [Go.ByteArray.toList_eq, Go.ByteArray.toList_eq] at e
  exact ByteArray.ext (Array.toList_inj.1 e)
/-- What Find finds. -/
def findF (nm : Nat → ByteArray) (nn : Nat) (s : ByteArray) (L : List Nat) : Int × Bool := match L.find? (hit nm nn s) with | some x => ((x : Int), true) | none => (0, false)

theorem keepsOthers_drewN (W : World) (n : Nat) : KeepsOthers W (W.drewN n) := ⟨Nat.le_refl _, fun _ _ h _ => h⟩
theorem findF_none (nm : Nat → ByteArray) (nn : Nat) (s : ByteArray) (L : List Nat) (h : ∀ x ∈ L, hit nm nn s x = false) : findF nm nn s L = (0, false) := by
  unfold findF
  rw [List.find?_eq_none.2 (fun x hx => by rw [h x hx]; simp)]
theorem findF_some (nm : Nat → ByteArray) (nn : Nat) (s : ByteArray) (q r : List Nat) (x : Nat) (h : ∀ y ∈ q, hit nm nn s y = false) (hx : hit nm nn s x = true) : findF nm nn s (q ++ [x] ++ r) = ((x : Int), true) := by
  unfold findF
  have e : (q ++ [x] ++ r).find? (hit nm nn s) = some x := by
    rw [List.find?_append, List.find?_append, List.find?_eq_none.2 (fun y hy => by rw [h y hy]; simp)]
    simp [List.find?, hx]
  rw [e]
/-- What is kept while it looks. -/
def FI (W0 : World) (nm : Nat → ByteArray) (nn : Nat) (s : ByteArray) (pre : List Nat) (W : World) : Prop := (∀ x ∈ pre, hit nm nn s x = false) ∧ Below W0.heap.size W0 W
/-- .. and where it has found. -/
def FX (w : World) (nm : Nat → ByteArray) (nn : Nat) (s : ByteArray) (pre : List Nat) (W : World) : Prop :=
  ∃ q x, pre = q ++ [x] ∧ (∀ y ∈ q, hit nm nn s y = false) ∧ hit nm nn s x = true ∧ W.cell? ⟨w.heap.size + 1 + 1 + 1, 0, none⟩ = some (.int .i64 (x : Int)) ∧ W.cell? ⟨w.heap.size + 1 + 1 + 1 + 1, 0, none⟩ = some (.bool true) ∧ Below w.heap.size w W
theorem FX_own (w : World) (nm : Nat → ByteArray) (nn : Nat) (s : ByteArray) (B : Nat) (hB : w.heap.size ≤ B) : OwnFrom B (FX w nm nn s) := fun z X Y row hs hg hr => by
  obtain ⟨q, x, h1, h2, h3, h4, h5, h6⟩ := hs
  have hr' := fun r e => (hr r e).2
  exact ⟨q, x, h1, h2, h3, cell_kept h4 hg hr', cell_kept h5 hg hr', (ownFrom_below (β := Unit) (Nat.le_refl _) hB) () X Y row h6 hg hr⟩
theorem results_two_one {P : Program} {fn : Func} {p u : Tmp} {t1 t2 : TypeId} (h : fn.results = #[.cell p t1, .cell u t2]) (tmps : Array Value) (w : World) (b1 b2 : Nat) (v v2 : Value)
    (hp : tmps.getD p undef = .pointer (some ⟨b1, 0, none⟩)) (hu : tmps.getD u undef = .pointer (some ⟨b2, 0, none⟩))
    (h1 : (loadVar t1 ⟨b1, 0, none⟩).run P w = .ok v w) (h2 : (loadVar t2 ⟨b2, 0, none⟩).run P w = .ok v2 w) :
    (results fn tmps).run P w = .ok (.tuple #[v, v2]) w := by
  have hp' : tmps[p]?.getD undef = .pointer (some ⟨b1, 0, none⟩) := by simpa using hp
  have hu' : tmps[u]?.getD undef = .pointer (some ⟨b2, 0, none⟩) := by simpa using hu
  simp [results, h, hp', hu', asAddr, h1, h2, Result.andThen]
theorem load3 {w : World} {B : Nat} {v : Value} (h : w.cell? ⟨B, 0, none⟩ = some v) : (loadVar 3 ⟨B, 0, none⟩).run Try.prog w = .ok v w := by
  have hagg : (isAgg 3).run Try.prog w = .ok false w := by simp [isAgg, go_sem]
  simp [loadVar, hagg, Result.andThen, go_sem, h]
theorem load4 {w : World} {B : Nat} {v : Value} (h : w.cell? ⟨B, 0, none⟩ = some v) : (loadVar 4 ⟨B, 0, none⟩).run Try.prog w = .ok v w := by
  have hagg : (isAgg 4).run Try.prog w = .ok false w := by simp [isAgg, go_sem]
  simp [loadVar, hagg, Result.andThen, go_sem, h]

set_option maxRecDepth 100000 in
set_option maxHeartbeats 4000000 in
theorem find_any (a0 a1 an : Option Addr) (n0 n1 c0 c1 b o b' o' nn cn bn on : Nat) (B C : Nat → Nat) (nm : Nat → ByteArray) (s : ByteArray) (w : World) (hm : s.size ≤ 9223372036854775807)
    (hT : Tab w a0 a1 n0 n1 c0 c1 b o b' o' B C) (hN : Names w an nn bn on nm) :
    Calls Try.prog 17 #[tbv (slv a0 n0 c0) (slv a1 n1 c1), .string s, .slice an nn cn] w fun e w' => e = .returned (.tuple #[.int .i64 (findF nm nn s (walkN B C n0 n1 s)).1, .bool (findF nm nn s (walkN B C n0 n1 s)).2]) ∧ Below w.heap.size w w' := by
  refine (callsIn_wide (n := 4)).1 ?_
  refine callsIn_of_wp_marks Try.func17 rfl trivial ?_ rfl
  simp only [Try.ntmps17, List.size_toArray, List.length_cons, List.length_nil, Nat.reduceAdd, Nat.reduceSub, Array.replicate_succ, Array.replicate_zero, List.push_toArray, List.append_toArray, List.nil_append, List.cons_append]
  have f15 : Fence.wide.fn 15 := trivial
  gi_wp2_with (gi_at_call 15; refine (walkv_in 3 _ _ _ _).mono ?_; rintro e w' ⟨rfl, rfl⟩)
  have hW : ∃ W0 : World, ((((((w.alloc (Obj.cells #[slv a0 n0 c0, slv a1 n1 c1] 25)).alloc (Obj.cells #[Value.string s] 9)).alloc (Obj.cells #[Value.slice an nn cn] 37)).alloc (Obj.cells #[Value.int IntKind.i64 0] 3)).alloc (Obj.cells #[Value.bool false] 4)).alloc (Obj.cells #[slv a0 n0 c0, slv a1 n1 c1] 25)).alloc (Obj.cells #[Value.string s] 9) = W0 ∧ W0.heap.size = w.heap.size + 7 ∧ Below w.heap.size w W0 ∧ Boxed W0 (w.heap.size + 1) 9 (.string s) ∧ Boxed W0 (w.heap.size + 1 + 1) 37 (.slice an nn cn) ∧ Boxed W0 (w.heap.size + 1 + 1 + 1) 3 (.int .i64 0) ∧ Boxed W0 (w.heap.size + 1 + 1 + 1 + 1) 4 (.bool false) ∧
      TabAt W0 (w.heap.size + 1 + 1 + 1 + 1 + 1) (w.heap.size + 1 + 1 + 1 + 1 + 1 + 1) s a0 a1 n0 n1 c0 c1 b o b' o' B C := by
    have hb0 : Below w.heap.size w (((((((w.alloc (Obj.cells #[slv a0 n0 c0, slv a1 n1 c1] 25)).alloc (Obj.cells #[Value.string s] 9)).alloc (Obj.cells #[Value.slice an nn cn] 37)).alloc (Obj.cells #[Value.int IntKind.i64 0] 3)).alloc (Obj.cells #[Value.bool false] 4)).alloc (Obj.cells #[slv a0 n0 c0, slv a1 n1 c1] 25)).alloc (Obj.cells #[Value.string s] 9)) := (((((((Below.refl _ w).alloc (Nat.le_refl _) _).alloc (by simp) _).alloc (by simp; omega) _).alloc (by simp; omega) _).alloc (by simp; omega) _).alloc (by simp; omega) _).alloc (by simp; omega) _
    refine ⟨_, rfl, by simp, hb0, ?_, ?_, ?_, ?_, ?_⟩
    · have h := (((((Boxed.new (w.alloc (Obj.cells #[slv a0 n0 c0, slv a1 n1 c1] 25)) 9 (.string s)).alloc (Obj.cells #[Value.slice an nn cn] 37)).alloc (Obj.cells #[Value.int IntKind.i64 0] 3)).alloc (Obj.cells #[Value.bool false] 4)).alloc (Obj.cells #[slv a0 n0 c0, slv a1 n1 c1] 25)).alloc (Obj.cells #[Value.string s] 9)
      simp only [World.size_alloc] at h
      exact h
    · have h := ((((Boxed.new ((w.alloc (Obj.cells #[slv a0 n0 c0, slv a1 n1 c1] 25)).alloc (Obj.cells #[Value.string s] 9)) 37 (.slice an nn cn)).alloc (Obj.cells #[Value.int IntKind.i64 0] 3)).alloc (Obj.cells #[Value.bool false] 4)).alloc (Obj.cells #[slv a0 n0 c0, slv a1 n1 c1] 25)).alloc (Obj.cells #[Value.string s] 9)
      simp only [World.size_alloc] at h
      exact h
    · have h := (((Boxed.new (((w.alloc (Obj.cells #[slv a0 n0 c0, slv a1 n1 c1] 25)).alloc (Obj.cells #[Value.string s] 9)).alloc (Obj.cells #[Value.slice an nn cn] 37)) 3 (.int .i64 0)).alloc (Obj.cells #[Value.bool false] 4)).alloc (Obj.cells #[slv a0 n0 c0, slv a1 n1 c1] 25)).alloc (Obj.cells #[Value.string s] 9)
      simp only [World.size_alloc] at h
      exact h
    · have h := ((Boxed.new ((((w.alloc (Obj.cells #[slv a0 n0 c0, slv a1 n1 c1] 25)).alloc (Obj.cells #[Value.string s] 9)).alloc (Obj.cells #[Value.slice an nn cn] 37)).alloc (Obj.cells #[Value.int IntKind.i64 0] 3)) 4 (.bool false)).alloc (Obj.cells #[slv a0 n0 c0, slv a1 n1 c1] 25)).alloc (Obj.cells #[Value.string s] 9)
      simp only [World.size_alloc] at h
      exact h
    · have ht := World.alloc_heap_new (((((w.alloc (Obj.cells #[slv a0 n0 c0, slv a1 n1 c1] 25)).alloc (Obj.cells #[Value.string s] 9)).alloc (Obj.cells #[Value.slice an nn cn] 37)).alloc (Obj.cells #[Value.int IntKind.i64 0] 3)).alloc (Obj.cells #[Value.bool false] 4)) (Obj.cells #[slv a0 n0 c0, slv a1 n1 c1] 25)
      have hs' := World.alloc_heap_new ((((((w.alloc (Obj.cells #[slv a0 n0 c0, slv a1 n1 c1] 25)).alloc (Obj.cells #[Value.string s] 9)).alloc (Obj.cells #[Value.slice an nn cn] 37)).alloc (Obj.cells #[Value.int IntKind.i64 0] 3)).alloc (Obj.cells #[Value.bool false] 4)).alloc (Obj.cells #[slv a0 n0 c0, slv a1 n1 c1] 25)) (Obj.cells #[Value.string s] 9)
      simp only [World.size_alloc] at ht hs'
      have ht2 := (Below.heap_alloc ((((((w.alloc (Obj.cells #[slv a0 n0 c0, slv a1 n1 c1] 25)).alloc (Obj.cells #[Value.string s] 9)).alloc (Obj.cells #[Value.slice an nn cn] 37)).alloc (Obj.cells #[Value.int IntKind.i64 0] 3)).alloc (Obj.cells #[Value.bool false] 4)).alloc (Obj.cells #[slv a0 n0 c0, slv a1 n1 c1] 25)) (Obj.cells #[Value.string s] 9) (w.heap.size + 1 + 1 + 1 + 1 + 1) (by simp)).trans ht
      refine ⟨?_, ?_, ?_, hT.e0, hT.e1, hT.rb.next hb0 hT.lb, hT.rc.next hb0 hT.lc, ?_, ?_⟩
      · simp only [World.cell?, ht2]; rfl
      · simp only [World.cell?, ht2]; rfl
      · simp only [World.cell?, hs']; rfl
      · have := hT.lb; simp; omega
      · have := hT.lc; simp; omega
  obtain ⟨W0, hW0, hsz, hB0, bS, bN, bR1, bR2, hTA⟩ := hW
  try simp only [World.size_alloc]
  rw [hW0]
  clear hW0
  have hlb := hT.lb
  have hlc := hT.lc
  refine wpIn_rangeFunc_ownH rfl (by omega) (gf := 45) (lb := #[.pointer (some ⟨w.heap.size + 1 + 1 + 1 + 1 + 1, 0, none⟩), .pointer (some ⟨w.heap.size + 1 + 1 + 1 + 1 + 1 + 1, 0, none⟩)]) rfl trivial (enters_of Try.func45 (by kernel_rfl) rfl)
    (walk_stops 3 (by omega) (w.heap.size + 1 + 1 + 1 + 1 + 1) (w.heap.size + 1 + 1 + 1 + 1 + 1 + 1) s a0 a1 n0 n1 c0 c1 b o b' o' B C hm hT.hn0 hT.hn1 hT.hc0 hT.hc1 hT.hB hT.hC W0 hTA) K4.trans
    (fun W l o1 o2 hl h hc hw => by
      have hB := belowK_b (n₀ := w.heap.size + 7) (w := W0) (by omega) W l o1 o2 hl h hc hw
      exact K4.of_below hB (by omega) (by omega) (by omega) (by omega)) (Below.refl _ _) (fun _ => rfl)
    (fun pre W => FI W0 nm nn s pre W)
    (fun c pre W => c = .ret ∧ FX w nm nn s pre W)
    (OwnFrom.and (ownFrom_pure _ _) (ownFrom_below (Nat.le_refl _) (Nat.le_refl _))) (fun c => OwnFrom.and (ownFrom_pure _ _) (FX_own w nm nn s _ (by omega)))
    ⟨(fun x hx => by cases hx), Below.refl _ _⟩
    (fun x a' W => a' = { tmps := #[tbv (slv a0 n0 c0) (slv a1 n1 c1), .string s, .slice an nn cn, .pointer (some ⟨w.heap.size, 0, none⟩), .pointer (some ⟨w.heap.size + 1, 0, none⟩), .pointer (some ⟨w.heap.size + 1 + 1, 0, none⟩), .pointer (some ⟨w.heap.size + 1 + 1 + 1, 0, none⟩), .pointer (some ⟨w.heap.size + 1 + 1 + 1 + 1, 0, none⟩), .int .i64 (x : Int), .agg #[slv a0 n0 c0, slv a1 n1 c1], .string s, .func (.func 45) #[] #[.pointer (some ⟨w.heap.size + 1 + 1 + 1 + 1 + 1, 0, none⟩), .pointer (some ⟨w.heap.size + 1 + 1 + 1 + 1 + 1 + 1, 0, none⟩)], .int .i64 (x : Int), undef, undef, undef, undef, undef, undef, undef, undef, undef, undef, undef, undef, undef], defers := [] })
    (fun x a' _ X Y row hs hg hr => hs)
    ?assign ?body ?done ?stop
  case assign =>
    rintro l pre x W K hI hK
    gi_wp2
    exact hK _ _ (KeepsFrom.refl _ _) (K4.refl _ _ _ _ _) hI rfl
  case body =>
    rintro l pre x a' W hl ⟨r, hr⟩ hI rfl hlt
    obtain ⟨hno, hB⟩ := hI
    have cN : W.cell? ⟨w.heap.size + 1 + 1, 0, none⟩ = some (.slice an nn cn) := (hB.cell (p := ⟨w.heap.size + 1 + 1, 0, none⟩) (by show w.heap.size + 1 + 1 < _; omega)).trans bN.cell
    have cS : W.cell? ⟨w.heap.size + 1, 0, none⟩ = some (.string s) := (hB.cell (p := ⟨w.heap.size + 1, 0, none⟩) (by show w.heap.size + 1 < _; omega)).trans bS.cell
    have HB : Hid (Below W0.heap.size W0 W) := hB
    have HNO : Hid (∀ x ∈ pre, hit nm nn s x = false) := hno
    have hx0 : (0 : Int) ≤ (x : Int) := by omega
    clear hB hno
    by_cases hin : x < nn
    · have hii : (x : Int) < (nn : Int) := by omega
      have eN : an = some ⟨bn, on, none⟩ := hN.en (by omega)
      subst eN
      have hbn := hN.ln (by omega)
      have c1 : W.cell? ⟨bn, on + x, none⟩ = some (.string (nm x)) := (HB.out.cell (p := ⟨bn, on + x, none⟩) (by show bn < _; omega)).trans ((hB0.cell (p := ⟨bn, on + x, none⟩) hbn).trans (hN.rn x hin))
      obtain ⟨t, ht⟩ : ∃ t, nm x = t := ⟨_, rfl⟩
      rw [ht] at c1
      have HT : Hid (nm x = t) := ht
      clear ht
      by_cases hts : t = s
      · subst hts
        have HH : Hid (hit nm nn t x = true) := by show _ = _; unfold hit; rw [HT.out]; simp [hin]
        have bR1' : Boxed W (w.heap.size + 1 + 1 + 1) 3 (.int .i64 0) := (HB.out.block _ (by omega)).trans bR1
        have bR2' : Boxed W (w.heap.size + 1 + 1 + 1 + 1) 4 (.bool false) := (HB.out.block _ (by omega)).trans bR2
        have r1 := bR1'.cell
        have g1 := bR1'.frozen
        have r2 := bR2'.cell
        have g2 := bR2'.frozen
        have e1 := teq t
        gi_wp2
        refine round_region (by kernel_rfl) (by kernel_rfl) (by kernel_rfl) ?_
        repeat (gi_big_quiet_step (fail))
        refine wpQuietIn_nil ?_
        intro _ hw'
        obtain ⟨nq, hw''⟩ := hw'
        subst hw''
        gi_wp2
        refine ⟨(((keepsOthers_drewN W nq).trans (KeepsOthers.setCell _ _ _)).trans (KeepsOthers.setCell _ _ _)).from _, rfl, pre, x, rfl, HNO.out, HH.out, ?_, ?_, ?_⟩
        · have h1 : Boxed (W.drewN nq) (w.heap.size + 1 + 1 + 1) 3 (.int .i64 0) := bR1'
          exact ((h1.set (.int .i64 (x : Int))).other (B' := w.heap.size + 1 + 1 + 1 + 1) (by omega) _).cell
        · have h1 : Boxed (W.drewN nq) (w.heap.size + 1 + 1 + 1 + 1) 4 (.bool false) := bR2'
          exact ((h1.other (B' := w.heap.size + 1 + 1 + 1) (by omega) _).set (.bool true)).cell
        · exact ((below_drewN (hB0.trans (HB.out.mono hB0.size)) nq).setCell (p := ⟨w.heap.size + 1 + 1 + 1, 0, none⟩) (by show w.heap.size ≤ w.heap.size + 1 + 1 + 1; omega) _).setCell (p := ⟨w.heap.size + 1 + 1 + 1 + 1, 0, none⟩) (by show w.heap.size ≤ w.heap.size + 1 + 1 + 1 + 1; omega) _
      · have HH : Hid (hit nm nn s x = false) := by show _ = _; unfold hit; rw [HT.out]; simp [hts]
        have e1 := tne hts
        gi_wp2
        refine round_region (by kernel_rfl) (by kernel_rfl) (by kernel_rfl) ?_
        repeat (gi_big_quiet_step (fail))
        refine wpQuietIn_nil ?_
        intro _ hw'
        obtain ⟨nq, hw''⟩ := hw'
        subst hw''
        gi_wp2
        refine ⟨(keepsOthers_drewN W nq).from _, ⟨rfl, rfl, rfl, rfl⟩, fun y hy => ?_, below_drewN HB.out nq⟩
        rcases List.mem_append.1 hy with hy | hy
        · exact HNO.out y hy
        · obtain rfl : y = x := by simpa using hy
          exact HH.out
    · have hii : ¬ (x : Int) < (nn : Int) := by omega
      have HH : Hid (hit nm nn s x = false) := by show _ = _; unfold hit; simp [hin]
      gi_wp2
      refine round_region (by kernel_rfl) (by kernel_rfl) (by kernel_rfl) ?_
      repeat (gi_big_quiet_step (fail))
      refine wpQuietIn_nil ?_
      intro _ hw'
      obtain ⟨nq, hw''⟩ := hw'
      subst hw''
      gi_wp2
      refine ⟨(keepsOthers_drewN W nq).from _, ⟨rfl, rfl, rfl, rfl⟩, fun y hy => ?_, below_drewN HB.out nq⟩
      rcases List.mem_append.1 hy with hy | hy
      · exact HNO.out y hy
      · obtain rfl : y = x := by simpa using hy
        exact HH.out
  case done =>
    rintro D ys W hD rfl ⟨hno, hB⟩ hK
    have HF : Hid (findF nm nn s (walkN B C n0 n1 s) = (0, false)) := findF_none nm nn s _ hno
    have bR1' : Boxed W (w.heap.size + 1 + 1 + 1) 3 (.int .i64 0) := (hB.block _ (by omega)).trans bR1
    have bR2' : Boxed W (w.heap.size + 1 + 1 + 1 + 1) 4 (.bool false) := (hB.block _ (by omega)).trans bR2
    have r1 := bR1'.cell
    have g1 := bR1'.frozen
    have r2 := bR2'.cell
    have g2 := bR2'.frozen
    have HB : Hid (Below w.heap.size w W) := hB0.trans (hB.mono hB0.size)
    have HK : Hid (W.heap[D]? = some (.deferred (some []))) := hK
    clear hB hno hK
    gi_wp2
    have hY : ∃ Y : World, (W.setCell ⟨w.heap.size + 1 + 1 + 1, 0, none⟩ (.int .i64 0)).setCell ⟨w.heap.size + 1 + 1 + 1 + 1, 0, none⟩ (.bool false) = Y ∧ Y.cell? ⟨w.heap.size + 1 + 1 + 1, 0, none⟩ = some (.int .i64 0) ∧ Y.cell? ⟨w.heap.size + 1 + 1 + 1 + 1, 0, none⟩ = some (.bool false) ∧ Y.heap[D]? = some (.deferred (some [])) ∧ Below w.heap.size w Y := by
      refine ⟨_, rfl, ((bR1'.set (.int .i64 0)).other (B' := w.heap.size + 1 + 1 + 1 + 1) (by omega) _).cell, ((bR2'.other (B' := w.heap.size + 1 + 1 + 1) (by omega) _).set (.bool false)).cell, ?_, ?_⟩
      · rw [Below.heap_setCell _ _ _ _ (by show D ≠ w.heap.size + 1 + 1 + 1 + 1; omega), Below.heap_setCell _ _ _ _ (by show D ≠ w.heap.size + 1 + 1 + 1; omega)]
        exact HK.out
      · exact (HB.out.setCell (p := ⟨w.heap.size + 1 + 1 + 1, 0, none⟩) (by show w.heap.size ≤ w.heap.size + 1 + 1 + 1; omega) _).setCell (p := ⟨w.heap.size + 1 + 1 + 1 + 1, 0, none⟩) (by show w.heap.size ≤ w.heap.size + 1 + 1 + 1 + 1; omega) _
    obtain ⟨Y, hY, y1, y2, y5, y6⟩ := hY
    rw [hY]
    have hbz := belowK_b (n₀ := w.heap.size + 7) (w := W0) (by omega) Y D _ (.deferred none) hD y5 rfl rfl
    refine ⟨by simp, .inl ⟨_, _, rfl, run_takeDeferred y5, ?_⟩⟩
    exact ⟨_, results_two_one (fn := Try.f17) rfl _ _ (w.heap.size + 1 + 1 + 1) (w.heap.size + 1 + 1 + 1 + 1) (.int .i64 0) (.bool false) rfl rfl (load3 ((hbz.cell (p := ⟨w.heap.size + 1 + 1 + 1, 0, none⟩) (by show w.heap.size + 1 + 1 + 1 < _; omega)).trans y1)) (load4 ((hbz.cell (p := ⟨w.heap.size + 1 + 1 + 1 + 1, 0, none⟩) (by show w.heap.size + 1 + 1 + 1 + 1 < _; omega)).trans y2)), by rw [HF.out], y6.trans (hbz.mono (by omega))⟩
  case stop =>
    rintro D c pre W hD hSp ⟨rfl, q, x, hpx, hq, hx, c1, c2, hB⟩ hK
    have HF : Hid (findF nm nn s (walkN B C n0 n1 s) = ((x : Int), true)) := by
      obtain ⟨r, hr⟩ := hSp
      rw [← hr, hpx]
      exact findF_some nm nn s q r x hq hx
    gi_wp2
    have hbz := belowK_b (n₀ := w.heap.size + 7) (w := W0) (by omega) W D _ (.deferred none) hD hK rfl rfl
    refine ⟨by simp, .inl ⟨_, _, rfl, run_takeDeferred hK, ?_⟩⟩
    exact ⟨_, results_two_one (fn := Try.f17) rfl _ _ (w.heap.size + 1 + 1 + 1) (w.heap.size + 1 + 1 + 1 + 1) (.int .i64 (x : Int)) (.bool true) rfl rfl (load3 ((hbz.cell (p := ⟨w.heap.size + 1 + 1 + 1, 0, none⟩) (by show w.heap.size + 1 + 1 + 1 < _; omega)).trans c1)) (load4 ((hbz.cell (p := ⟨w.heap.size + 1 + 1 + 1 + 1, 0, none⟩) (by show w.heap.size + 1 + 1 + 1 + 1 < _; omega)).trans c2)), by rw [HF.out], hB.trans (hbz.mono (by omega))⟩
end Go.Proofs.Ytffmkkfacemchaa
