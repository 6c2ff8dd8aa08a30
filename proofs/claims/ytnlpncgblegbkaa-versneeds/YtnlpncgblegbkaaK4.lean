/-
  Layer 12: Needs of any bytes.
-/
import Derived.Test.YtnlpncgblegbkaaK0
import Derived.RangeFuncNested
import Derived.Outline
namespace Go.Proofs.Ytnlpncgblegbkaa
open Go.RowKit Go.Shelf
set_option linter.unusedVariables false
attribute [local go_sem] Oper.semAt_some

/-- The boxes of Needs that don't turn. -/
def NB (w : World) (b names : ByteArray) (W : World) : Prop :=
  (Boxed W (w.heap.size + 1 + 1 + 1 + 1 + 1) 9 (.string b) ∧ Boxed W (w.heap.size + 1 + 1 + 1 + 1 + 1 + 1 + 1) 28 (.int .u64 16)) ∧ (Boxed W w.heap.size 9 (.string b) ∧ Boxed W (w.heap.size + 1) 9 (.string names)) ∧ Boxed W (w.heap.size + 1 + 1) 40 (.slice none 0 0) ∧ W.heap[w.heap.size + 1 + 1 + 1]? = some (.cells #[.int .i64 0, .int .u64 0, .string ⟨#[]⟩] 30 (0, 0))
def NI (w : World) (b names : ByteArray) (r : Rn) (W : World) : Prop :=
  (∃ v, Boxed W (w.heap.size + 1 + 1 + 1 + 1) 40 v ∧ W.ownsRow w.heap.size 48 4 v r.acc.length (ndC r.acc) ∧ True) ∧ NB w b names W ∧ r.good ∧ Below w.heap.size w W
/-- .. and where it ends early. -/
def NX (w : World) (r : Rn) (W : World) : Prop :=
  ∃ c p, r = .error (c, p) ∧ Boxed W (w.heap.size + 1 + 1) 40 (.slice none 0 0) ∧
    (W.cell? ⟨w.heap.size + 1 + 1 + 1, 0, none⟩ = some (.int .i64 c) ∧ W.cell? ⟨w.heap.size + 1 + 1 + 1, 1, none⟩ = some (.int .u64 (p : Int)) ∧ W.cell? ⟨w.heap.size + 1 + 1 + 1, 2, none⟩ = some (.string ⟨#[]⟩)) ∧ Below w.heap.size w W

theorem NB_own {β : Type} (w : World) (b names : ByteArray) (B : Nat) : OwnFrom B (fun (_ : β) W => NB w b names W) :=
  OwnFrom.and (OwnFrom.and (Own.from (boxed_own _ _ _) _) (Own.from (boxed_own _ _ _) _)) (OwnFrom.and (OwnFrom.and (Own.from (boxed_own _ _ _) _) (Own.from (boxed_own _ _ _) _)) (OwnFrom.and (Own.from (boxed_own _ _ _) _) (Own.from (obj_own _ (fun _ : β => Obj.cells #[.int .i64 0, .int .u64 0, .string ⟨#[]⟩] 30 (0, 0)) (fun _ => rfl)) _)))
theorem NI_own {β : Type} (w : World) (b names : ByteArray) (f : β → Rn) (B : Nat) (hB : w.heap.size ≤ B) : OwnFrom B (fun s W => NI w b names (f s) W) :=
  OwnFrom.and (Own.from (holdsRow_own w.heap.size (w.heap.size + 1 + 1 + 1 + 1) 40 48 4 (fun s : β => (f s).acc.length) (fun s => ndC (f s).acc) (fun _ _ => True)) _)
    (OwnFrom.and (NB_own w b names B) (OwnFrom.and (ownFrom_pure _ _) (ownFrom_below (Nat.le_refl _) hB)))
theorem NX_own {β : Type} (w : World) (f : β → Rn) (B : Nat) (hB : w.heap.size ≤ B) : OwnFrom B (fun s W => NX w (f s) W) := fun s X Y row hs hg hr => by
  obtain ⟨c, p, h3, h4, ⟨c0, c1, c2⟩, h6⟩ := hs
  have hr' := fun r e => (hr r e).2
  exact ⟨c, p, h3, (Own.from (boxed_own (β := Unit) (w.heap.size + 1 + 1) 40 (fun _ => .slice none 0 0)) B) () X Y row h4 hg hr, ⟨cell_kept c0 hg hr', cell_kept c1 hg hr', cell_kept c2 hg hr'⟩, (ownFrom_below (β := Unit) (Nat.le_refl _) hB) () X Y row h6 hg hr⟩

theorem Try.info48 : (Try.prog.info? 48).map (fun i => (i.zero, i.size, i.bytes)) = some (some Nd.zero.val, 4, 48) := by kernel_rfl

/-- What Needs answers. -/
def NeedsPost (w : World) (b names : ByteArray) (n : Nat) (e : Ending) (w' : World) : Prop :=
  ((∃ l v, runO b names [] (ptsL b 16 n 0) = .ok l ∧ e = .returned (.tuple #[v, flt 0 0]) ∧ w'.ownsRow w.heap.size 48 4 v l.length (ndC l) ∧ l.length ≤ 64) ∨
   (∃ c p, runO b names [] (ptsL b 16 n 0) = .error (c, p) ∧ e = .returned (.tuple #[.slice none 0 0, flt c (p : Int)]))) ∧
  Below w.heap.size w w'


/-- What the boxes tell of a later world. -/
theorem nb_facts {w X W2 : World} {b names : ByteArray} (h : NB w b names X) (h2 : Below X.heap.size X W2) :
    (W2.cell? ⟨w.heap.size + 1 + 1, 0, none⟩ = some (.slice none 0 0) ∧ W2.frozen? ⟨w.heap.size + 1 + 1, 0, none⟩ = false ∧ w.heap.size + 1 + 1 < W2.heap.size) ∧
    (W2.cell? ⟨w.heap.size + 1 + 1 + 1, 0, none⟩ = some (.int .i64 0) ∧ W2.cell? ⟨w.heap.size + 1 + 1 + 1, 1, none⟩ = some (.int .u64 0) ∧ W2.cell? ⟨w.heap.size + 1 + 1 + 1, 2, none⟩ = some (.string ⟨#[]⟩)) ∧
    (W2.frozen? ⟨w.heap.size + 1 + 1 + 1, 0, none⟩ = false ∧ W2.frozen? ⟨w.heap.size + 1 + 1 + 1, 1, none⟩ = false ∧ W2.frozen? ⟨w.heap.size + 1 + 1 + 1, 2, none⟩ = false ∧ w.heap.size + 1 + 1 + 1 < W2.heap.size) := by
  obtain ⟨_, _, bR, bF⟩ := h
  have lR := bR.lt
  have lF : w.heap.size + 1 + 1 + 1 < X.heap.size := (Array.getElem?_eq_some_iff.1 bF).1
  have bR2 : Boxed W2 (w.heap.size + 1 + 1) 40 (.slice none 0 0) := (h2.block _ lR).trans bR
  have bF2 : W2.heap[w.heap.size + 1 + 1 + 1]? = some (.cells #[.int .i64 0, .int .u64 0, .string ⟨#[]⟩] 30 (0, 0)) := (h2.block _ lF).trans bF
  refine ⟨⟨bR2.cell, bR2.frozen, bR2.lt⟩, ⟨?_, ?_, ?_⟩, ?_, ?_, ?_, (Array.getElem?_eq_some_iff.1 bF2).1⟩
  all_goals simp [World.cell?, World.frozen?, bF2]

theorem keeps_mono {A B : Nat} {W W' : World} (h : KeepsFrom A W W') (hAB : A ≤ B) : KeepsFrom B W W' := ⟨h.size, fun k o hk => h.same k o (Nat.le_trans hAB hk)⟩
theorem slice_len {W : World} {base e size n k c : Nat} {a : Option Addr} {xs : List Value} (h : W.ownsRow base e size (.slice a n c) k xs) : n = k := by
  rcases h.2 with ⟨e1, h1⟩ | ⟨g, cap, cur, e1, _⟩
  · cases e1; exact h1.symm
  · cases e1; rfl

/-- Something is wrong: what is left behind. -/
theorem err_close {w X W2 V : World} {b names : ByteArray} {B0 : Nat} {A B : Obj} (c : Int) (p : Nat) (h : NB w b names X) (hB : Below w.heap.size w X) (h2 : Below X.heap.size X W2) (k2 : KeepsOthers X W2)
    (hV : V = (((((W2.setCell ⟨w.heap.size + 1 + 1, 0, none⟩ (.slice none 0 0)).setCell ⟨w.heap.size + 1 + 1 + 1, 0, none⟩ (.int .i64 c)).setCell ⟨w.heap.size + 1 + 1 + 1, 1, none⟩ (.int .u64 (p : Int))).setCell ⟨w.heap.size + 1 + 1 + 1, 2, none⟩ (.string ⟨#[]⟩)).alloc A).alloc B) :
    KeepsFrom B0 X V ∧ Boxed V (w.heap.size + 1 + 1) 40 (.slice none 0 0) ∧
    (V.cell? ⟨w.heap.size + 1 + 1 + 1, 0, none⟩ = some (.int .i64 c) ∧ V.cell? ⟨w.heap.size + 1 + 1 + 1, 1, none⟩ = some (.int .u64 (p : Int)) ∧ V.cell? ⟨w.heap.size + 1 + 1 + 1, 2, none⟩ = some (.string ⟨#[]⟩)) ∧ Below w.heap.size w V := by
  obtain ⟨⟨cR, fR, lR⟩, ⟨cF0, cF1, cF2⟩, _⟩ := nb_facts h h2
  have bR : Boxed W2 (w.heap.size + 1 + 1) 40 (.slice none 0 0) := (h2.block _ h.2.2.1.lt).trans h.2.2.1
  have hB2 : Below w.heap.size w W2 := hB.trans (h2.mono hB.size)
  subst hV
  refine ⟨?_, ?_, ?_, ?_⟩
  · exact (((((((k2.trans (KeepsOthers.setCell _ _ _)).trans (KeepsOthers.setCell _ _ _)).trans (KeepsOthers.setCell _ _ _)).trans (KeepsOthers.setCell _ _ _)).trans (KeepsOthers.alloc _ _)).trans (KeepsOthers.alloc _ _))).from _
  · exact (((((bR.set (.slice none 0 0)).other (B' := w.heap.size + 1 + 1 + 1) (by omega) _).kept (grownBy_setAt _ _ 1 _) (by simp)).kept (grownBy_setAt _ _ 2 _) (by simp)).alloc _).alloc _
  · have x0 : ∀ j v, W2.cell? ⟨w.heap.size + 1 + 1 + 1, j, none⟩ = some v → (W2.setCell ⟨w.heap.size + 1 + 1, 0, none⟩ (.slice none 0 0)).cell? ⟨w.heap.size + 1 + 1 + 1, j, none⟩ = some v := fun j v hv =>
      (World.cell?_of_block (a := ⟨w.heap.size + 1 + 1 + 1, j, none⟩) (Below.heap_setCell _ _ _ _ (by show w.heap.size + 1 + 1 + 1 ≠ w.heap.size + 1 + 1; omega))).trans hv
    have x1 := set3_cells (.int .i64 c) (.int .u64 (p : Int)) (.string ⟨#[]⟩) (x0 0 _ cF0) (x0 1 _ cF1) (x0 2 _ cF2)
    exact ⟨cell_alloc2 _ _ x1.1, cell_alloc2 _ _ x1.2.1, cell_alloc2 _ _ x1.2.2⟩
  · have h3 := (((hB2.setCell (p := ⟨w.heap.size + 1 + 1, 0, none⟩) (by show w.heap.size ≤ w.heap.size + 1 + 1; omega) (.slice none 0 0)).setCell (p := ⟨w.heap.size + 1 + 1 + 1, 0, none⟩) (by show w.heap.size ≤ w.heap.size + 1 + 1 + 1; omega) (.int .i64 c)).setCell (p := ⟨w.heap.size + 1 + 1 + 1, 1, none⟩) (by show w.heap.size ≤ w.heap.size + 1 + 1 + 1; omega) (.int .u64 (p : Int))).setCell (p := ⟨w.heap.size + 1 + 1 + 1, 2, none⟩) (by show w.heap.size ≤ w.heap.size + 1 + 1 + 1; omega) (.string ⟨#[]⟩)
    exact (h3.alloc h3.size _).alloc (h3.alloc h3.size _).size _

theorem nd_new (W2 : World) (x : Nd) : ∀ (j : Nat) (u : Value), x.cells[j]? = some u → ((W2.alloc (.cells #[.int .i64 x.n, .string x.file, .string x.name, .bool x.weak] 48)).alloc (.cells #[.int .i64 x.n, .string x.file, .string x.name, .bool x.weak] 48)).cell? ((⟨W2.heap.size + 1, 0, none⟩ : Addr).add j) = some u := by
  intro j u hu
  match j, hu with
  | 0, hu => simp [Nd.cells] at hu; subst hu; simp [go_sem]
  | 1, hu => simp [Nd.cells] at hu; subst hu; simp [go_sem]
  | 2, hu => simp [Nd.cells] at hu; subst hu; simp [go_sem]
  | 3, hu => simp [Nd.cells] at hu; subst hu; simp [go_sem]
  | j + 4, hu => simp [Nd.cells] at hu
theorem nd_one (x : Nd) : ∀ u ∈ x.cells, u.oneCell' = true := by
  intro u hu
  simp [Nd.cells] at hu
  rcases hu with rfl | rfl | rfl | rfl <;> rfl

/-- One version more: what is left behind. -/
theorem app_close {w X W2 w1 : World} {b names : ByteArray} {B0 k : Nat} {v v' : Value} {xs ys : List Value} {A B : Obj} (h : NB w b names X) (hB : Below w.heap.size w X) (h2 : Below X.heap.size X W2) (k2 : KeepsOthers X W2)
    (bv : Boxed X (w.heap.size + 1 + 1 + 1 + 1) 40 v) (hrow : W2.ownsRow w.heap.size 48 4 v k xs) (hown : w1.ownsRow w.heap.size 48 4 v' (k + 1) ys) (hg : ((W2.alloc A).alloc B).grownBy w1 v.ownBlock) :
    (Boxed w1 (w.heap.size + 1 + 1 + 1 + 1) 40 v) ∧ (Boxed (w1.setCell ⟨w.heap.size + 1 + 1 + 1 + 1, 0, none⟩ v') (w.heap.size + 1 + 1 + 1 + 1) 40 v' ∧ (w1.setCell ⟨w.heap.size + 1 + 1 + 1 + 1, 0, none⟩ v').ownsRow w.heap.size 48 4 v' (k + 1) ys) ∧ NB w b names (w1.setCell ⟨w.heap.size + 1 + 1 + 1 + 1, 0, none⟩ v') ∧
    (∀ (q : Nat) (cs : Array Value) (t : TypeId), X.heap[q]? = some (.cells cs t (0, 0)) → t ≠ 48 → q ≠ w.heap.size + 1 + 1 + 1 + 1 → (w1.setCell ⟨w.heap.size + 1 + 1 + 1 + 1, 0, none⟩ v').heap[q]? = some (.cells cs t (0, 0))) ∧
    KeepsFrom B0 X (w1.setCell ⟨w.heap.size + 1 + 1 + 1 + 1, 0, none⟩ v') ∧ Below w.heap.size w (w1.setCell ⟨w.heap.size + 1 + 1 + 1 + 1, 0, none⟩ v') := by
  have hX := hB.size
  have h2s := h2.size
  have hv3 : Boxed (W2.alloc A) (w.heap.size + 1 + 1 + 1 + 1) 40 v := by
    have e : Boxed W2 (w.heap.size + 1 + 1 + 1 + 1) 40 v := (h2.block _ bv.lt).trans bv
    exact e.alloc A
  have hr3 : (W2.alloc A).ownsRow w.heap.size 48 4 v k xs := hrow.alloc A
  obtain ⟨a1, a2, a3, a4, a5⟩ := hv3.appended (by decide) hr3 (by simp; omega) (by omega) hown hg
  have keep : ∀ (q : Nat) (cs : Array Value) (t : TypeId), X.heap[q]? = some (.cells cs t (0, 0)) → t ≠ 48 → q ≠ w.heap.size + 1 + 1 + 1 + 1 → (w1.setCell ⟨w.heap.size + 1 + 1 + 1 + 1, 0, none⟩ v').heap[q]? = some (.cells cs t (0, 0)) := by
    intro q cs t e1 e2 e3
    have hlt := (Array.getElem?_eq_some_iff.1 e1).1
    have f1 := (h2.block q hlt).trans e1
    have f2 := (Below.heap_alloc W2 A q (Array.getElem?_eq_some_iff.1 f1).1).trans f1
    have f3 := (Below.heap_alloc _ B q (Array.getElem?_eq_some_iff.1 f2).1).trans f2
    exact (Below.heap_setCell _ _ _ _ e3).trans ((hg.block q (Array.getElem?_eq_some_iff.1 f3).1 (obj_not_row f3 e2 (hr3.alloc B))).trans f3)
  obtain ⟨⟨bS, bZ⟩, ⟨bB, bN⟩, bR, bF⟩ := h
  refine ⟨a1, ⟨a2, a3⟩, ⟨⟨keep _ _ _ bS (by decide) (by omega), keep _ _ _ bZ (by decide) (by omega)⟩, ⟨keep _ _ _ bB (by decide) (by omega), keep _ _ _ bN (by decide) (by omega)⟩, keep _ _ _ bR (by decide) (by omega), keep _ _ _ bF (by decide) (by omega)⟩, keep, ((k2.trans (KeepsOthers.alloc _ _)).trans a4).from _, ?_⟩
  have e5 : Below w.heap.size X (W2.alloc A) := (h2.mono hX).alloc (Nat.le_trans hX h2s) A
  exact hB.trans (e5.trans a5)
end Go.Proofs.Ytnlpncgblegbkaa
