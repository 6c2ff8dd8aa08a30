/-
  Marks of loops over a function that were left, one for each round of a loop around them. No condition.
-/
import Derived.Test.YtffmkkfacemchaaW2
namespace Go.Proofs.Ytffmkkfacemchaa
open Go.RowKit Go.Sort
set_option linter.unusedVariables false

/-- The deferred calls that the marks are. -/
def marks (L : List Nat) : List Deferred := L.map fun D => { target := .collected D, args := #[] }
/-- They lie in w from B on, falling, below n. -/
def MarksIn (B : Nat) (w : World) : Nat → List Nat → Prop
  | _, [] => True
  | n, D :: L => B ≤ D ∧ D < n ∧ w.heap[D]? = some (.deferred (some [])) ∧ MarksIn B w D L
theorem MarksIn.keep {B : Nat} {w w' : World} : ∀ {n : Nat} {L : List Nat}, MarksIn B w n L → (∀ k, k < n → B ≤ k → w.heap[k]? = some (.deferred (some [])) → w'.heap[k]? = some (.deferred (some []))) → MarksIn B w' n L
  | _, [], _, _ => trivial
  | n, D :: L, ⟨h1, h2, h3, h4⟩, hk => ⟨h1, h2, hk D h2 h1 h3, h4.keep fun k hk1 hk2 hk3 => hk k (Nat.lt_trans hk1 h2) hk2 hk3⟩
theorem MarksIn.mono {B : Nat} {w : World} : ∀ {n m : Nat} {L : List Nat}, MarksIn B w n L → n ≤ m → MarksIn B w m L
  | _, _, [], _, _ => trivial
  | n, m, D :: L, ⟨h1, h2, h3, h4⟩, h => ⟨h1, Nat.lt_of_lt_of_le h2 h, h3, h4⟩
theorem MarksIn.below {B n : Nat} {w w' : World} {L : List Nat} (h : MarksIn B w n L) (hb : Below n w w') : MarksIn B w' n L :=
  h.keep fun k hk _ ho => (hb.block k hk).trans ho

/-- A function is left with its marks. -/
theorem leaves_marks {P : Program} {F : Fence} {rm : Nat} {fn : Func} {tmps : Array Value} {R : Ending → World → Prop} {B : Nat} {v : Value} (hres : ∀ w, (results fn tmps).run P w = .ok v w) :
    ∀ (L : List Nat) (n : Nat) (w w0 : World), MarksIn B w n L → n ≤ w.heap.size → Below B w0 w → (∀ w', Below B w0 w' → R (.returned v) w') → B ≤ w.heap.size → LeavesInM F rm P fn tmps R (marks L) .returning w
  | [], n, w, w0, h, hn, hb, hR, hB => ⟨v, hres w, hR w hb⟩
  | D :: L, n, w, w0, ⟨h1, h2, h3, h4⟩, hn, hb, hR, hB => by
    refine ⟨by simp, .inl ⟨D, _, rfl, run_takeDeferred h3, ?_⟩⟩
    have hs : (w.putObj D (.deferred none)).heap.size = w.heap.size := by simp [World.putObj]
    refine leaves_marks hres L D _ w0 (h4.keep fun k hk _ ho => (World.putObj_heap_other (by omega)).trans ho) (by rw [hs]; omega) (hb.trans ((Below.refl B w).grown (grownBy_putObj' w D (.deferred none)) (by have := (Array.getElem?_eq_some_iff.1 h3).1; omega) (fun k e => by cases e; omega))) hR (by rw [hs]; exact hB)
end Go.Proofs.Ytffmkkfacemchaa
