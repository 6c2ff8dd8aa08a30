/-
  Layer 11: Read of any bytes.
-/
import Derived.Test.YtnlpncgblegbkaaS2
import Derived.Test.YtnlpncgblegbkaaE1
import Derived.Maps.AppendAt
namespace Go.Proofs.Ytnlpncgblegbkaa
open Go.RowKit Go.Shelf
set_option linter.unusedVariables false
attribute [local go_sem] Oper.semAt_some

abbrev Pt := Nat × ByteArray

theorem obj_own {β : Type} (B : Nat) (o : β → Obj) (h : ∀ s, (o s).isCells = true) : Own (fun s W => W.heap[B]? = some (o s)) := fun s X Y row hs hg hrow =>
  (hg.block B (Array.getElem?_eq_some_iff.1 hs).1 (fun e => by obtain ⟨o', ho, hc⟩ := hrow B e.symm; rw [hs] at ho; cases ho; rw [h] at hc; cases hc)).trans hs

/-- A block of another type is not the row's. -/
theorem obj_not_row {W : World} {B : Nat} {cs : Array Value} {t e : TypeId} {fr : Nat × Nat} (h : W.heap[B]? = some (.cells cs t fr)) (hte : t ≠ e) {base size k : Nat} {v : Value} {xs : List Value} (hr : W.ownsRow base e size v k xs) : some B ≠ v.ownBlock := by
  intro e1
  rcases hr.2 with ⟨rfl, _⟩ | ⟨g, cap, cur, rfl, _, hgb, _⟩
  · simp [Value.ownBlock] at e1
  · obtain rfl : B = g := by simpa [Value.ownBlock] using e1
    rw [h] at hgb
    cases hgb
    exact hte rfl

theorem ownsRow_slice {W : World} {base k size : Nat} {e : TypeId} {v : Value} {xs : List Value} (h : W.ownsRow base e size v k xs) : ∃ a n c, v = .slice a n c := by
  rcases h.2 with ⟨rfl, _⟩ | ⟨g, cap, cur, rfl, _⟩
  · exact ⟨_, _, _, rfl⟩
  · exact ⟨_, _, _, rfl⟩
theorem keepsOthers_drewN (W : World) (n : Nat) : KeepsOthers W (W.drewN n) := ⟨Nat.le_refl _, fun _ _ h _ => h⟩
theorem grownBy_setAt (W : World) (B j : Nat) (u : Value) : W.grownBy (W.setCell ⟨B, j, none⟩ u) (some B) := ⟨rfl, rfl, rfl, by simp, fun q hq hne => Below.heap_setCell _ _ _ _ (fun e => hne (by rw [e]))⟩

theorem set3_cells {X : World} {B : Nat} {u0 u1 u2 : Value} (v0 v1 v2 : Value) (h0 : X.cell? ⟨B, 0, none⟩ = some u0) (h1 : X.cell? ⟨B, 1, none⟩ = some u1) (h2 : X.cell? ⟨B, 2, none⟩ = some u2) :
    (((X.setCell ⟨B, 0, none⟩ v0).setCell ⟨B, 1, none⟩ v1).setCell ⟨B, 2, none⟩ v2).cell? ⟨B, 0, none⟩ = some v0 ∧ (((X.setCell ⟨B, 0, none⟩ v0).setCell ⟨B, 1, none⟩ v1).setCell ⟨B, 2, none⟩ v2).cell? ⟨B, 1, none⟩ = some v1 ∧ (((X.setCell ⟨B, 0, none⟩ v0).setCell ⟨B, 1, none⟩ v1).setCell ⟨B, 2, none⟩ v2).cell? ⟨B, 2, none⟩ = some v2 := by
  refine ⟨?_, ?_, ?_⟩ <;> simp [go_sem, h0, h1, h2]
theorem cell_alloc2 {Y : World} {a : Addr} {v : Value} (o1 o2 : Obj) (h : Y.cell? a = some v) : ((Y.alloc o1).alloc o2).cell? a = some v :=
  have hl := World.block_lt_of_cell? _ _ h
  have hb : Below Y.heap.size Y ((Y.alloc o1).alloc o2) := ((Below.refl _ Y).alloc (Nat.le_refl _) _).alloc (by simp) _
  (hb.cell hl).trans h

theorem results_two_cells {P : Program} {fn : Func} {p u : Tmp} {t1 t2 : TypeId} (h : fn.results = #[.cell p t1, .cell u t2]) (tmps : Array Value) (w : World) (b1 b2 : Nat) (v : Value) (cs : List Value) (d : TypeDesc)
    (hp : tmps.getD p undef = .pointer (some ⟨b1, 0, none⟩)) (hu : tmps.getD u undef = .pointer (some ⟨b2, 0, none⟩))
    (h1 : (loadVar t1 ⟨b1, 0, none⟩).run P w = .ok v w) (hc : w.rangeAt b2 0 cs) (hud : P.underlying t2 = some d) (hd : d.isRow = true) (hi : (P.info? t2).map (·.size) = some cs.length) :
    (results fn tmps).run P w = .ok (.tuple #[v, .agg cs.toArray]) w := by
  have hp' : tmps[p]?.getD undef = .pointer (some ⟨b1, 0, none⟩) := by simpa using hp
  have hu' : tmps[u]?.getD undef = .pointer (some ⟨b2, 0, none⟩) := by simpa using hu
  simp [results, h, hp', hu', asAddr, h1, run_loadVar_mid w b2 0 t2 cs d hc hud hd hi, Result.andThen]

theorem load_slice {w : World} {B : Nat} {v : Value} (h : w.cell? ⟨B, 0, none⟩ = some v) : (loadVar 23 ⟨B, 0, none⟩).run Try.prog w = .ok v w := by
  have hagg : (isAgg 23).run Try.prog w = .ok false w := by
    simp [isAgg, go_sem]
  simp [loadVar, Sem.run_bind, hagg, Result.andThen, go_sem, h]
end Go.Proofs.Ytnlpncgblegbkaa
