/-
  The walk of the statement FailApart of layer 2: for any two arrays of three numbers it returns true and changes no cell that was there. Condition: the package variables that it reads (Tabs).
-/
import Derived.Test.YtonaanedeldhmabDoorApart
import Derived.Test.YtonaanedeldhmabDoorTie
import Derived.Test.YtonaanedeldhmabDoorCards
import Derived.WalkKit
import Derived.ProofKit
import Derived.OpenShut
import Derived.LaidMore
import Derived.Lay
import Derived.SevenTiedAt
import Derived.Stop.Joined
import Derived.ChangeOld
import Derived.Below
import Derived.Deep.RegionHeld3
import Derived.Deep.DrawnRows
import Derived.Deep.DeepCutAuto
namespace Go.Proofs.YtonaanedeldhmabDoor.failApart
open Go.ChangeShapes Go.WideShapes Go.ChangeAt Go.RowKit
set_option linter.unusedVariables false
attribute [local go_sem ↓] Go.wp_at_zero Go.wp_at_succ

/-- What holds of the boxes at every step. -/
theorem ab_next {w0 W w' : World} {x y : Nat} {a0 a1 a2 b0 b1 b2 : Int} (hb : Below W.heap.size W w') (h : W.cell? ⟨x, 0, none⟩ = some (.int .i64 a0) ∧ W.cell? ⟨x, 1, none⟩ = some (.int .i64 a1) ∧ W.cell? ⟨x, 2, none⟩ = some (.int .i64 a2) ∧ W.cell? ⟨y, 0, none⟩ = some (.int .i64 b0) ∧ W.cell? ⟨y, 1, none⟩ = some (.int .i64 b1) ∧ W.cell? ⟨y, 2, none⟩ = some (.int .i64 b2) ∧ x < W.heap.size ∧ y < W.heap.size ∧ Tabs W ∧ Below w0.heap.size w0 W) :
    w'.cell? ⟨x, 0, none⟩ = some (.int .i64 a0) ∧ w'.cell? ⟨x, 1, none⟩ = some (.int .i64 a1) ∧ w'.cell? ⟨x, 2, none⟩ = some (.int .i64 a2) ∧ w'.cell? ⟨y, 0, none⟩ = some (.int .i64 b0) ∧ w'.cell? ⟨y, 1, none⟩ = some (.int .i64 b1) ∧ w'.cell? ⟨y, 2, none⟩ = some (.int .i64 b2) ∧ x < w'.heap.size ∧ y < w'.heap.size ∧ Tabs w' ∧ Below w0.heap.size w0 w' := by
  obtain ⟨h1, h2, h3, h4, h5, h6, h7, h8, h9, h10⟩ := h
  obtain ⟨hc, _⟩ := bcell hb
  exact ⟨(hc x 0 h7).trans h1, (hc x 1 h7).trans h2, (hc x 2 h7).trans h3, (hc y 0 h8).trans h4, (hc y 1 h8).trans h5, (hc y 2 h8).trans h6, Nat.lt_of_lt_of_le h7 hb.size, Nat.lt_of_lt_of_le h8 hb.size, h9.next hb, bt h10 hb⟩

theorem ab_alloc {w0 W : World} {x y : Nat} {a0 a1 a2 b0 b1 b2 : Int} (o : Obj) (h : W.cell? ⟨x, 0, none⟩ = some (.int .i64 a0) ∧ W.cell? ⟨x, 1, none⟩ = some (.int .i64 a1) ∧ W.cell? ⟨x, 2, none⟩ = some (.int .i64 a2) ∧ W.cell? ⟨y, 0, none⟩ = some (.int .i64 b0) ∧ W.cell? ⟨y, 1, none⟩ = some (.int .i64 b1) ∧ W.cell? ⟨y, 2, none⟩ = some (.int .i64 b2) ∧ x < W.heap.size ∧ y < W.heap.size ∧ Tabs W ∧ Below w0.heap.size w0 W) :
    (W.alloc o).cell? ⟨x, 0, none⟩ = some (.int .i64 a0) ∧ (W.alloc o).cell? ⟨x, 1, none⟩ = some (.int .i64 a1) ∧ (W.alloc o).cell? ⟨x, 2, none⟩ = some (.int .i64 a2) ∧ (W.alloc o).cell? ⟨y, 0, none⟩ = some (.int .i64 b0) ∧ (W.alloc o).cell? ⟨y, 1, none⟩ = some (.int .i64 b1) ∧ (W.alloc o).cell? ⟨y, 2, none⟩ = some (.int .i64 b2) ∧ x < (W.alloc o).heap.size ∧ y < (W.alloc o).heap.size ∧ Tabs (W.alloc o) ∧ Below w0.heap.size w0 (W.alloc o) :=
  ab_next (by go_grown) h

theorem ab_allocd {w0 W : World} {x y : Nat} {a0 a1 a2 b0 b1 b2 : Int} (o : Obj) (h : W.drew.cell? ⟨x, 0, none⟩ = some (.int .i64 a0) ∧ W.drew.cell? ⟨x, 1, none⟩ = some (.int .i64 a1) ∧ W.drew.cell? ⟨x, 2, none⟩ = some (.int .i64 a2) ∧ W.drew.cell? ⟨y, 0, none⟩ = some (.int .i64 b0) ∧ W.drew.cell? ⟨y, 1, none⟩ = some (.int .i64 b1) ∧ W.drew.cell? ⟨y, 2, none⟩ = some (.int .i64 b2) ∧ x < W.drew.heap.size ∧ y < W.drew.heap.size ∧ Tabs W.drew ∧ Below w0.heap.size w0 W.drew) :
    (W.alloc o).drew.cell? ⟨x, 0, none⟩ = some (.int .i64 a0) ∧ (W.alloc o).drew.cell? ⟨x, 1, none⟩ = some (.int .i64 a1) ∧ (W.alloc o).drew.cell? ⟨x, 2, none⟩ = some (.int .i64 a2) ∧ (W.alloc o).drew.cell? ⟨y, 0, none⟩ = some (.int .i64 b0) ∧ (W.alloc o).drew.cell? ⟨y, 1, none⟩ = some (.int .i64 b1) ∧ (W.alloc o).drew.cell? ⟨y, 2, none⟩ = some (.int .i64 b2) ∧ x < (W.alloc o).drew.heap.size ∧ y < (W.alloc o).drew.heap.size ∧ Tabs (W.alloc o).drew ∧ Below w0.heap.size w0 (W.alloc o).drew :=
  ab_next (W := W.drew) ((Below.refl _ W.drew).alloc (Nat.le_refl _) o) h

theorem ab_set {w0 W : World} {x y g i : Nat} {a0 a1 a2 b0 b1 b2 : Int} (v : Value) (h : W.cell? ⟨x, 0, none⟩ = some (.int .i64 a0) ∧ W.cell? ⟨x, 1, none⟩ = some (.int .i64 a1) ∧ W.cell? ⟨x, 2, none⟩ = some (.int .i64 a2) ∧ W.cell? ⟨y, 0, none⟩ = some (.int .i64 b0) ∧ W.cell? ⟨y, 1, none⟩ = some (.int .i64 b1) ∧ W.cell? ⟨y, 2, none⟩ = some (.int .i64 b2) ∧ x < W.heap.size ∧ y < W.heap.size ∧ Tabs W ∧ Below w0.heap.size w0 W) (hg : x < g ∧ y < g ∧ 8 < g ∧ w0.heap.size ≤ g) :
    (W.setCell ⟨g, i, none⟩ v).cell? ⟨x, 0, none⟩ = some (.int .i64 a0) ∧ (W.setCell ⟨g, i, none⟩ v).cell? ⟨x, 1, none⟩ = some (.int .i64 a1) ∧ (W.setCell ⟨g, i, none⟩ v).cell? ⟨x, 2, none⟩ = some (.int .i64 a2) ∧ (W.setCell ⟨g, i, none⟩ v).cell? ⟨y, 0, none⟩ = some (.int .i64 b0) ∧ (W.setCell ⟨g, i, none⟩ v).cell? ⟨y, 1, none⟩ = some (.int .i64 b1) ∧ (W.setCell ⟨g, i, none⟩ v).cell? ⟨y, 2, none⟩ = some (.int .i64 b2) ∧ x < (W.setCell ⟨g, i, none⟩ v).heap.size ∧ y < (W.setCell ⟨g, i, none⟩ v).heap.size ∧ Tabs (W.setCell ⟨g, i, none⟩ v) ∧ Below w0.heap.size w0 (W.setCell ⟨g, i, none⟩ v) := by
  obtain ⟨h1, h2, h3, h4, h5, h6, h7, h8, h9, h10⟩ := h
  obtain ⟨g1, g2, g3, g4⟩ := hg
  have hc : ∀ b o, b < g → (W.setCell ⟨g, i, none⟩ v).cell? ⟨b, o, none⟩ = W.cell? ⟨b, o, none⟩ := fun b o hb => World.cell?_setCell_other _ _ _ _ (fun e => by simp at e <;> omega)
  refine ⟨(hc x 0 g1).trans h1, (hc x 1 g1).trans h2, (hc x 2 g1).trans h3, (hc y 0 g2).trans h4, (hc y 1 g2).trans h5, (hc y 2 g2).trans h6, by simpa using h7, by simpa using h8, ⟨fun j hj => (hc 0 j (by omega)).trans (h9.words j hj), fun j hj => (hc 8 j g3).trans (h9.tab j hj)⟩, h10.setCell g4 _⟩

/-- A fault whose name has no blank lies at a block. -/
def FaultAt (g : Nat) (c : Int) (a : Nat) (n : ByteArray) (w : World) : Prop :=
  w.cell? ⟨g, 0, none⟩ = some (.int .i64 c) ∧ w.cell? ⟨g, 1, none⟩ = some (.int .u64 (a : Int)) ∧ w.cell? ⟨g, 2, none⟩ = some (.string n) ∧ g < w.heap.size
def FaultMay (c : Int) (a : Nat) (n : ByteArray) : Prop := 0 ≤ c ∧ c < 27 ∧ a < 18446744073709551616 ∧ n.size ≤ 3 ∧ (32 : UInt8) ∉ n.data.toList

theorem fault_new (w' : World) (c A : Int) (a : Nat) (n : ByteArray) (hA : (a : Int) = A) : FaultAt w'.heap.size c a n (w'.alloc (.cells #[.int .i64 c, .int .u64 A, .string n] 26)) := by
  subst hA
  exact ⟨by simp [go_sem], by simp [go_sem], by simp [go_sem], by simp⟩
theorem fault_set (w' : World) (g : Nat) (c A : Int) (a : Nat) (n : ByteArray) (hA : (a : Int) = A) {v0 v1 v2 : Value} (h0 : w'.cell? ⟨g, 0, none⟩ = some v0) (h1 : w'.cell? ⟨g, 1, none⟩ = some v1) (h2 : w'.cell? ⟨g, 2, none⟩ = some v2) : FaultAt g c a n (((w'.setCell ⟨g, 0, none⟩ (.int .i64 c)).setCell ⟨g, 1, none⟩ (.int .u64 A)).setCell ⟨g, 2, none⟩ (.string n)) := by
  subst hA
  exact ⟨by simp [go_sem, h0], by simp [go_sem, h1], by simp [go_sem, h2], by simpa using World.block_lt_of_cell? w' ⟨g, 0, none⟩ h0⟩
theorem FaultAt.next {g : Nat} {c : Int} {a : Nat} {n : ByteArray} {W w' : World} (h : FaultAt g c a n W) (hb : Below W.heap.size W w') : FaultAt g c a n w' := by
  obtain ⟨h0, h1, h2, h3⟩ := h
  obtain ⟨hc, _⟩ := bcell hb
  exact ⟨(hc g 0 h3).trans h0, (hc g 1 h3).trans h1, (hc g 2 h3).trans h2, Nat.lt_of_lt_of_le h3 hb.size⟩

theorem fab_next {w0 W w' : World} {x y g : Nat} {c : Int} {a : Nat} {n : ByteArray} {a0 a1 a2 b0 b1 b2 : Int} (hb : Below W.heap.size W w') (h : FaultAt g c a n W ∧ W.cell? ⟨x, 0, none⟩ = some (.int .i64 a0) ∧ W.cell? ⟨x, 1, none⟩ = some (.int .i64 a1) ∧ W.cell? ⟨x, 2, none⟩ = some (.int .i64 a2) ∧ W.cell? ⟨y, 0, none⟩ = some (.int .i64 b0) ∧ W.cell? ⟨y, 1, none⟩ = some (.int .i64 b1) ∧ W.cell? ⟨y, 2, none⟩ = some (.int .i64 b2) ∧ x < W.heap.size ∧ y < W.heap.size ∧ Tabs W ∧ Below w0.heap.size w0 W) :
    FaultAt g c a n w' ∧ w'.cell? ⟨x, 0, none⟩ = some (.int .i64 a0) ∧ w'.cell? ⟨x, 1, none⟩ = some (.int .i64 a1) ∧ w'.cell? ⟨x, 2, none⟩ = some (.int .i64 a2) ∧ w'.cell? ⟨y, 0, none⟩ = some (.int .i64 b0) ∧ w'.cell? ⟨y, 1, none⟩ = some (.int .i64 b1) ∧ w'.cell? ⟨y, 2, none⟩ = some (.int .i64 b2) ∧ x < w'.heap.size ∧ y < w'.heap.size ∧ Tabs w' ∧ Below w0.heap.size w0 w' := ⟨h.1.next hb, ab_next hb h.2⟩
theorem fab_alloc {w0 W : World} {x y g : Nat} {c : Int} {a : Nat} {n : ByteArray} {a0 a1 a2 b0 b1 b2 : Int} (o : Obj) (h : FaultAt g c a n W ∧ W.cell? ⟨x, 0, none⟩ = some (.int .i64 a0) ∧ W.cell? ⟨x, 1, none⟩ = some (.int .i64 a1) ∧ W.cell? ⟨x, 2, none⟩ = some (.int .i64 a2) ∧ W.cell? ⟨y, 0, none⟩ = some (.int .i64 b0) ∧ W.cell? ⟨y, 1, none⟩ = some (.int .i64 b1) ∧ W.cell? ⟨y, 2, none⟩ = some (.int .i64 b2) ∧ x < W.heap.size ∧ y < W.heap.size ∧ Tabs W ∧ Below w0.heap.size w0 W) :
    FaultAt g c a n (W.alloc o) ∧ (W.alloc o).cell? ⟨x, 0, none⟩ = some (.int .i64 a0) ∧ (W.alloc o).cell? ⟨x, 1, none⟩ = some (.int .i64 a1) ∧ (W.alloc o).cell? ⟨x, 2, none⟩ = some (.int .i64 a2) ∧ (W.alloc o).cell? ⟨y, 0, none⟩ = some (.int .i64 b0) ∧ (W.alloc o).cell? ⟨y, 1, none⟩ = some (.int .i64 b1) ∧ (W.alloc o).cell? ⟨y, 2, none⟩ = some (.int .i64 b2) ∧ x < (W.alloc o).heap.size ∧ y < (W.alloc o).heap.size ∧ Tabs (W.alloc o) ∧ Below w0.heap.size w0 (W.alloc o) := fab_next (by go_grown) h
theorem fab_allocd {w0 W : World} {x y g : Nat} {c : Int} {a : Nat} {n : ByteArray} {a0 a1 a2 b0 b1 b2 : Int} (o : Obj) (h : FaultAt g c a n W.drew ∧ W.drew.cell? ⟨x, 0, none⟩ = some (.int .i64 a0) ∧ W.drew.cell? ⟨x, 1, none⟩ = some (.int .i64 a1) ∧ W.drew.cell? ⟨x, 2, none⟩ = some (.int .i64 a2) ∧ W.drew.cell? ⟨y, 0, none⟩ = some (.int .i64 b0) ∧ W.drew.cell? ⟨y, 1, none⟩ = some (.int .i64 b1) ∧ W.drew.cell? ⟨y, 2, none⟩ = some (.int .i64 b2) ∧ x < W.drew.heap.size ∧ y < W.drew.heap.size ∧ Tabs W.drew ∧ Below w0.heap.size w0 W.drew) :
    FaultAt g c a n (W.alloc o).drew ∧ (W.alloc o).drew.cell? ⟨x, 0, none⟩ = some (.int .i64 a0) ∧ (W.alloc o).drew.cell? ⟨x, 1, none⟩ = some (.int .i64 a1) ∧ (W.alloc o).drew.cell? ⟨x, 2, none⟩ = some (.int .i64 a2) ∧ (W.alloc o).drew.cell? ⟨y, 0, none⟩ = some (.int .i64 b0) ∧ (W.alloc o).drew.cell? ⟨y, 1, none⟩ = some (.int .i64 b1) ∧ (W.alloc o).drew.cell? ⟨y, 2, none⟩ = some (.int .i64 b2) ∧ x < (W.alloc o).drew.heap.size ∧ y < (W.alloc o).drew.heap.size ∧ Tabs (W.alloc o).drew ∧ Below w0.heap.size w0 (W.alloc o).drew := fab_next (W := W.drew) ((Below.refl _ W.drew).alloc (Nat.le_refl _) o) h
theorem FaultAt.set {g g' i : Nat} {c : Int} {a : Nat} {n : ByteArray} {W : World} (v : Value) (h : FaultAt g c a n W) (hg : g < g') : FaultAt g c a n (W.setCell ⟨g', i, none⟩ v) := by
  obtain ⟨h0, h1, h2, h3⟩ := h
  have hc : ∀ o, (W.setCell ⟨g', i, none⟩ v).cell? ⟨g, o, none⟩ = W.cell? ⟨g, o, none⟩ := fun o => World.cell?_setCell_other _ _ _ _ (fun e => by simp at e <;> omega)
  exact ⟨(hc 0).trans h0, (hc 1).trans h1, (hc 2).trans h2, by simpa using h3⟩
theorem fab_set {w0 W : World} {x y g g' i : Nat} {c : Int} {a : Nat} {n : ByteArray} {a0 a1 a2 b0 b1 b2 : Int} (v : Value) (h : FaultAt g c a n W ∧ W.cell? ⟨x, 0, none⟩ = some (.int .i64 a0) ∧ W.cell? ⟨x, 1, none⟩ = some (.int .i64 a1) ∧ W.cell? ⟨x, 2, none⟩ = some (.int .i64 a2) ∧ W.cell? ⟨y, 0, none⟩ = some (.int .i64 b0) ∧ W.cell? ⟨y, 1, none⟩ = some (.int .i64 b1) ∧ W.cell? ⟨y, 2, none⟩ = some (.int .i64 b2) ∧ x < W.heap.size ∧ y < W.heap.size ∧ Tabs W ∧ Below w0.heap.size w0 W) (hg : g < g' ∧ x < g' ∧ y < g' ∧ 8 < g' ∧ w0.heap.size ≤ g') :
    FaultAt g c a n (W.setCell ⟨g', i, none⟩ v) ∧ (W.setCell ⟨g', i, none⟩ v).cell? ⟨x, 0, none⟩ = some (.int .i64 a0) ∧ (W.setCell ⟨g', i, none⟩ v).cell? ⟨x, 1, none⟩ = some (.int .i64 a1) ∧ (W.setCell ⟨g', i, none⟩ v).cell? ⟨x, 2, none⟩ = some (.int .i64 a2) ∧ (W.setCell ⟨g', i, none⟩ v).cell? ⟨y, 0, none⟩ = some (.int .i64 b0) ∧ (W.setCell ⟨g', i, none⟩ v).cell? ⟨y, 1, none⟩ = some (.int .i64 b1) ∧ (W.setCell ⟨g', i, none⟩ v).cell? ⟨y, 2, none⟩ = some (.int .i64 b2) ∧ x < (W.setCell ⟨g', i, none⟩ v).heap.size ∧ y < (W.setCell ⟨g', i, none⟩ v).heap.size ∧ Tabs (W.setCell ⟨g', i, none⟩ v) ∧ Below w0.heap.size w0 (W.setCell ⟨g', i, none⟩ v) := ⟨h.1.set v hg.1, ab_set v h.2 hg.2⟩

theorem gg_next {w0 W w' : World} {g g' : Nat} {c c' : Int} {a a' : Nat} {n n' : ByteArray} (hb : Below W.heap.size W w') (h : W.cell? ⟨g, 0, none⟩ = some (.int .i64 c) ∧ W.cell? ⟨g, 1, none⟩ = some (.int .u64 (a : Int)) ∧ W.cell? ⟨g, 2, none⟩ = some (.string n) ∧ W.cell? ⟨g', 0, none⟩ = some (.int .i64 c') ∧ W.cell? ⟨g', 1, none⟩ = some (.int .u64 (a' : Int)) ∧ W.cell? ⟨g', 2, none⟩ = some (.string n') ∧ g < W.heap.size ∧ g' < W.heap.size ∧ Tabs W ∧ Below w0.heap.size w0 W) :
    w'.cell? ⟨g, 0, none⟩ = some (.int .i64 c) ∧ w'.cell? ⟨g, 1, none⟩ = some (.int .u64 (a : Int)) ∧ w'.cell? ⟨g, 2, none⟩ = some (.string n) ∧ w'.cell? ⟨g', 0, none⟩ = some (.int .i64 c') ∧ w'.cell? ⟨g', 1, none⟩ = some (.int .u64 (a' : Int)) ∧ w'.cell? ⟨g', 2, none⟩ = some (.string n') ∧ g < w'.heap.size ∧ g' < w'.heap.size ∧ Tabs w' ∧ Below w0.heap.size w0 w' := by
  obtain ⟨h1, h2, h3, h4, h5, h6, h7, h8, h9, h10⟩ := h
  obtain ⟨hc, _⟩ := bcell hb
  exact ⟨(hc g 0 h7).trans h1, (hc g 1 h7).trans h2, (hc g 2 h7).trans h3, (hc g' 0 h8).trans h4, (hc g' 1 h8).trans h5, (hc g' 2 h8).trans h6, Nat.lt_of_lt_of_le h7 hb.size, Nat.lt_of_lt_of_le h8 hb.size, h9.next hb, bt h10 hb⟩
theorem gg_alloc {w0 W : World} {g g' : Nat} {c c' : Int} {a a' : Nat} {n n' : ByteArray} (o : Obj) (h : W.cell? ⟨g, 0, none⟩ = some (.int .i64 c) ∧ W.cell? ⟨g, 1, none⟩ = some (.int .u64 (a : Int)) ∧ W.cell? ⟨g, 2, none⟩ = some (.string n) ∧ W.cell? ⟨g', 0, none⟩ = some (.int .i64 c') ∧ W.cell? ⟨g', 1, none⟩ = some (.int .u64 (a' : Int)) ∧ W.cell? ⟨g', 2, none⟩ = some (.string n') ∧ g < W.heap.size ∧ g' < W.heap.size ∧ Tabs W ∧ Below w0.heap.size w0 W) :
    (W.alloc o).cell? ⟨g, 0, none⟩ = some (.int .i64 c) ∧ (W.alloc o).cell? ⟨g, 1, none⟩ = some (.int .u64 (a : Int)) ∧ (W.alloc o).cell? ⟨g, 2, none⟩ = some (.string n) ∧ (W.alloc o).cell? ⟨g', 0, none⟩ = some (.int .i64 c') ∧ (W.alloc o).cell? ⟨g', 1, none⟩ = some (.int .u64 (a' : Int)) ∧ (W.alloc o).cell? ⟨g', 2, none⟩ = some (.string n') ∧ g < (W.alloc o).heap.size ∧ g' < (W.alloc o).heap.size ∧ Tabs (W.alloc o) ∧ Below w0.heap.size w0 (W.alloc o) := gg_next (by go_grown) h
theorem gg_allocd {w0 W : World} {g g' : Nat} {c c' : Int} {a a' : Nat} {n n' : ByteArray} (o : Obj) (h : W.drew.cell? ⟨g, 0, none⟩ = some (.int .i64 c) ∧ W.drew.cell? ⟨g, 1, none⟩ = some (.int .u64 (a : Int)) ∧ W.drew.cell? ⟨g, 2, none⟩ = some (.string n) ∧ W.drew.cell? ⟨g', 0, none⟩ = some (.int .i64 c') ∧ W.drew.cell? ⟨g', 1, none⟩ = some (.int .u64 (a' : Int)) ∧ W.drew.cell? ⟨g', 2, none⟩ = some (.string n') ∧ g < W.drew.heap.size ∧ g' < W.drew.heap.size ∧ Tabs W.drew ∧ Below w0.heap.size w0 W.drew) :
    (W.alloc o).drew.cell? ⟨g, 0, none⟩ = some (.int .i64 c) ∧ (W.alloc o).drew.cell? ⟨g, 1, none⟩ = some (.int .u64 (a : Int)) ∧ (W.alloc o).drew.cell? ⟨g, 2, none⟩ = some (.string n) ∧ (W.alloc o).drew.cell? ⟨g', 0, none⟩ = some (.int .i64 c') ∧ (W.alloc o).drew.cell? ⟨g', 1, none⟩ = some (.int .u64 (a' : Int)) ∧ (W.alloc o).drew.cell? ⟨g', 2, none⟩ = some (.string n') ∧ g < (W.alloc o).drew.heap.size ∧ g' < (W.alloc o).drew.heap.size ∧ Tabs (W.alloc o).drew ∧ Below w0.heap.size w0 (W.alloc o).drew := gg_next (W := W.drew) ((Below.refl _ W.drew).alloc (Nat.le_refl _) o) h

theorem mod27 (a : Int) : 0 ≤ (IntKind.i64.wrap (a.tmod 27 + 27)).tmod 27 ∧ (IntKind.i64.wrap (a.tmod 27 + 27)).tmod 27 < 27 := by
  have h1 := Int.tmod_lt_of_pos a (show (0 : Int) < 27 by omega)
  have h2 : -27 < a.tmod 27 := by
    rcases Int.lt_or_le a 0 with h | h
    · have := Int.tmod_lt_of_pos (-a) (show (0 : Int) < 27 by omega)
      rw [Int.neg_tmod] at this
      omega
    · have := Int.tmod_nonneg 27 h
      omega
  rw [IntKind.wrap_i64]
  have e : (a.tmod 27 + 27 + 9223372036854775808) % 18446744073709551616 - 9223372036854775808 = a.tmod 27 + 27 := by omega
  rw [e]
  exact ⟨Int.tmod_nonneg 27 (by omega), Int.tmod_lt_of_pos _ (by omega)⟩

theorem may_of (a0 a1 : Int) (n : ByteArray) (h3 : n.size ≤ 3) (hp : (32 : UInt8) ∉ n.data.toList) : FaultMay ((IntKind.i64.wrap (a0.tmod 27 + 27)).tmod 27) (IntKind.u64.wrap a1).toNat n := by
  have hm := mod27 a0
  have hw : 0 ≤ IntKind.u64.wrap a1 ∧ IntKind.u64.wrap a1 < 18446744073709551616 := by rw [IntKind.wrap_u64]; omega
  exact ⟨hm.1, hm.2, by omega, h3, hp⟩
theorem u64_cast (a1 : Int) : (((IntKind.u64.wrap a1).toNat : Nat) : Int) = IntKind.u64.wrap a1 := Int.toNat_of_nonneg (wrap_u64_nonneg a1)

set_option maxRecDepth 100000 in
set_option maxHeartbeats 3200000 in
theorem walk3 (a0 a1 a2 b0 b1 b2 : Int) (w : World) (ht : Tabs w) :
    Calls Tryd.prog 5 #[.agg #[.int .i64 a0, .int .i64 a1, .int .i64 a2], .agg #[.int .i64 b0, .int .i64 b1, .int .i64 b2]] w fun e w' => e = .returned (.bool true) ∧ Below w.heap.size w w' := by
  have HT : Hid (∀ o1 o2, Tabs ((w.alloc o1).alloc o2)) := fun o1 o2 => ht.next (by go_grown)
  have H7 := ht.size
  clear ht
  go_enter Tryd.func5, Tryd.ntmps5
  go_wp2_with (go_at_call 6; refine (speaks_any _ (HT.out _ _)).mono ?_; rintro e w1 ⟨rfl, hb1⟩)
  obtain ⟨x, hx⟩ : ∃ x, x = w.heap.size := ⟨_, rfl⟩
  obtain ⟨y, hy⟩ : ∃ y, y = w.heap.size + 1 := ⟨_, rfl⟩
  have hS : w1.drew.cell? ⟨x, 0, none⟩ = some (.int .i64 a0) ∧ w1.drew.cell? ⟨x, 1, none⟩ = some (.int .i64 a1) ∧ w1.drew.cell? ⟨x, 2, none⟩ = some (.int .i64 a2) ∧ w1.drew.cell? ⟨y, 0, none⟩ = some (.int .i64 b0) ∧ w1.drew.cell? ⟨y, 1, none⟩ = some (.int .i64 b1) ∧ w1.drew.cell? ⟨y, 2, none⟩ = some (.int .i64 b2) ∧ x < w1.drew.heap.size ∧ y < w1.drew.heap.size ∧ Tabs w1.drew ∧ Below w.heap.size w w1.drew := by
    refine ab_next (W := (w.alloc (.cells #[.int .i64 a0, .int .i64 a1, .int .i64 a2] 39)).alloc (.cells #[.int .i64 b0, .int .i64 b1, .int .i64 b2] 39)) hb1.drew ⟨?_, ?_, ?_, ?_, ?_, ?_, ?_, ?_, HT.out _ _, by go_grown⟩
    · rw [hx]; simp [go_sem]
    · rw [hx]; simp [go_sem]
    · rw [hx]; simp [go_sem]
    · rw [hy]; simp [go_sem]
    · rw [hy]; simp [go_sem]
    · rw [hy]; simp [go_sem]
    · rw [hx]; simp; omega
    · rw [hy]; simp
  have hG : x < w1.heap.size ∧ y < w1.heap.size ∧ 8 < w1.heap.size ∧ w.heap.size ≤ w1.heap.size := by
    have := hb1.size
    simp at this
    rw [hx, hy]; omega
  rw [← hy, ← hx]
  clear hx hy hb1 HT H7
  go_cut [5] (fun p wc => ∃ (g : Nat) (c : Int) (a : Nat) (n : ByteArray), p = .pointer (some ⟨g, 0, none⟩) ∧ FaultMay c a n ∧ FaultAt g c a n wc ∧ (wc.cell? ⟨x, 0, none⟩ = some (.int .i64 a0) ∧ wc.cell? ⟨x, 1, none⟩ = some (.int .i64 a1) ∧ wc.cell? ⟨x, 2, none⟩ = some (.int .i64 a2) ∧ wc.cell? ⟨y, 0, none⟩ = some (.int .i64 b0) ∧ wc.cell? ⟨y, 1, none⟩ = some (.int .i64 b1) ∧ wc.cell? ⟨y, 2, none⟩ = some (.int .i64 b2) ∧ x < wc.heap.size ∧ y < wc.heap.size ∧ Tabs wc ∧ Below w.heap.size w wc))
  case first =>
    go_region_held3 (fun w' => w'.cell? ⟨x, 0, none⟩ = some (.int .i64 a0) ∧ w'.cell? ⟨x, 1, none⟩ = some (.int .i64 a1) ∧ w'.cell? ⟨x, 2, none⟩ = some (.int .i64 a2) ∧ w'.cell? ⟨y, 0, none⟩ = some (.int .i64 b0) ∧ w'.cell? ⟨y, 1, none⟩ = some (.int .i64 b1) ∧ w'.cell? ⟨y, 2, none⟩ = some (.int .i64 b2) ∧ x < w'.heap.size ∧ y < w'.heap.size ∧ Tabs w' ∧ Below w.heap.size w w')
      (first | assumption | (apply ab_next; assumption; assumption) | (apply ab_alloc; assumption) | (apply ab_allocd; assumption) | (refine ab_set _ (ab_set _ (ab_set _ ?_ hG) hG) hG; assumption))
      (first | (go_at_call 13; refine (named_any _ _).mono ?_; rintro e w' ⟨nm, rfl, hn3, hnp, hb⟩; have hK := ab_next hb (by assumption); obtain ⟨hc, hf⟩ := bcell hb))
    · go_wp2_with fail
      go_meet
      case rel => exact ⟨_, _, _, nm, rfl, may_of a0 a1 nm hn3 hnp, fault_new _ _ _ _ _ (u64_cast a1), by assumption⟩
    · go_wp2_with fail
      go_meet
      case rel =>
        have q0 : w'.cell? ⟨w1.heap.size, 0, none⟩ = some (.int .i64 0) := (hc w1.heap.size 0 (by simp)).trans (by simp [go_sem])
        have q1 : w'.cell? ⟨w1.heap.size, 1, none⟩ = some (.int .u64 0) := (hc w1.heap.size 1 (by simp)).trans (by simp [go_sem])
        have q2 : w'.cell? ⟨w1.heap.size, 2, none⟩ = some (.string ⟨#[]⟩) := (hc w1.heap.size 2 (by simp)).trans (by simp [go_sem])
        exact ⟨_, _, _, nm, rfl, may_of a0 a1 nm hn3 hnp, fault_set _ _ _ _ _ _ (u64_cast a1) q0 q1 q2, by assumption⟩
  case rest =>
    obtain ⟨g, c, a, n, rfl, hmay, hat, hSc⟩ := hcut
    clear hS hG
    go_wp2_with fail
    have hS : FaultAt g c a n wc.drew ∧ wc.drew.cell? ⟨x, 0, none⟩ = some (.int .i64 a0) ∧ wc.drew.cell? ⟨x, 1, none⟩ = some (.int .i64 a1) ∧ wc.drew.cell? ⟨x, 2, none⟩ = some (.int .i64 a2) ∧ wc.drew.cell? ⟨y, 0, none⟩ = some (.int .i64 b0) ∧ wc.drew.cell? ⟨y, 1, none⟩ = some (.int .i64 b1) ∧ wc.drew.cell? ⟨y, 2, none⟩ = some (.int .i64 b2) ∧ x < wc.drew.heap.size ∧ y < wc.drew.heap.size ∧ Tabs wc.drew ∧ Below w.heap.size w wc.drew := fab_next (Below.refl _ wc).drew ⟨hat, hSc⟩
    have hG : g < wc.heap.size ∧ x < wc.heap.size ∧ y < wc.heap.size ∧ 8 < wc.heap.size ∧ w.heap.size ≤ wc.heap.size := ⟨hat.2.2.2, hSc.2.2.2.2.2.2.1, hSc.2.2.2.2.2.2.2.1, hSc.2.2.2.2.2.2.2.2.1.size, hSc.2.2.2.2.2.2.2.2.2.size⟩
    clear hat hSc
    go_cut [6] (fun p wd => ∃ (g' : Nat) (c' : Int) (a' : Nat) (n' : ByteArray), p = .pointer (some ⟨g', 0, none⟩) ∧ FaultMay c' a' n' ∧ FaultAt g' c' a' n' wd ∧ FaultAt g c a n wd ∧ wd.cell? ⟨x, 0, none⟩ = some (.int .i64 a0) ∧ wd.cell? ⟨x, 1, none⟩ = some (.int .i64 a1) ∧ wd.cell? ⟨x, 2, none⟩ = some (.int .i64 a2) ∧ wd.cell? ⟨y, 0, none⟩ = some (.int .i64 b0) ∧ wd.cell? ⟨y, 1, none⟩ = some (.int .i64 b1) ∧ wd.cell? ⟨y, 2, none⟩ = some (.int .i64 b2) ∧ x < wd.heap.size ∧ y < wd.heap.size ∧ Tabs wd ∧ Below w.heap.size w wd)
    case first =>
      go_region_held3 (fun w2 => FaultAt g c a n w2 ∧ w2.cell? ⟨x, 0, none⟩ = some (.int .i64 a0) ∧ w2.cell? ⟨x, 1, none⟩ = some (.int .i64 a1) ∧ w2.cell? ⟨x, 2, none⟩ = some (.int .i64 a2) ∧ w2.cell? ⟨y, 0, none⟩ = some (.int .i64 b0) ∧ w2.cell? ⟨y, 1, none⟩ = some (.int .i64 b1) ∧ w2.cell? ⟨y, 2, none⟩ = some (.int .i64 b2) ∧ x < w2.heap.size ∧ y < w2.heap.size ∧ Tabs w2 ∧ Below w.heap.size w w2)
        (first | assumption | (apply fab_next; assumption; assumption) | (apply fab_alloc; assumption) | (apply fab_allocd; assumption) | (refine fab_set _ (fab_set _ (fab_set _ ?_ hG) hG) hG; assumption))
        (first | (go_at_call 13; refine (named_any _ _).mono ?_; rintro e w' ⟨nm, rfl, hn3, hnp, hb⟩; have hK := fab_next hb (by assumption); obtain ⟨hc, hf⟩ := bcell hb))
      · go_wp2_with fail
        go_meet
        case rel => exact ⟨_, _, _, nm, rfl, may_of b0 b1 nm hn3 hnp, fault_new _ _ _ _ _ (u64_cast b1), by assumption⟩
      · go_wp2_with fail
        go_meet
        case rel =>
          have q0 : w'.cell? ⟨wc.heap.size, 0, none⟩ = some (.int .i64 0) := (hc wc.heap.size 0 (by simp)).trans (by simp [go_sem])
          have q1 : w'.cell? ⟨wc.heap.size, 1, none⟩ = some (.int .u64 0) := (hc wc.heap.size 1 (by simp)).trans (by simp [go_sem])
          have q2 : w'.cell? ⟨wc.heap.size, 2, none⟩ = some (.string ⟨#[]⟩) := (hc wc.heap.size 2 (by simp)).trans (by simp [go_sem])
          exact ⟨_, _, _, nm, rfl, may_of b0 b1 nm hn3 hnp, fault_set _ _ _ _ _ _ (u64_cast b1) q0 q1 q2, by assumption⟩
    case rest =>
      obtain ⟨g', c', a', n', rfl, hmay', hat', hSd⟩ := hcut
      clear hS hG
      go_wp2_with fail
      obtain ⟨g1, g2, g3, g4⟩ := hat'
      have hS : wc.drew.cell? ⟨g, 0, none⟩ = some (.int .i64 c) ∧ wc.drew.cell? ⟨g, 1, none⟩ = some (.int .u64 (a : Int)) ∧ wc.drew.cell? ⟨g, 2, none⟩ = some (.string n) ∧ wc.drew.cell? ⟨g', 0, none⟩ = some (.int .i64 c') ∧ wc.drew.cell? ⟨g', 1, none⟩ = some (.int .u64 (a' : Int)) ∧ wc.drew.cell? ⟨g', 2, none⟩ = some (.string n') ∧ g < wc.drew.heap.size ∧ g' < wc.drew.heap.size ∧ Tabs wc.drew ∧ Below w.heap.size w wc.drew := gg_next (Below.refl _ wc).drew ⟨hSd.1.1, hSd.1.2.1, hSd.1.2.2.1, g1, g2, g3, hSd.1.2.2.2, g4, hSd.2.2.2.2.2.2.2.2.2.1, hSd.2.2.2.2.2.2.2.2.2.2⟩
      clear hSd g1 g2 g3 g4
      obtain ⟨m1, m2, m3, m4, m5⟩ := hmay
      obtain ⟨k1, k2, k3, k4, k5⟩ := hmay'
      obtain ⟨t, ht⟩ : ∃ t : ByteArray, t = ⟨(textL c a n.data.toList).toArray⟩ := ⟨_, rfl⟩
      obtain ⟨t', ht'⟩ : ∃ t' : ByteArray, t' = ⟨(textL c' a' n'.data.toList).toArray⟩ := ⟨_, rfl⟩
      have T1 : ∀ w2, (w2.cell? ⟨g, 0, none⟩ = some (.int .i64 c) ∧ w2.cell? ⟨g, 1, none⟩ = some (.int .u64 (a : Int)) ∧ w2.cell? ⟨g, 2, none⟩ = some (.string n) ∧ w2.cell? ⟨g', 0, none⟩ = some (.int .i64 c') ∧ w2.cell? ⟨g', 1, none⟩ = some (.int .u64 (a' : Int)) ∧ w2.cell? ⟨g', 2, none⟩ = some (.string n') ∧ g < w2.heap.size ∧ g' < w2.heap.size ∧ Tabs w2 ∧ Below w.heap.size w w2) → Calls Tryd.prog 8 #[.agg #[.int .i64 c, .int .u64 a, .string n]] w2 fun x w3 => x = .returned (.string t) ∧ Below w2.heap.size w2 w3 := by
        intro w2 h2
        rw [ht]; exact text_any c a n w2 h2.2.2.2.2.2.2.2.2.1 m3 (by omega)
      have T2 : ∀ w2, (w2.cell? ⟨g, 0, none⟩ = some (.int .i64 c) ∧ w2.cell? ⟨g, 1, none⟩ = some (.int .u64 (a : Int)) ∧ w2.cell? ⟨g, 2, none⟩ = some (.string n) ∧ w2.cell? ⟨g', 0, none⟩ = some (.int .i64 c') ∧ w2.cell? ⟨g', 1, none⟩ = some (.int .u64 (a' : Int)) ∧ w2.cell? ⟨g', 2, none⟩ = some (.string n') ∧ g < w2.heap.size ∧ g' < w2.heap.size ∧ Tabs w2 ∧ Below w.heap.size w w2) → Calls Tryd.prog 8 #[.agg #[.int .i64 c', .int .u64 a', .string n']] w2 fun x w3 => x = .returned (.string t') ∧ Below w2.heap.size w2 w3 := by
        intro w2 h2
        rw [ht']; exact text_any c' a' n' w2 h2.2.2.2.2.2.2.2.2.1 k3 (by omega)
      have hap : t = t' → c = c' ∧ a = a' ∧ n = n' := by
        intro e
        rw [ht, ht'] at e
        have e2 : textL c a n.data.toList = textL c' a' n'.data.toList := by simpa using e
        obtain ⟨x1, x2, x3⟩ := text_inj c c' a a' _ _ m1 m2 k1 k2 m5 k5 e2
        exact ⟨x1, x2, by
          exact bytes_eq x3⟩
      have hsm : c = c' → a = a' → n = n' → t = t' := by
        intro x1 x2 x3
        rw [ht, ht', x1, x2, x3]
      clear ht ht' m1 m2 m3 m4 m5 k1 k2 k3 k4 k5
      by_cases hcc : c = c'
      · by_cases haa : a = a'
        · by_cases hnn : n = n'
          · have htt := hsm hcc haa hnn
            subst hcc haa hnn htt
            clear hap hsm T2
            go_region_held3 (fun w2 => w2.cell? ⟨g, 0, none⟩ = some (.int .i64 c) ∧ w2.cell? ⟨g, 1, none⟩ = some (.int .u64 (a : Int)) ∧ w2.cell? ⟨g, 2, none⟩ = some (.string n) ∧ w2.cell? ⟨g', 0, none⟩ = some (.int .i64 c) ∧ w2.cell? ⟨g', 1, none⟩ = some (.int .u64 (a : Int)) ∧ w2.cell? ⟨g', 2, none⟩ = some (.string n) ∧ g < w2.heap.size ∧ g' < w2.heap.size ∧ Tabs w2 ∧ Below w.heap.size w w2)
              (first | assumption | (apply gg_next; assumption; assumption) | (apply gg_alloc; assumption) | (apply gg_allocd; assumption))
              (first | (go_at_call 8; with_reducible refine (T1 _ (by assumption)).mono ?_; rintro e w' ⟨rfl, hb⟩; have hK := gg_next hb (by assumption); obtain ⟨hcl, hfl⟩ := bcell hb))
            go_wp2_with fail
            go_ret; exact ⟨rfl, hK.2.2.2.2.2.2.2.2.2⟩
          · have htt : t ≠ t' := fun e => hnn (hap e).2.2
            clear hap hsm
            subst hcc haa
            have ht1 : (t.toList == t'.toList) = false := str_ne htt
            have hn1 : (n.toList == n'.toList) = false := str_ne hnn
            go_region_held3 (fun w2 => w2.cell? ⟨g, 0, none⟩ = some (.int .i64 c) ∧ w2.cell? ⟨g, 1, none⟩ = some (.int .u64 (a : Int)) ∧ w2.cell? ⟨g, 2, none⟩ = some (.string n) ∧ w2.cell? ⟨g', 0, none⟩ = some (.int .i64 c) ∧ w2.cell? ⟨g', 1, none⟩ = some (.int .u64 (a : Int)) ∧ w2.cell? ⟨g', 2, none⟩ = some (.string n') ∧ g < w2.heap.size ∧ g' < w2.heap.size ∧ Tabs w2 ∧ Below w.heap.size w w2)
              (first | assumption | (apply gg_next; assumption; assumption) | (apply gg_alloc; assumption) | (apply gg_allocd; assumption))
              (first | (go_at_call 8; with_reducible refine (T1 _ (by assumption)).mono ?_; rintro e w' ⟨rfl, hb⟩; have hK := gg_next hb (by assumption); obtain ⟨hcl, hfl⟩ := bcell hb) | (go_at_call 8; with_reducible refine (T2 _ (by assumption)).mono ?_; rintro e w' ⟨rfl, hb⟩; have hK := gg_next hb (by assumption); obtain ⟨hcl, hfl⟩ := bcell hb))
            go_wp2_with fail
            go_ret; exact ⟨rfl, hK.2.2.2.2.2.2.2.2.2⟩
        · have htt : t ≠ t' := fun e => haa (hap e).2.1
          clear hap hsm
          subst hcc
          have ht1 : (t.toList == t'.toList) = false := str_ne htt
          have ha1 : ((a : Int) == (a' : Int)) = false := by simp; omega
          go_region_held3 (fun w2 => w2.cell? ⟨g, 0, none⟩ = some (.int .i64 c) ∧ w2.cell? ⟨g, 1, none⟩ = some (.int .u64 (a : Int)) ∧ w2.cell? ⟨g, 2, none⟩ = some (.string n) ∧ w2.cell? ⟨g', 0, none⟩ = some (.int .i64 c) ∧ w2.cell? ⟨g', 1, none⟩ = some (.int .u64 (a' : Int)) ∧ w2.cell? ⟨g', 2, none⟩ = some (.string n') ∧ g < w2.heap.size ∧ g' < w2.heap.size ∧ Tabs w2 ∧ Below w.heap.size w w2)
            (first | assumption | (apply gg_next; assumption; assumption) | (apply gg_alloc; assumption) | (apply gg_allocd; assumption))
            (first | (go_at_call 8; with_reducible refine (T1 _ (by assumption)).mono ?_; rintro e w' ⟨rfl, hb⟩; have hK := gg_next hb (by assumption); obtain ⟨hcl, hfl⟩ := bcell hb) | (go_at_call 8; with_reducible refine (T2 _ (by assumption)).mono ?_; rintro e w' ⟨rfl, hb⟩; have hK := gg_next hb (by assumption); obtain ⟨hcl, hfl⟩ := bcell hb))
          go_wp2_with fail
          go_ret; exact ⟨rfl, hK.2.2.2.2.2.2.2.2.2⟩
      · have htt : t ≠ t' := fun e => hcc (hap e).1
        clear hap hsm
        have ht1 : (t.toList == t'.toList) = false := str_ne htt
        have hc1 : (c == c') = false := by simp [hcc]
        go_region_held3 (fun w2 => w2.cell? ⟨g, 0, none⟩ = some (.int .i64 c) ∧ w2.cell? ⟨g, 1, none⟩ = some (.int .u64 (a : Int)) ∧ w2.cell? ⟨g, 2, none⟩ = some (.string n) ∧ w2.cell? ⟨g', 0, none⟩ = some (.int .i64 c') ∧ w2.cell? ⟨g', 1, none⟩ = some (.int .u64 (a' : Int)) ∧ w2.cell? ⟨g', 2, none⟩ = some (.string n') ∧ g < w2.heap.size ∧ g' < w2.heap.size ∧ Tabs w2 ∧ Below w.heap.size w w2)
          (first | assumption | (apply gg_next; assumption; assumption) | (apply gg_alloc; assumption) | (apply gg_allocd; assumption))
          (first | (go_at_call 8; with_reducible refine (T1 _ (by assumption)).mono ?_; rintro e w' ⟨rfl, hb⟩; have hK := gg_next hb (by assumption); obtain ⟨hcl, hfl⟩ := bcell hb) | (go_at_call 8; with_reducible refine (T2 _ (by assumption)).mono ?_; rintro e w' ⟨rfl, hb⟩; have hK := gg_next hb (by assumption); obtain ⟨hcl, hfl⟩ := bcell hb))
        go_wp2_with fail
        go_ret; exact ⟨rfl, hK.2.2.2.2.2.2.2.2.2⟩
end Go.Proofs.YtonaanedeldhmabDoor.failApart
