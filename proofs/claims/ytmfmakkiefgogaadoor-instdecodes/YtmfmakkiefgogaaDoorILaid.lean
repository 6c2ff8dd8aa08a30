/-
  What the listed variables of layer 6's rows give to the walks: the kinds' forms and codes. No condition beyond the rows' own list.
-/
import Derived.Test.YtmfmakkiefgogaaDoorRows
import Derived.WalkKit
import Derived.ProofKit
import Derived.OpenShut
import Derived.LaidMore
import Derived.Lib.LaidTab
import Derived.Stop.Joined
namespace Go.Proofs.YtmfmakkiefgogaaDoor
open Go.ChangeShapes Go.WideShapes Go.ChangeAt Go.RowKit

/-- The rows' list. -/
def laid6 : List (String × DataW Unit) := [("turnbuckle/inst.forms", Rows.laid_turnbuckle_inst_forms), ("turnbuckle/inst.codes", Rows.laid_turnbuckle_inst_codes)]

def formsL : List Int := [85, 85, 74, 73, 66, 66, 66, 66, 66, 66, 73, 73, 73, 73, 73, 73, 73, 83, 83, 83, 83, 73, 73, 73, 73, 73, 73, 72, 72, 72, 73, 75, 75, 75, 82, 82, 82, 82, 82, 82, 82, 82, 82, 82, 82, 82, 82, 82, 82, 82, 82, 82, 82, 82, 82, 82, 82, 82, 82, 82, 82, 82, 78, 78]
def codesL : List Int := [55, 23, 111, 103, 99, 4195, 16483, 20579, 24675, 28771, 3, 4099, 8195, 12291, 16387, 20483, 24579, 35, 4131, 8227, 12323, 19, 8211, 12307, 16403, 24595, 28691, 4115, 20499, 1073762323, 27, 4123, 20507, 1073762331, 51, 1073741875, 4147, 8243, 12339, 16435, 20531, 1073762355, 24627, 28723, 33554483, 33558579, 33562675, 33566771, 33570867, 33574963, 33579059, 33583155, 59, 1073741883, 4155, 20539, 1073762363, 33554491, 33570875, 33574971, 33579067, 33583163, 115, 1048691]
def formAt (i : Nat) : Int := formsL.getD i 0
def codeAt (i : Nat) : Int := codesL.getD i 0

theorem forms_datum : (Rows.laid_turnbuckle_inst_forms : DataW Unit) = Lib.tabData .u8 formsL := by rfl
theorem codes_datum : (Rows.laid_turnbuckle_inst_codes : DataW Unit) = Lib.tabData .u32 codesL := by rfl
theorem gForms : Tryd.prog.globalNamed "turnbuckle/inst.forms" = some 1 := by kernel_rfl
theorem tForms : (Tryd.prog.globals[1]?).map (·.type) = some 56 := by kernel_rfl
theorem gCodes : Tryd.prog.globalNamed "turnbuckle/inst.codes" = some 2 := by kernel_rfl
theorem tCodes : (Tryd.prog.globals[2]?).map (·.type) = some 66 := by kernel_rfl

/-- The tables lie where the program has them. -/
structure Tabs (W : World) : Prop where
  forms : ∀ i, i < 64 → W.cell? ⟨1, i, none⟩ = some (.int .u8 (formAt i))
  codes : ∀ i, i < 64 → W.cell? ⟨2, i, none⟩ = some (.int .u32 (codeAt i))
  room : 2 < W.heap.size
theorem Tabs.next {w w' : World} (h : Tabs w) (hb : Below w.heap.size w w') : Tabs w' :=
  ⟨fun i hi => (hb.cell (p := ⟨1, i, none⟩) (show 1 < _ from Nat.lt_trans (by omega) h.room)).trans (h.forms i hi), fun i hi => (hb.cell (p := ⟨2, i, none⟩) h.room).trans (h.codes i hi), Nat.lt_of_lt_of_le h.room hb.size⟩

/-- What the rows' list gives: the cells of both tables. -/
theorem of_laid {W : World} (h : laidMetH Tryd.prog laid6 W) : Tabs W := by
  rw [MakeChecks.laidMetH_plain _ _ _ (by kernel_rfl)] at h
  obtain ⟨ps, ⟨g0, t0, cs0, f0, p0, q0, hg0, ht0, hv0, hd0, ⟨g1, t1, cs1, f1, p1, q1, hg1, ht1, hv1, hd1, _, _⟩, _⟩, _, _⟩ := h
  obtain rfl := Option.some.inj (gForms.symm.trans hg0)
  obtain rfl := Option.some.inj (tForms.symm.trans ht0)
  obtain rfl := Option.some.inj (gCodes.symm.trans hg1)
  obtain rfl := Option.some.inj (tCodes.symm.trans ht1)
  have hl0 : formsL.length = 64 := rfl
  have hl1 : codesL.length = 64 := rfl
  rw [forms_datum] at hd0
  rw [codes_datum] at hd1
  have hc0 := Lib.cells_of_tab Tryd.underlying56 Tryd.underlying5 (by kernel_rfl) (by kernel_rfl) hd0
  have hc1 := Lib.cells_of_tab Tryd.underlying66 Tryd.underlying36 (by kernel_rfl) (by kernel_rfl) hd1
  have h0 : ∀ i, i < 64 → W.cell? ⟨1, i, none⟩ = some (.int .u8 (formAt i)) := by
    intro i hi
    rw [World.var?_cell hg0 hv0 i, ← Array.getElem?_toList, hc0, List.getElem?_map, List.getElem?_eq_getElem (by omega)]
    unfold formAt
    rw [List.getD, List.getElem?_eq_getElem (by omega)]
    rfl
  have h1 : ∀ i, i < 64 → W.cell? ⟨2, i, none⟩ = some (.int .u32 (codeAt i)) := by
    intro i hi
    rw [World.var?_cell hg1 hv1 i, ← Array.getElem?_toList, hc1, List.getElem?_map, List.getElem?_eq_getElem (by omega)]
    unfold codeAt
    rw [List.getD, List.getElem?_eq_getElem (by omega)]
    rfl
  exact ⟨h0, h1, World.block_lt_of_cell? W _ (h1 0 (by omega))⟩
end Go.Proofs.YtmfmakkiefgogaaDoor
