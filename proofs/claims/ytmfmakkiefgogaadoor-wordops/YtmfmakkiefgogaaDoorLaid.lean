/-
  What the listed variable of layer 5's rows gives to the walks: the operations' names. No condition beyond the rows' own list.
-/
import Derived.Test.YtmfmakkiefgogaaDoorRows
import Derived.WalkKit
import Derived.ProofKit
import Derived.OpenShut
import Derived.LaidMore
import Derived.Lib.LaidTab
import Derived.Stop.Joined
namespace Go.Proofs.YtmfmakkiefgogaaDoor
open Go.ChangeShapes Go.WideShapes Go.ChangeAt Go.RowKit

/-- The rows' list. -/
def laid5 : List (String × DataW Unit) := [("turnbuckle/word.names", Rows.laid_turnbuckle_word_names)]

def namesL : List (List UInt8) := [[97, 100, 100], [115, 117, 98], [115, 108, 108], [115, 108, 116], [115, 108, 116, 117], [120, 111, 114], [115, 114, 108], [115, 114, 97], [111, 114], [97, 110, 100], [109, 117, 108], [109, 117, 108, 104], [109, 117, 108, 104, 115, 117], [109, 117, 108, 104, 117], [100, 105, 118], [100, 105, 118, 117], [114, 101, 109], [114, 101, 109, 117], [97, 100, 100, 119], [115, 117, 98, 119], [115, 108, 108, 119], [115, 114, 108, 119], [115, 114, 97, 119], [109, 117, 108, 119], [100, 105, 118, 119], [100, 105, 118, 117, 119], [114, 101, 109, 119], [114, 101, 109, 117, 119]]
def nameAt (i : Nat) : ByteArray := ⟨(namesL.getD i []).toArray⟩

theorem names_datum : (Rows.laid_turnbuckle_word_names : DataW Unit) = .agg (namesL.map fun l => .lit (.string l)) := by rfl

theorem gNames : Tryd.prog.globalNamed "turnbuckle/word.names" = some 0 := by kernel_rfl
theorem tNames : (Tryd.prog.globals[0]?).map (·.type) = some 53 := by kernel_rfl

/-- What the rows' list gives: the cells of the names. -/
theorem of_laid {W : World} (h : laidMetH Tryd.prog laid5 W) : (∀ i, i < 28 → W.cell? ⟨0, i, none⟩ = some (.string (nameAt i))) := by
  rw [MakeChecks.laidMetH_plain _ _ _ (by kernel_rfl)] at h
  obtain ⟨ps, ⟨g6, t6, cs6, f6, p6, q6, hg6, ht6, hv6, hd6, _, _⟩, _, _⟩ := h
  obtain rfl := Option.some.inj (gNames.symm.trans hg6)
  obtain rfl := Option.some.inj (tNames.symm.trans ht6)
  intro i hi
  rw [names_datum] at hd6
  obtain ⟨xs, m, _, ex, _, hl, hel⟩ := DataW.trod_array Tryd.underlying53 hd6
  have c9 : Tryd.prog.cellsOf 9 = 1 := by kernel_rfl
  have hE := hel i hi
  rw [c9, Nat.mul_one, List.getElem?_eq_getElem (by omega)] at hE
  obtain ⟨z, e1, e2, _⟩ := DataW.trod_string Tryd.underlying9 hE
  have e3 : (xs.map (·.1)) = namesL.map fun l => .lit (.string l) := (DataW.agg.inj (Prod.mk.inj ex).1).symm
  have e4 : (xs.map (·.1))[i]? = (namesL.map fun l => (DataW.lit (.string l) : DataW Unit))[i]? := by rw [e3]
  have hlen : namesL.length = 28 := rfl
  rw [List.getElem?_map, List.getElem?_map, List.getElem?_eq_getElem (by omega : i < xs.length), List.getElem?_eq_getElem (by omega : i < namesL.length), e2] at e4
  have hz : z = nameAt i := by
    simp only [Option.map_some, Option.some.injEq, DataW.lit.injEq, Lit.string.injEq] at e4
    unfold nameAt
    rw [List.getD, List.getElem?_eq_getElem (by omega : i < namesL.length)]
    apply ByteArray.ext
    apply Array.toList_inj.1
    simpa using e4
  rw [World.var?_cell hg6 hv6 i, ← hz]
  have : cs6.toList[i]? = some (.string z) := by
    have h0 : ((cs6.toList.drop i).take 1)[0]? = some (.string z) := by rw [e1]; rfl
    simpa using h0
  simpa using this
end Go.Proofs.YtmfmakkiefgogaaDoor
