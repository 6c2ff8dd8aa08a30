/-
  What the listed variables of layer 2's rows give to the walks: the errors' words, and the table by which a power of two is told. No condition beyond the rows' own lists.
-/
import Derived.Test.YtjcefpeicbekhaaDoorRows
import Derived.WalkKit
import Derived.ProofKit
import Derived.OpenShut
import Derived.LaidMore
import Derived.Lib.LaidTab
import Derived.Stop.Joined
namespace Go.Proofs.YtjcefpeicbekhaaDoor
open Go.ChangeShapes Go.WideShapes Go.ChangeAt Go.RowKit

/-- The rows' list. -/
def laid8 : List (String × DataW Unit) := [("math/bits.deBruijn32tab", Rows.laid_math_bits_deBruijn32tab), ("math/bits.deBruijn64tab", Rows.laid_math_bits_deBruijn64tab), ("internal/strconv.uint64pow10", Rows.laid_internal_strconv_uint64pow10), ("unicode/utf8.acceptRanges", Rows.laid_unicode_utf8_acceptRanges), ("strconv.ErrRange", Rows.laid_strconv_ErrRange), ("strconv.ErrSyntax", Rows.laid_strconv_ErrSyntax), ("turnbuckle/fail.words", Rows.laid_turnbuckle_fail_words), ("unicode/utf8.first", Rows.laid_unicode_utf8_first)]

def wordsL : List (List UInt8) := [[111, 107], [97, 114, 103, 117, 109, 101, 110, 116], [115, 104, 111, 114, 116], [109, 97, 103, 105, 99], [102, 111, 114, 109], [114, 97, 110, 103, 101], [108, 105, 109, 105, 116], [115, 112, 97, 99, 101], [109, 97, 112, 112, 101, 100], [104, 111, 108, 101], [114, 101, 97, 100], [119, 114, 105, 116, 101], [101, 120, 101, 99], [97, 108, 105, 103, 110], [99, 111, 100, 101], [98, 114, 101, 97, 107], [102, 117, 101, 108], [100, 101, 112, 116, 104], [110, 111, 110, 101], [110, 101, 101, 100, 101, 100], [115, 121, 109, 98, 111, 108], [118, 101, 114, 115, 105, 111, 110], [114, 101, 108, 111, 99], [104, 97, 110, 100, 108, 101], [115, 121, 110, 116, 97, 120], [110, 97, 109, 101], [100, 111, 117, 98, 108, 101]]
def wordAt (i : Nat) : ByteArray := ⟨(wordsL.getD i []).toArray⟩

theorem words_datum : (Rows.laid_turnbuckle_fail_words : DataW Unit) = .agg (wordsL.map fun l => .lit (.string l)) := by rfl

def tab64 : List Int := [0, 1, 56, 2, 57, 49, 28, 3, 61, 58, 42, 50, 38, 29, 17, 4, 62, 47, 59, 36, 45, 43, 51, 22, 53, 39, 33, 30, 24, 18, 12, 5, 63, 55, 48, 27, 60, 41, 37, 16, 46, 35, 44, 21, 52, 32, 23, 11, 54, 26, 40, 15, 34, 20, 31, 10, 25, 14, 19, 9, 13, 8, 7, 6]
theorem tab64_datum : (Rows.laid_math_bits_deBruijn64tab : DataW Unit) = Lib.tabData .u8 tab64 := by rfl

theorem gWords : Tryd.prog.globalNamed "turnbuckle/fail.words" = some 0 := by kernel_rfl
theorem tWords : (Tryd.prog.globals[0]?).map (·.type) = some 41 := by kernel_rfl

theorem gTab : Tryd.prog.globalNamed "math/bits.deBruijn64tab" = some 6 := by kernel_rfl
theorem tTab : (Tryd.prog.globals[6]?).map (·.type) = some 88 := by kernel_rfl

/-- What the rows' list gives: the cells of the table. -/
theorem tab_of_laid {W : World} (h : laidMetH Tryd.prog laid8 W) : (∀ i, i < 64 → W.cell? ⟨6, i, none⟩ = some (.int .u8 (tab64.getD i 0))) := by
  rw [MakeChecks.laidMetH_plain _ _ _ (by kernel_rfl)] at h
  obtain ⟨ps, ⟨g0, t0, cs0, f0, p0, q0, hg0, ht0, hv0, hd0, ⟨g1, t1, cs1, f1, p1, q1, hg1, ht1, hv1, hd1, _, _⟩, _⟩, _, _⟩ := h
  obtain rfl := Option.some.inj (gTab.symm.trans hg1)
  obtain rfl := Option.some.inj (tTab.symm.trans ht1)
  intro i hi
  rw [tab64_datum] at hd1
  have hc := Lib.cells_of_tab Tryd.underlying88 Tryd.underlying5 (by kernel_rfl) (by kernel_rfl) hd1
  have hlen : tab64.length = 64 := rfl
  rw [World.var?_cell hg1 hv1 i, ← Array.getElem?_toList, hc, List.getElem?_map, List.getElem?_eq_getElem (by omega), List.getD, List.getElem?_eq_getElem (by omega)]
  rfl

/-- What the rows' list gives: the cells of the words. -/
theorem of_laid {W : World} (h : laidMetH Tryd.prog laid8 W) : (∀ i, i < 27 → W.cell? ⟨0, i, none⟩ = some (.string (wordAt i))) := by
  rw [MakeChecks.laidMetH_plain _ _ _ (by kernel_rfl)] at h
  obtain ⟨ps, ⟨g0, t0, cs0, f0, p0, q0, hg0, ht0, hv0, hd0, ⟨g1, t1, cs1, f1, p1, q1, hg1, ht1, hv1, hd1, ⟨_, _, _, _, _, _, _, _, _, _, ⟨_, _, _, _, _, _, _, _, _, _, ⟨_, _, _, _, _, _, _, _, _, _, ⟨_, _, _, _, _, _, _, _, _, _, ⟨g6, t6, cs6, f6, p6, q6, hg6, ht6, hv6, hd6, _, _⟩, _⟩, _⟩, _⟩, _⟩, _⟩, _⟩, _, _⟩ := h
  obtain rfl := Option.some.inj (gWords.symm.trans hg6)
  obtain rfl := Option.some.inj (tWords.symm.trans ht6)
  intro i hi
  rw [words_datum] at hd6
  obtain ⟨xs, m, _, ex, _, hl, hel⟩ := DataW.trod_array Tryd.underlying41 hd6
  have c9 : Tryd.prog.cellsOf 9 = 1 := by kernel_rfl
  have hE := hel i hi
  rw [c9, Nat.mul_one, List.getElem?_eq_getElem (by omega)] at hE
  obtain ⟨z, e1, e2, _⟩ := DataW.trod_string Tryd.underlying9 hE
  have e3 : (xs.map (·.1)) = wordsL.map fun l => .lit (.string l) := (DataW.agg.inj (Prod.mk.inj ex).1).symm
  have e4 : (xs.map (·.1))[i]? = (wordsL.map fun l => (DataW.lit (.string l) : DataW Unit))[i]? := by rw [e3]
  have hlen : wordsL.length = 27 := rfl
  rw [List.getElem?_map, List.getElem?_map, List.getElem?_eq_getElem (by omega : i < xs.length), List.getElem?_eq_getElem (by omega : i < wordsL.length), e2] at e4
  have hz : z = wordAt i := by
    simp only [Option.map_some, Option.some.injEq, DataW.lit.injEq, Lit.string.injEq] at e4
    unfold wordAt
    rw [List.getD, List.getElem?_eq_getElem (by omega : i < wordsL.length)]
    apply ByteArray.ext
    apply Array.toList_inj.1
    simpa using e4
  rw [World.var?_cell hg6 hv6 i, ← hz]
  have : cs6.toList[i]? = some (.string z) := by
    have h0 : ((cs6.toList.drop i).take 1)[0]? = some (.string z) := by rw [e1]; rfl
    simpa using h0
  simpa using this
end Go.Proofs.YtjcefpeicbekhaaDoor
