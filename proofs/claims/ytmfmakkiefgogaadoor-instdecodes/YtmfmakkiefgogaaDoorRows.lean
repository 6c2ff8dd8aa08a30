/-
  NARROWER THAN 'FOR EVERY INPUT', by the rows' own cells (each row's printed sentence says how): WordOps: laid · WordNames: laid · WordDivides: laid · WordHalves: laid · WordShifts: laid · InstDecodes: laid.
  DERIVED. THE GIVEN ROWS OF THIS SEAT. 6 by the template 'for every input the law returns true; each argument reads behind the call as it read before'; 0 by the template 'total and deterministic' (their statements: YtmfmakkiefgogaaDoorTotals.lean).
  GIVEN WITH THE SEED: the statements are not yours to turn. If you find one false, say at which input.
  Laid BY PROGRAM, IN A SANDBOX (cutbox-rows.mjs): the forced cells as the released guide's own fill.sh prints them over the translation 24e16b96b708abd5… (all of the seat's roots in one cut). By AI agents, Wed Nov 11 2026. No macro, syntax, notation, axiom, sorry.
-/
import Derived.Test.YtmfmakkiefgogaaDoorChecked
import GoSem.Claim
import GoSem.ClaimJoined
import GoSem.ClaimMapViews
import Derived.JoinedTies
import Derived.KernelRfl
namespace Go.Proofs.YtmfmakkiefgogaaDoor
/- THE CELL 'sum', in the pinned program and in every row, IS THE sha256 OF THE DUMP (.gsa) THAT YtmfmakkiefgogaaDoorProg.lean LOADS. Nothing in Lean hashes anything: it is a label: what it is worth is what the hold of that sum in a sandbox is worth. -/
noncomputable def Tryd.pinned : Pinned := { name := "ytmfmakkiefgogaadoor", sum := "24e16b96b708abd5a6ac68848dd9e415ab963e3664b9eba64d2de5e907795145", checked := Tryd.checked }
namespace Rows
def none {H : Type} : Left H := { results := [], args := [] }

/- WHAT THE LISTED PACKAGE-LEVEL VARIABLES READ AS WHEN THE CALL BEGINS. Each datum BY PROGRAM (the guide's laid-datum.mjs) off the statement by which the dump's own 'gosem.cut.vars' lays the variable. In a bare row this is a premise. The card (YtmfmakkiefgogaaDoorCards.lean) ties it to the program's text. -/
def laid_turnbuckle_word_names {H : Type} : DataW H := .agg [.lit (.string [97, 100, 100]), .lit (.string [115, 117, 98]), .lit (.string [115, 108, 108]), .lit (.string [115, 108, 116]), .lit (.string [115, 108, 116, 117]), .lit (.string [120, 111, 114]), .lit (.string [115, 114, 108]), .lit (.string [115, 114, 97]), .lit (.string [111, 114]), .lit (.string [97, 110, 100]), .lit (.string [109, 117, 108]), .lit (.string [109, 117, 108, 104]), .lit (.string [109, 117, 108, 104, 115, 117]), .lit (.string [109, 117, 108, 104, 117]), .lit (.string [100, 105, 118]), .lit (.string [100, 105, 118, 117]), .lit (.string [114, 101, 109]), .lit (.string [114, 101, 109, 117]), .lit (.string [97, 100, 100, 119]), .lit (.string [115, 117, 98, 119]), .lit (.string [115, 108, 108, 119]), .lit (.string [115, 114, 108, 119]), .lit (.string [115, 114, 97, 119]), .lit (.string [109, 117, 108, 119]), .lit (.string [100, 105, 118, 119]), .lit (.string [100, 105, 118, 117, 119]), .lit (.string [114, 101, 109, 119]), .lit (.string [114, 101, 109, 117, 119])]
def laid_turnbuckle_inst_forms {H : Type} : DataW H := .agg [.lit (.int .u8 85), .lit (.int .u8 85), .lit (.int .u8 74), .lit (.int .u8 73), .lit (.int .u8 66), .lit (.int .u8 66), .lit (.int .u8 66), .lit (.int .u8 66), .lit (.int .u8 66), .lit (.int .u8 66), .lit (.int .u8 73), .lit (.int .u8 73), .lit (.int .u8 73), .lit (.int .u8 73), .lit (.int .u8 73), .lit (.int .u8 73), .lit (.int .u8 73), .lit (.int .u8 83), .lit (.int .u8 83), .lit (.int .u8 83), .lit (.int .u8 83), .lit (.int .u8 73), .lit (.int .u8 73), .lit (.int .u8 73), .lit (.int .u8 73), .lit (.int .u8 73), .lit (.int .u8 73), .lit (.int .u8 72), .lit (.int .u8 72), .lit (.int .u8 72), .lit (.int .u8 73), .lit (.int .u8 75), .lit (.int .u8 75), .lit (.int .u8 75), .lit (.int .u8 82), .lit (.int .u8 82), .lit (.int .u8 82), .lit (.int .u8 82), .lit (.int .u8 82), .lit (.int .u8 82), .lit (.int .u8 82), .lit (.int .u8 82), .lit (.int .u8 82), .lit (.int .u8 82), .lit (.int .u8 82), .lit (.int .u8 82), .lit (.int .u8 82), .lit (.int .u8 82), .lit (.int .u8 82), .lit (.int .u8 82), .lit (.int .u8 82), .lit (.int .u8 82), .lit (.int .u8 82), .lit (.int .u8 82), .lit (.int .u8 82), .lit (.int .u8 82), .lit (.int .u8 82), .lit (.int .u8 82), .lit (.int .u8 82), .lit (.int .u8 82), .lit (.int .u8 82), .lit (.int .u8 82), .lit (.int .u8 78), .lit (.int .u8 78)]
def laid_turnbuckle_inst_codes {H : Type} : DataW H := .agg [.lit (.int .u32 55), .lit (.int .u32 23), .lit (.int .u32 111), .lit (.int .u32 103), .lit (.int .u32 99), .lit (.int .u32 4195), .lit (.int .u32 16483), .lit (.int .u32 20579), .lit (.int .u32 24675), .lit (.int .u32 28771), .lit (.int .u32 3), .lit (.int .u32 4099), .lit (.int .u32 8195), .lit (.int .u32 12291), .lit (.int .u32 16387), .lit (.int .u32 20483), .lit (.int .u32 24579), .lit (.int .u32 35), .lit (.int .u32 4131), .lit (.int .u32 8227), .lit (.int .u32 12323), .lit (.int .u32 19), .lit (.int .u32 8211), .lit (.int .u32 12307), .lit (.int .u32 16403), .lit (.int .u32 24595), .lit (.int .u32 28691), .lit (.int .u32 4115), .lit (.int .u32 20499), .lit (.int .u32 1073762323), .lit (.int .u32 27), .lit (.int .u32 4123), .lit (.int .u32 20507), .lit (.int .u32 1073762331), .lit (.int .u32 51), .lit (.int .u32 1073741875), .lit (.int .u32 4147), .lit (.int .u32 8243), .lit (.int .u32 12339), .lit (.int .u32 16435), .lit (.int .u32 20531), .lit (.int .u32 1073762355), .lit (.int .u32 24627), .lit (.int .u32 28723), .lit (.int .u32 33554483), .lit (.int .u32 33558579), .lit (.int .u32 33562675), .lit (.int .u32 33566771), .lit (.int .u32 33570867), .lit (.int .u32 33574963), .lit (.int .u32 33579059), .lit (.int .u32 33583155), .lit (.int .u32 59), .lit (.int .u32 1073741883), .lit (.int .u32 4155), .lit (.int .u32 20539), .lit (.int .u32 1073762363), .lit (.int .u32 33554491), .lit (.int .u32 33570875), .lit (.int .u32 33574971), .lit (.int .u32 33579067), .lit (.int .u32 33583163), .lit (.int .u32 115), .lit (.int .u32 1048691)]

/-- 'turnbucklelaw05.WordOps': WHATEVER THE INPUT: true; the input reads as it did. -/
def wordOpsSpec : ChangeSpec := { name := "wordOps", fn := fun _ => fun
  | [d1, d2] => { results := [.lit (.bool true)], args := [d1, d2] }
  | _ => none }
def wordOpsRow : OpenClaim := { program := "ytmfmakkiefgogaadoor", sum := "24e16b96b708abd5a6ac68848dd9e415ab963e3664b9eba64d2de5e907795145", func := "turnbuckle/turnbucklelaw05.WordOps", spec := "wordOps", named := ["turnbuckle/word.names"], apart := false, laid := [("turnbuckle/word.names", laid_turnbuckle_word_names)] }
def WordOpsSaid : Prop := wordOpsRow.holds Tryd.pinned (OpenSpec.ofChange wordOpsSpec)

/-- ITS FALSE NEIGHBOUR: 'it returns false'. Refute it at one input. -/
def wordOpsWrong : ChangeSpec := { name := "wordOps", fn := fun _ => fun
  | [d1, d2] => { results := [.lit (.bool false)], args := [d1, d2] }
  | _ => none }
def WordOpsWrongFalsely : Prop := wordOpsRow.holds Tryd.pinned (OpenSpec.ofChange wordOpsWrong)

/-- 'turnbucklelaw05.WordNames': WHATEVER THE INPUT: true; the input reads as it did. -/
def wordNamesSpec : ChangeSpec := { name := "wordNames", fn := fun _ => fun
  | [d1, d2] => { results := [.lit (.bool true)], args := [d1, d2] }
  | _ => none }
def wordNamesRow : OpenClaim := { program := "ytmfmakkiefgogaadoor", sum := "24e16b96b708abd5a6ac68848dd9e415ab963e3664b9eba64d2de5e907795145", func := "turnbuckle/turnbucklelaw05.WordNames", spec := "wordNames", named := ["turnbuckle/word.names"], apart := false, laid := [("turnbuckle/word.names", laid_turnbuckle_word_names)] }
def WordNamesSaid : Prop := wordNamesRow.holds Tryd.pinned (OpenSpec.ofChange wordNamesSpec)

/-- ITS FALSE NEIGHBOUR: 'it returns false'. Refute it at one input. -/
def wordNamesWrong : ChangeSpec := { name := "wordNames", fn := fun _ => fun
  | [d1, d2] => { results := [.lit (.bool false)], args := [d1, d2] }
  | _ => none }
def WordNamesWrongFalsely : Prop := wordNamesRow.holds Tryd.pinned (OpenSpec.ofChange wordNamesWrong)

/-- 'turnbucklelaw05.WordDivides': WHATEVER THE INPUT: true; the input reads as it did. -/
def wordDividesSpec : ChangeSpec := { name := "wordDivides", fn := fun _ => fun
  | [d1, d2] => { results := [.lit (.bool true)], args := [d1, d2] }
  | _ => none }
def wordDividesRow : OpenClaim := { program := "ytmfmakkiefgogaadoor", sum := "24e16b96b708abd5a6ac68848dd9e415ab963e3664b9eba64d2de5e907795145", func := "turnbuckle/turnbucklelaw05.WordDivides", spec := "wordDivides", named := ["turnbuckle/word.names"], apart := false, laid := [("turnbuckle/word.names", laid_turnbuckle_word_names)] }
def WordDividesSaid : Prop := wordDividesRow.holds Tryd.pinned (OpenSpec.ofChange wordDividesSpec)

/-- ITS FALSE NEIGHBOUR: 'it returns false'. Refute it at one input. -/
def wordDividesWrong : ChangeSpec := { name := "wordDivides", fn := fun _ => fun
  | [d1, d2] => { results := [.lit (.bool false)], args := [d1, d2] }
  | _ => none }
def WordDividesWrongFalsely : Prop := wordDividesRow.holds Tryd.pinned (OpenSpec.ofChange wordDividesWrong)

/-- 'turnbucklelaw05.WordHalves': WHATEVER THE INPUT: true; the input reads as it did. -/
def wordHalvesSpec : ChangeSpec := { name := "wordHalves", fn := fun _ => fun
  | [d1, d2, d3] => { results := [.lit (.bool true)], args := [d1, d2, d3] }
  | _ => none }
def wordHalvesRow : OpenClaim := { program := "ytmfmakkiefgogaadoor", sum := "24e16b96b708abd5a6ac68848dd9e415ab963e3664b9eba64d2de5e907795145", func := "turnbuckle/turnbucklelaw05.WordHalves", spec := "wordHalves", named := ["turnbuckle/word.names"], apart := false, laid := [("turnbuckle/word.names", laid_turnbuckle_word_names)] }
def WordHalvesSaid : Prop := wordHalvesRow.holds Tryd.pinned (OpenSpec.ofChange wordHalvesSpec)

/-- ITS FALSE NEIGHBOUR: 'it returns false'. Refute it at one input. -/
def wordHalvesWrong : ChangeSpec := { name := "wordHalves", fn := fun _ => fun
  | [d1, d2, d3] => { results := [.lit (.bool false)], args := [d1, d2, d3] }
  | _ => none }
def WordHalvesWrongFalsely : Prop := wordHalvesRow.holds Tryd.pinned (OpenSpec.ofChange wordHalvesWrong)

/-- 'turnbucklelaw05.WordShifts': WHATEVER THE INPUT: true; the input reads as it did. -/
def wordShiftsSpec : ChangeSpec := { name := "wordShifts", fn := fun _ => fun
  | [d1, d2] => { results := [.lit (.bool true)], args := [d1, d2] }
  | _ => none }
def wordShiftsRow : OpenClaim := { program := "ytmfmakkiefgogaadoor", sum := "24e16b96b708abd5a6ac68848dd9e415ab963e3664b9eba64d2de5e907795145", func := "turnbuckle/turnbucklelaw05.WordShifts", spec := "wordShifts", named := ["turnbuckle/word.names"], apart := false, laid := [("turnbuckle/word.names", laid_turnbuckle_word_names)] }
def WordShiftsSaid : Prop := wordShiftsRow.holds Tryd.pinned (OpenSpec.ofChange wordShiftsSpec)

/-- ITS FALSE NEIGHBOUR: 'it returns false'. Refute it at one input. -/
def wordShiftsWrong : ChangeSpec := { name := "wordShifts", fn := fun _ => fun
  | [d1, d2] => { results := [.lit (.bool false)], args := [d1, d2] }
  | _ => none }
def WordShiftsWrongFalsely : Prop := wordShiftsRow.holds Tryd.pinned (OpenSpec.ofChange wordShiftsWrong)

/-- 'turnbucklelaw06.InstDecodes': WHATEVER THE INPUT: true; the input reads as it did. -/
def instDecodesSpec : ChangeSpec := { name := "instDecodes", fn := fun _ => fun
  | [d] => { results := [.lit (.bool true)], args := [d] }
  | _ => none }
def instDecodesRow : OpenClaim := { program := "ytmfmakkiefgogaadoor", sum := "24e16b96b708abd5a6ac68848dd9e415ab963e3664b9eba64d2de5e907795145", func := "turnbuckle/turnbucklelaw06.InstDecodes", spec := "instDecodes", inPlace := ["internal/bytealg.IndexByteString"], named := ["turnbuckle/inst.forms", "turnbuckle/inst.codes"], apart := false, laid := [("turnbuckle/inst.forms", laid_turnbuckle_inst_forms), ("turnbuckle/inst.codes", laid_turnbuckle_inst_codes)] }
def InstDecodesSaid : Prop := instDecodesRow.holds Tryd.pinned (OpenSpec.ofChange instDecodesSpec)

/-- ITS FALSE NEIGHBOUR: 'it returns false'. Refute it at one input. -/
def instDecodesWrong : ChangeSpec := { name := "instDecodes", fn := fun _ => fun
  | [d] => { results := [.lit (.bool false)], args := [d] }
  | _ => none }
def InstDecodesWrongFalsely : Prop := instDecodesRow.holds Tryd.pinned (OpenSpec.ofChange instDecodesWrong)

/- THE SECOND FORM. 'bulk': how many values and letters a reading holds, each counted each time it is reached (what is shared counts as often as it is met; a slice's spare places count too). A statement '..UptoSaid' is the law's where the arguments, and the package variables that the reading takes, are together of bulk at most 1048576: NARROWER than '..Said'. Prove '..Said' where nothing that the law and all that it calls make is longer than what came in: it says more and counts as full. Else prove '..UptoSaid'. A law counts once. -/
mutual
def uptoBulk {H : Type} : DataW H → Nat
  | .lit (.string bytes) => bytes.length + 1
  | .lit _ => 1
  | .nil => 1
  | .ptr d => uptoBulk d + 1
  | .slice elems spare => uptoBulkAll elems + uptoBulkAll spare + 1
  | .agg parts => uptoBulkAll parts + 1
  | .iface _ d => uptoBulk d + 1
  | .map entries => uptoBulkEntries entries + 1
  | .held _ => 1
def uptoBulkAll {H : Type} : List (DataW H) → Nat
  | [] => 0
  | d :: r => uptoBulk d + uptoBulkAll r
def uptoBulkEntries {H : Type} : List (Lit × DataW H) → Nat
  | [] => 0
  | x :: r => uptoBulkEntry x + uptoBulkEntries r
def uptoBulkEntry {H : Type} : Lit × DataW H → Nat
  | (.string bytes, d) => bytes.length + uptoBulk d + 1
  | (_, d) => uptoBulk d + 1
 end
def uptoSmall : (H : Type) → List (DataW H) → Bool := fun _ ds => decide (uptoBulkAll ds ≤ 1048576)
def OpenSpec.upto (s : _root_.Go.ChangeSpec) : _root_.Go.OpenSpec := { _root_.Go.OpenSpec.ofChange s with cond := some uptoSmall }

/-- 'turnbucklelaw05.WordOps', WHERE WHAT IT READS IS OF BULK AT MOST 1048576: true; the input reads as it did. -/
def wordOpsUptoRow : OpenClaim := { program := "ytmfmakkiefgogaadoor", sum := "24e16b96b708abd5a6ac68848dd9e415ab963e3664b9eba64d2de5e907795145", func := "turnbuckle/turnbucklelaw05.WordOps", spec := "wordOps", named := ["turnbuckle/word.names"], apart := false, laid := [("turnbuckle/word.names", laid_turnbuckle_word_names)], narrowed := true }
def WordOpsUptoSaid : Prop := wordOpsUptoRow.holds Tryd.pinned (OpenSpec.upto wordOpsSpec)

/-- 'turnbucklelaw05.WordNames', WHERE WHAT IT READS IS OF BULK AT MOST 1048576: true; the input reads as it did. -/
def wordNamesUptoRow : OpenClaim := { program := "ytmfmakkiefgogaadoor", sum := "24e16b96b708abd5a6ac68848dd9e415ab963e3664b9eba64d2de5e907795145", func := "turnbuckle/turnbucklelaw05.WordNames", spec := "wordNames", named := ["turnbuckle/word.names"], apart := false, laid := [("turnbuckle/word.names", laid_turnbuckle_word_names)], narrowed := true }
def WordNamesUptoSaid : Prop := wordNamesUptoRow.holds Tryd.pinned (OpenSpec.upto wordNamesSpec)

/-- 'turnbucklelaw05.WordDivides', WHERE WHAT IT READS IS OF BULK AT MOST 1048576: true; the input reads as it did. -/
def wordDividesUptoRow : OpenClaim := { program := "ytmfmakkiefgogaadoor", sum := "24e16b96b708abd5a6ac68848dd9e415ab963e3664b9eba64d2de5e907795145", func := "turnbuckle/turnbucklelaw05.WordDivides", spec := "wordDivides", named := ["turnbuckle/word.names"], apart := false, laid := [("turnbuckle/word.names", laid_turnbuckle_word_names)], narrowed := true }
def WordDividesUptoSaid : Prop := wordDividesUptoRow.holds Tryd.pinned (OpenSpec.upto wordDividesSpec)

/-- 'turnbucklelaw05.WordHalves', WHERE WHAT IT READS IS OF BULK AT MOST 1048576: true; the input reads as it did. -/
def wordHalvesUptoRow : OpenClaim := { program := "ytmfmakkiefgogaadoor", sum := "24e16b96b708abd5a6ac68848dd9e415ab963e3664b9eba64d2de5e907795145", func := "turnbuckle/turnbucklelaw05.WordHalves", spec := "wordHalves", named := ["turnbuckle/word.names"], apart := false, laid := [("turnbuckle/word.names", laid_turnbuckle_word_names)], narrowed := true }
def WordHalvesUptoSaid : Prop := wordHalvesUptoRow.holds Tryd.pinned (OpenSpec.upto wordHalvesSpec)

/-- 'turnbucklelaw05.WordShifts', WHERE WHAT IT READS IS OF BULK AT MOST 1048576: true; the input reads as it did. -/
def wordShiftsUptoRow : OpenClaim := { program := "ytmfmakkiefgogaadoor", sum := "24e16b96b708abd5a6ac68848dd9e415ab963e3664b9eba64d2de5e907795145", func := "turnbuckle/turnbucklelaw05.WordShifts", spec := "wordShifts", named := ["turnbuckle/word.names"], apart := false, laid := [("turnbuckle/word.names", laid_turnbuckle_word_names)], narrowed := true }
def WordShiftsUptoSaid : Prop := wordShiftsUptoRow.holds Tryd.pinned (OpenSpec.upto wordShiftsSpec)

/-- 'turnbucklelaw06.InstDecodes', WHERE WHAT IT READS IS OF BULK AT MOST 1048576: true; the input reads as it did. -/
def instDecodesUptoRow : OpenClaim := { program := "ytmfmakkiefgogaadoor", sum := "24e16b96b708abd5a6ac68848dd9e415ab963e3664b9eba64d2de5e907795145", func := "turnbuckle/turnbucklelaw06.InstDecodes", spec := "instDecodes", inPlace := ["internal/bytealg.IndexByteString"], named := ["turnbuckle/inst.forms", "turnbuckle/inst.codes"], apart := false, laid := [("turnbuckle/inst.forms", laid_turnbuckle_inst_forms), ("turnbuckle/inst.codes", laid_turnbuckle_inst_codes)], narrowed := true }
def InstDecodesUptoSaid : Prop := instDecodesUptoRow.holds Tryd.pinned (OpenSpec.upto instDecodesSpec)

end Rows
end Go.Proofs.YtmfmakkiefgogaaDoor
