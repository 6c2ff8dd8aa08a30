/-
  Layer 6: the document's Kinds. No condition.
-/
import Derived.Test.YtmfmakkiefgogaaDoorIK1
import Derived.Great.BuildSlice
namespace Go.Proofs.YtmfmakkiefgogaaDoor
open Go.RowKit
set_option linter.unusedVariables false

def z41 : Value := .agg #[.string ⟨#[]⟩, .string ⟨#[]⟩, .int .u32 0, .int .u32 0, .int .u32 0]
theorem info41 : (Tryd.prog.info? 63).map (fun i => (i.zero, i.size)) = some (some z41, 5) := by kernel_rfl
theorem parts41 : ∃ ie, Tryd.prog.info? 63 = some ie ∧ ie.zero = some z41 ∧ ie.size = 5 := by
  have h := info41
  cases hi : Tryd.prog.info? 63 with
  | none => rw [hi] at h; cases h
  | some ie =>
    rw [hi] at h
    simp only [Option.map_some, Option.some.injEq, Prod.mk.injEq] at h
    exact ⟨ie, rfl, h.1, h.2⟩

set_option maxRecDepth 1000000 in
set_option maxHeartbeats 16000000 in
theorem ref_kinds (w : World) : Calls Tryd.prog 32 #[] w fun e w' => ∃ B, e = .returned (.slice (some ⟨B, 0, none⟩) 64 64) ∧ KindsAt w' B ∧ Below w.heap.size w w' := by
  obtain ⟨ie, hie, hz, hs⟩ := parts41
  go_enter Tryd.func32, Tryd.ntmps32
  go_wp2_with (refine wpList_buildSlice (P := Tryd.prog) rfl 59 63 64 _ rfl kindsCells ie z41 Tryd.underlying59 hie hz (by rw [hs]; omega) (by rw [hs]; omega) (by rw [hs]; kernel_rfl) ?_)
  go_ret
  exact ⟨_, rfl, kinds_new w _ rfl, by go_grown⟩
end Go.Proofs.YtmfmakkiefgogaaDoor
