/-
  Layer 5: the names of the document, one by one. Conditions: the names' variable holds the names.
-/
import Derived.Test.YtmfmakkiefgogaaDoorSpeaks
namespace Go.Proofs.YtmfmakkiefgogaaDoor
open Go.RowKit
set_option linter.unusedVariables false

set_option maxRecDepth 100000 in
set_option maxHeartbeats 1600000 in
theorem ref_names (w : World) : Calls Tryd.prog 12 #[] w fun e w' => ∃ B, e = .returned (.slice (some ⟨B, 0, none⟩) 28 28) ∧ (∀ j, j < 28 → w'.cell? ⟨B, j, none⟩ = some (.string (nameAt j))) ∧ Below w.heap.size w w' := by
  go_enter Tryd.func12, Tryd.ntmps12
  go_wp2
  go_ret
  refine ⟨_, rfl, fun j hj => ?_, (Below.refl _ w).alloc (Nat.le_refl _) _⟩
  obtain rfl | rfl | rfl | rfl | rfl | rfl | rfl | rfl | rfl | rfl | rfl | rfl | rfl | rfl | rfl | rfl | rfl | rfl | rfl | rfl | rfl | rfl | rfl | rfl | rfl | rfl | rfl | rfl : j = 0 ∨ j = 1 ∨ j = 2 ∨ j = 3 ∨ j = 4 ∨ j = 5 ∨ j = 6 ∨ j = 7 ∨ j = 8 ∨ j = 9 ∨ j = 10 ∨ j = 11 ∨ j = 12 ∨ j = 13 ∨ j = 14 ∨ j = 15 ∨ j = 16 ∨ j = 17 ∨ j = 18 ∨ j = 19 ∨ j = 20 ∨ j = 21 ∨ j = 22 ∨ j = 23 ∨ j = 24 ∨ j = 25 ∨ j = 26 ∨ j = 27 := by omega
  all_goals simp [go_sem]
  all_goals rfl

theorem names_inj (i j : Nat) (hi : i < 28) (hj : j < 28) (h : nameAt i = nameAt j) : i = j := by
  have h1 : ∀ i, i < 28 → ∀ j, j < 28 → namesL.getD i [] = namesL.getD j [] → i = j := by decide +kernel
  refine h1 i hi j hj ?_
  have := congrArg (fun b : ByteArray => b.data.toList) h
  simpa [nameAt] using this
theorem names_full (i : Nat) (hi : i < 28) : (nameAt i).toList.isEmpty = false := by
  rw [toList_eq]
  have h1 : ∀ i, i < 28 → (nameAt i).data.toList.isEmpty = false := by decide +kernel
  exact h1 i hi


end Go.Proofs.YtmfmakkiefgogaaDoor
