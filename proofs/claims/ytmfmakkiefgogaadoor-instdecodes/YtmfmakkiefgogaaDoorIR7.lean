/-
  Layer 6: the document's Decode of any word answers what the program's Decode answers; no word has two kinds' fixed numbers. No condition.
-/
import Derived.Test.YtmfmakkiefgogaaDoorIR6a
import Derived.Test.YtmfmakkiefgogaaDoorIR6b
import Derived.Test.YtmfmakkiefgogaaDoorIR6c
namespace Go.Proofs.YtmfmakkiefgogaaDoor
open Go.RowKit
set_option linter.unusedVariables false

/-- No word has two kinds' fixed numbers. -/
theorem fit_one (x j k : Nat) (hj : j < 64) (hk : k < 64) (h1 : fit x j = true) (h2 : fit x k = true) : j = k := by
  have key : ∀ j, j < 64 → ∀ k, k < 64 → (codeAt j).toNat &&& maskOf (formAt k) = (codeAt k).toNat &&& maskOf (formAt j) → j = k := by decide +kernel
  refine key j hj k hk ?_
  unfold fit at h1 h2
  rw [beq_iff_eq] at h1 h2
  have e1 : (codeAt j).toNat = x &&& maskOf (formAt j) := by rw [← h1]; rfl
  have e2 : (codeAt k).toNat = x &&& maskOf (formAt k) := by rw [← h2]; rfl
  rw [e1, e2, Nat.and_assoc, Nat.and_assoc, Nat.and_comm (maskOf (formAt j))]
theorem kindF_is (x k : Nat) (hk : k < 64) (h : fit x k = true) : kindF x = some k :=
  kindF_some hk h fun j hj => by
    cases hf : fit x j with
    | false => rfl
    | true => exact absurd (fit_one x j k (by omega) hk hf h) (by omega)

theorem refdec_any (x : Nat) (w : World) (hx : x < 4294967296) :
    Calls Tryd.prog 19 #[.int .u32 x] w fun e w' => e = .returned (decV x) ∧ Below w.heap.size w w' := by
  by_cases h : ∃ k, k < 64 ∧ fit x k = true
  · obtain ⟨k, hk, hf⟩ := h
    have hb : ∀ j, j < k → fit x j = false := fun j hj => by
      cases hq : fit x j with
      | false => rfl
      | true => exact absurd (fit_one x j k (by omega) hk hq hf) (by omega)
    rcases letters9 k hk with hc | hc | hc | hc | hc | hc | hc | hc | hc
    · exact refdec_85 x k w hx hk hf hb hc
    · exact refdec_74 x k w hx hk hf hb hc
    · exact refdec_73 x k w hx hk hf hb hc
    · exact refdec_66 x k w hx hk hf hb hc
    · exact refdec_83 x k w hx hk hf hb hc
    · exact refdec_72 x k w hx hk hf hb hc
    · exact refdec_75 x k w hx hk hf hb hc
    · exact refdec_82 x k w hx hk hf hb hc
    · exact refdec_78 x k w hx hk hf hb hc
  · refine refdec_none x w hx fun j hj => ?_
    cases hq : fit x j with
    | false => rfl
    | true => exact absurd ⟨j, hj, hq⟩ h
end Go.Proofs.YtmfmakkiefgogaaDoor
