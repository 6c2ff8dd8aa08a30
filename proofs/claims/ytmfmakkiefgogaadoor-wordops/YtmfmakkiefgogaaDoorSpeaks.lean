/-
  Layer 5: the statements' first question (a quotient towards 0, a name, a sum of halves) is answered with true. Conditions: the names' variable holds the names.
-/
import Derived.Test.YtmfmakkiefgogaaDoorA3
namespace Go.Proofs.YtmfmakkiefgogaaDoor
open Go.RowKit
set_option linter.unusedVariables false

theorem op_div : op 14 18446744073709551609 2 = 18446744073709551613 := by decide +kernel
theorem op_addw : op 18 2147483647 1 = 18446744071562067968 := by decide +kernel

theorem addw_18 : nameAt 18 = ⟨#[97, 100, 100, 119]⟩ := rfl
theorem addw_only : ∀ j, j < 18 → nameAt j ≠ ⟨#[97, 100, 100, 119]⟩ := by
  intro j hj
  have h : ∀ j, j < 18 → (nameAt j).data.toList ≠ [97, 100, 100, 119] := by decide +kernel
  intro e
  exact h j hj (by rw [e])

theorem named_addw (w : World) (h : ∀ i, i < 28 → w.cell? ⟨0, i, none⟩ = some (.string (nameAt i))) :
    Calls Tryd.prog 15 #[.string ⟨#[97, 100, 100, 119]⟩] w fun e w' => e = .returned (.tuple #[.int .i64 18, .bool true]) ∧ w' = w := by
  refine (named_any _ w h).mono fun e w' he => ?_
  obtain ⟨⟨k, hk, e1, e2, rfl⟩ | ⟨h1, _⟩, rfl⟩ := he
  · have h18 : k = 18 := by
      by_cases hlt : k < 18
      · exact absurd e1 (addw_only k hlt)
      · by_cases hgt : 18 < k
        · exact absurd addw_18 (e2 18 hgt)
        · omega
    subst h18
    exact ⟨rfl, rfl⟩
  · exact absurd addw_18 (h1 18 (by omega))

theorem do_div (w : World) : Calls Tryd.prog 10 #[.int .i64 14, .int .u64 18446744073709551609, .int .u64 2] w fun e w' => e = .returned (.int .u64 18446744073709551613) ∧ w' = w := by
  have h := do_any 14 18446744073709551609 2 (by omega) (by omega) (by omega) (by omega) w (by omega)
  rw [op_div] at h
  exact h
theorem do_addw (w : World) : Calls Tryd.prog 10 #[.int .i64 18, .int .u64 2147483647, .int .u64 1] w fun e w' => e = .returned (.int .u64 18446744071562067968) ∧ w' = w := by
  have h := do_any 18 2147483647 1 (by omega) (by omega) (by omega) (by omega) w (by omega)
  rw [op_addw] at h
  exact h

set_option maxHeartbeats 400000 in
theorem speaks_any (w : World) (h : ∀ i, i < 28 → w.cell? ⟨0, i, none⟩ = some (.string (nameAt i))) :
    Calls Tryd.prog 9 #[] w fun e w' => e = .returned (.bool true) ∧ w' = w := by
  have N := named_addw w h
  clear h
  go_enter Tryd.func9, Tryd.ntmps9
  go_wp2_with (first
    | (go_at_call 15; refine N.mono ?_; rintro e w' ⟨rfl, rfl⟩)
    | (go_at_call 10; with_reducible refine (do_div _).mono ?_; rintro e w' ⟨rfl, rfl⟩)
    | (go_at_call 10; with_reducible refine (do_addw _).mono ?_; rintro e w' ⟨rfl, rfl⟩))
  go_ret
  exact ⟨rfl, rfl⟩
end Go.Proofs.YtmfmakkiefgogaaDoor
