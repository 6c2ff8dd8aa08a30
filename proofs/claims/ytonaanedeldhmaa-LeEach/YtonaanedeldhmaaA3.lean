/-
  What each statement of layer 1 asks first: the ordinary answers are there.
-/
import Derived.Test.YtonaanedeldhmaaA2
namespace Go.Proofs.Ytonaanedeldhmaa
open Go.RowKit

/-- Two calls, one behind the other, of which neither turns what was there. -/
theorem bt {w a b : World} (h1 : Below w.heap.size w a) (h2 : Below a.heap.size a b) : Below w.heap.size w b := h1.trans (h2.mono h1.size)

theorem sp_at (w : World) : Calls Try.prog 19 #[.string ⟨#[120, 2, 1, 0, 0]⟩, .int .u64 1, .int .i64 4] w fun e w' => e = .returned (.tuple #[.int .u64 258, .bool true]) ∧ w' = w := by
  have h := at_yes ⟨#[120, 2, 1, 0, 0]⟩ ⟨#[2, 1, 0, 0]⟩ 1 4 w (by show _ = _; decide) (by decide) (by decide) (by decide) (by decide) (by decide)
  have e : num ⟨#[2, 1, 0, 0]⟩ = 258 := by decide
  rw [e] at h
  exact h
theorem sp_text (w : World) : Calls Try.prog 17 #[.string ⟨#[97, 98, 0, 99]⟩, .int .u64 1, .int .i64 9] w fun e w' => e = .returned (.tuple #[.string ⟨#[98]⟩, .bool true]) ∧ w' = w :=
  text_any _ _ _ _ _ _ (by show _ = _; decide) (by decide) (by decide)
theorem sp_put (w : World) : Calls Try.prog 9 #[.int .u64 258, .int .i64 4] w fun e w' => e = .returned (.string ⟨#[2, 1, 0, 0]⟩) ∧ Below w.heap.size w w' :=
  put_yes 258 4 w (by decide) (by decide)
theorem sp_ext (w : World) : Calls Try.prog 11 #[.int .u64 255, .int .i64 8] w fun e w' => e = .returned (.int .u64 18446744073709551615) ∧ w' = w := by
  have h := ext_any 255 8 w
  have e : ext 255 8 = 18446744073709551615 := by decide
  rw [e] at h
  exact h

set_option maxHeartbeats 400000 in
theorem speaks_any (w : World) : Calls Try.prog 8 #[] w fun e w' => e = .returned (.bool true) ∧ Below w.heap.size w w' := by
  go_enter Try.func8, Try.ntmps8
  go_wp2_with (first
    | (go_at_call 19; refine (sp_at _).mono ?_; rintro e w' ⟨rfl, rfl⟩)
    | (go_at_call 17; refine (sp_text _).mono ?_; rintro e w' ⟨rfl, rfl⟩)
    | (go_at_call 11; refine (sp_ext _).mono ?_; rintro e w' ⟨rfl, rfl⟩)
    | (go_at_call 9; refine (sp_put _).mono ?_; rintro e w' ⟨rfl, hb⟩))
  go_ret
  exact ⟨rfl, by assumption⟩

end Go.Proofs.Ytonaanedeldhmaa
