/-
  The statement RelaPlaces: its walk, where there are no relocations.
-/
import Derived.Test.YtghbkjdjginfjaaL1
namespace Go.Proofs.Ytghbkjdjginfjaa
open Go.RowKit
set_option linter.unusedVariables false

theorem row_zero' {W : World} {base size : Nat} {e : TypeId} {v : Value} {xs : List Value} (h : W.ownsRow base e size v 0 xs) : ∃ a c, v = .slice a 0 c := by
  rcases h.2 with ⟨rfl, _⟩ | ⟨g, cap, cur, rfl, _, _, _, hc, _⟩
  · exact ⟨none, 0, rfl⟩
  · exact ⟨_, _, rfl⟩

set_option maxRecDepth 100000 in
set_option maxHeartbeats 4000000 in
theorem places_empty (a0 : Option Addr) (cap : Nat) (bad : Int) (w : World) :
    Calls Try.prog 6 #[.slice a0 0 cap, .int .i64 bad] w fun e w' => e = .returned (.bool true) ∧ Below w.heap.size w w' := by
  have D : ∀ W, Calls Try.prog 9 #[.string ⟨#[]⟩, .int .i64 8] W fun e w' => (∃ a c, e = .returned (.tuple #[.slice a 0 c, flt 0 0])) ∧ Below W.heap.size W w' := fun W => (read_ok ⟨#[]⟩ 8 0 W (by omega) (by omega) rfl (by omega) (fun x hx => by simp [eachL] at hx)).mono (by
    rintro e w' ⟨v, rfl, hr, hb⟩
    obtain ⟨a, c, rfl⟩ := row_zero' hr
    exact ⟨⟨a, c, rfl⟩, hb⟩)
  go_enter Try.func6, Try.ntmps6
  go_wp2_with (go_at_call 7; refine (speaks_any _).mono ?_; rintro r w1 ⟨rfl, hb1⟩)
  go_loop [5, 6, 7] (fun s v i => v = .slice none 0 0 ∧ s = .string ⟨#[]⟩ ∧ i = .int .i64 0) (fun _ _ i => 0)
  case atStart => exact ⟨rfl, rfl, rfl⟩
  case round =>
    obtain ⟨rfl, rfl, rfl⟩ := hrel
    go_wp2_with (first
      | (go_at_call 9; refine (D _).mono ?_; rintro r w3 ⟨⟨a, c, rfl⟩, hb3⟩)
      | (go_at_call 13; refine (fok_any _ _ _).mono ?_; rintro r w5 ⟨rfl, rfl⟩))
    go_loop [11] (fun i => i = .int .i64 0) (fun i => 0)
    case atStart => exact rfl
    case round =>
      subst hrel
      go_wp2
      go_ret
      exact ⟨rfl, bt hb1 (bt hb3 (((Below.refl _ w3).alloc (Nat.le_refl _) _).alloc (by simp) _))⟩
end Go.Proofs.Ytghbkjdjginfjaa
