/-
  Layer 15: the walk of RelaValues.
-/
import Derived.Test.YtghbkjdjginfjaaR2
namespace Go.Proofs.Ytghbkjdjginfjaa
open Go.RowKit
set_option linter.unusedVariables false

/-- A block of four cells that was laid ahead is there yet. -/
def Four (W : World) (B : Nat) (v0 v1 v2 v3 : Value) : Prop := W.cell? ⟨B, 0, none⟩ = some v0 ∧ W.cell? ⟨B, 1, none⟩ = some v1 ∧ W.cell? ⟨B, 2, none⟩ = some v2 ∧ W.cell? ⟨B, 3, none⟩ = some v3
theorem Four.next {W W' : World} {B : Nat} {v0 v1 v2 v3 : Value} (h : Four W B v0 v1 v2 v3) (hb : Below W.heap.size W W') : Four W' B v0 v1 v2 v3 := by
  obtain ⟨h0, h1, h2, h3⟩ := h
  have k : ∀ {j v}, W.cell? ⟨B, j, none⟩ = some v → W'.cell? ⟨B, j, none⟩ = some v := fun hc => (hb.cell (World.block_lt_of_cell? W _ hc)).trans hc
  exact ⟨k h0, k h1, k h2, k h3⟩
theorem Four.new (w : World) (v0 v1 v2 v3 : Value) (t : TypeId) : Four (w.alloc (.cells #[v0, v1, v2, v3] t)) w.heap.size v0 v1 v2 v3 := by
  refine ⟨?_, ?_, ?_, ?_⟩
  all_goals (rw [World.cell?_alloc_at _ _ _ _ (by simp)]; rfl)

set_option maxRecDepth 100000 in
set_option maxHeartbeats 4000000 in
theorem values_walk (a k s d base symbol : Int) (w : World) : Calls Try.prog 5 #[.agg #[.int .u64 a, .int .i64 k, .int .i64 s, .int .u64 d], .int .u64 base, .int .u64 symbol] w fun e w' => e = .returned (.bool true) ∧ Below w.heap.size w w' := by
  have VA := fun W => value_any a k s d base symbol W
  by_cases h2 : k = 2
  · subst h2
    have hv : valF a 2 s d base symbol = IntKind.u64.wrap (symbol + d) := by unfold valF; simp
    rw [hv] at VA
    clear hv
    go_enter Try.func5, Try.ntmps5
    go_wp2_with (first
      | (go_at_call 7; refine (speaks_any _).mono ?_; rintro e w1 ⟨rfl, hb1⟩; have F1 := (Four.new _ _ _ _ _ _).next hb1; obtain ⟨c0, c1, c2, c3⟩ := F1)
      | (go_at_call 12; refine (VA _).mono ?_; rintro e w2 ⟨rfl, hb2⟩; have F2 := Four.next ⟨c0, c1, c2, c3⟩ hb2; obtain ⟨d0, d1, d2, d3⟩ := F2))
    go_ret
    exact ⟨rfl, bt (bt ((Below.refl _ w).alloc (Nat.le_refl _) _) hb1) hb2⟩
  by_cases h5 : k = 5
  · subst h5
    have hv : valF a 5 s d base symbol = IntKind.u64.wrap (symbol + d) := by unfold valF; simp
    rw [hv] at VA
    clear hv
    go_enter Try.func5, Try.ntmps5
    go_wp2_with (first
      | (go_at_call 7; refine (speaks_any _).mono ?_; rintro e w1 ⟨rfl, hb1⟩; have F1 := (Four.new _ _ _ _ _ _).next hb1; obtain ⟨c0, c1, c2, c3⟩ := F1)
      | (go_at_call 12; refine (VA _).mono ?_; rintro e w2 ⟨rfl, hb2⟩; have F2 := Four.next ⟨c0, c1, c2, c3⟩ hb2; obtain ⟨d0, d1, d2, d3⟩ := F2))
    go_ret
    exact ⟨rfl, bt (bt ((Below.refl _ w).alloc (Nat.le_refl _) _) hb1) hb2⟩
  by_cases h3 : k = 3
  · subst h3
    have hv : valF a 3 s d base symbol = IntKind.u64.wrap (base + d) := by unfold valF; simp
    rw [hv] at VA
    clear hv
    go_enter Try.func5, Try.ntmps5
    go_wp2_with (first
      | (go_at_call 7; refine (speaks_any _).mono ?_; rintro e w1 ⟨rfl, hb1⟩; have F1 := (Four.new _ _ _ _ _ _).next hb1; obtain ⟨c0, c1, c2, c3⟩ := F1)
      | (go_at_call 12; refine (VA _).mono ?_; rintro e w2 ⟨rfl, hb2⟩; have F2 := Four.next ⟨c0, c1, c2, c3⟩ hb2; obtain ⟨d0, d1, d2, d3⟩ := F2))
    go_ret
    exact ⟨rfl, bt (bt ((Below.refl _ w).alloc (Nat.le_refl _) _) hb1) hb2⟩
  · have hv : valF a k s d base symbol = 0 := by unfold valF; simp [h2, h5, h3]
    rw [hv] at VA
    clear hv
    go_enter Try.func5, Try.ntmps5
    go_wp2_with (first
      | (go_at_call 7; refine (speaks_any _).mono ?_; rintro e w1 ⟨rfl, hb1⟩; have F1 := (Four.new _ _ _ _ _ _).next hb1; obtain ⟨c0, c1, c2, c3⟩ := F1)
      | (go_at_call 12; refine (VA _).mono ?_; rintro e w2 ⟨rfl, hb2⟩; have F2 := Four.next ⟨c0, c1, c2, c3⟩ hb2; obtain ⟨d0, d1, d2, d3⟩ := F2))
    go_ret
    exact ⟨rfl, bt (bt ((Below.refl _ w).alloc (Nat.le_refl _) _) hb1) hb2⟩
end Go.Proofs.Ytghbkjdjginfjaa
