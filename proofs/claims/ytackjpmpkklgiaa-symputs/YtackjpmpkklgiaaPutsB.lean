/-
  The statement SymPuts: its walk, where there is no such symbol.
-/
import Derived.Test.YtackjpmpkklgiaaP1
import Derived.Test.YtackjpmpkklgiaaG1
import Derived.Test.YtackjpmpkklgiaaO1
namespace Go.Proofs.Ytackjpmpkklgiaa
open Go.RowKit
set_option linter.unusedVariables false

theorem x_next {W W' : World} {N : Nat} {v0 v1 v2 v3 v4 v5 : Value} (hb : Below W.heap.size W W')
    (h : W.cell? ⟨N, 0, none⟩ = some v0 ∧ W.cell? ⟨N, 1, none⟩ = some v1 ∧ W.cell? ⟨N, 2, none⟩ = some v2 ∧ W.cell? ⟨N, 3, none⟩ = some v3 ∧ W.cell? ⟨N, 4, none⟩ = some v4 ∧ W.cell? ⟨N, 5, none⟩ = some v5) :
    W'.cell? ⟨N, 0, none⟩ = some v0 ∧ W'.cell? ⟨N, 1, none⟩ = some v1 ∧ W'.cell? ⟨N, 2, none⟩ = some v2 ∧ W'.cell? ⟨N, 3, none⟩ = some v3 ∧ W'.cell? ⟨N, 4, none⟩ = some v4 ∧ W'.cell? ⟨N, 5, none⟩ = some v5 := by
  obtain ⟨h0, h1, h2, h3, h4, h5⟩ := h
  have k : ∀ {j v}, W.cell? ⟨N, j, none⟩ = some v → W'.cell? ⟨N, j, none⟩ = some v := fun hc => (hb.cell (World.block_lt_of_cell? W _ hc)).trans hc
  exact ⟨k h0, k h1, k h2, k h3, k h4, k h5⟩

set_option maxRecDepth 100000 in
set_option maxHeartbeats 8000000 in
theorem puts_bad (b k v x z n : Int) (d : Bool) (w : World) (h : ¬ (0 ≤ b ∧ b ≤ 2) ∨ k < 0 ∨ 15 < k ∨ v < 0 ∨ 3 < v) :
    Calls Try.prog 4 #[.agg #[.int .i64 b, .int .i64 k, .int .i64 v, .bool d, .int .u64 x, .int .u64 z], .int .u32 n] w fun e w' => e = .returned (.bool true) ∧ Below w.heap.size w w' := by
  have PB : ∀ W, Calls Try.prog 15 #[(⟨⟨#[]⟩, b, k, v, d, x, z⟩ : Sy).val, .int .u32 n] W fun e w' => e = .returned (.string ⟨#[]⟩) ∧ w' = W.alloc (⟨⟨#[]⟩, b, k, v, d, x, z⟩ : Sy).box := fun W => put_bad ⟨⟨#[]⟩, b, k, v, d, x, z⟩ n W h
  obtain ⟨w0, hw0⟩ : ∃ w0, w.alloc (.cells #[.int .i64 b, .int .i64 k, .int .i64 v, .bool d, .int .u64 x, .int .u64 z] 39) = w0 := ⟨_, rfl⟩
  have HX : Hid (w0.cell? ⟨w.heap.size, 0, none⟩ = some (.int .i64 b) ∧ w0.cell? ⟨w.heap.size, 1, none⟩ = some (.int .i64 k) ∧ w0.cell? ⟨w.heap.size, 2, none⟩ = some (.int .i64 v) ∧ w0.cell? ⟨w.heap.size, 3, none⟩ = some (.bool d) ∧ w0.cell? ⟨w.heap.size, 4, none⟩ = some (.int .u64 x) ∧ w0.cell? ⟨w.heap.size, 5, none⟩ = some (.int .u64 z)) := by
    rw [← hw0]
    refine ⟨?_, ?_, ?_, ?_, ?_, ?_⟩ <;> simp [go_sem]
  have H0 : Hid (w.alloc (.cells #[.int .i64 b, .int .i64 k, .int .i64 v, .bool d, .int .u64 x, .int .u64 z] 39) = w0) := hw0
  have HB0 : Hid (Below w.heap.size w w0) := by show Below _ _ _; rw [← hw0]; exact (Below.refl _ w).alloc (Nat.le_refl _) _
  clear hw0
  have hcase : b < 0 ∨ (¬ b < 0 ∧ 2 < b) ∨ (¬ b < 0 ∧ ¬ 2 < b ∧ k < 0) ∨ (¬ b < 0 ∧ ¬ 2 < b ∧ ¬ k < 0 ∧ 15 < k) ∨ (¬ b < 0 ∧ ¬ 2 < b ∧ ¬ k < 0 ∧ ¬ 15 < k ∧ v < 0) ∨ (¬ b < 0 ∧ ¬ 2 < b ∧ ¬ k < 0 ∧ ¬ 15 < k ∧ ¬ v < 0 ∧ 3 < v) := by omega
  clear h
  rcases hcase with h1 | ⟨h1, h2⟩ | ⟨h1, h2, h3⟩ | ⟨h1, h2, h3, h4⟩ | ⟨h1, h2, h3, h4, h5⟩ | ⟨h1, h2, h3, h4, h5, h6⟩
  all_goals
    go_enter Try.func4, Try.ntmps4
    go_wp2_with (first
      | (go_at_call 9; rw [H0.out]; refine (speaks_any _).mono ?_; rintro e w1 ⟨rfl, hb1⟩; obtain ⟨x0, x1, x2, x3, x4, x5⟩ := x_next hb1 HX.out; have hlt := World.block_lt_of_cell? _ _ x0)
      | (go_at_call 15; refine (PB _).mono ?_; rintro e w2 ⟨rfl, rfl⟩))
    go_ret
    refine ⟨rfl, bt HB0.out (bt hb1 ?_)⟩
    exact ((Below.refl _ w1).alloc (Nat.le_refl _) _).alloc (by simp) _
end Go.Proofs.Ytackjpmpkklgiaa
