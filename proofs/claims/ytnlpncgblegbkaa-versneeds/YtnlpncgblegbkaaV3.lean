/-
  The statement VersDefs: its walk.
-/
import Derived.Test.YtnlpncgblegbkaaV2
import Derived.Test.YtnlpncgblegbkaaH2
import Derived.Deep.QuietTactic
import Derived.BigQuiet
namespace Go.Proofs.Ytnlpncgblegbkaa
open Go.RowKit
set_option linter.unusedVariables false

set_option maxHeartbeats 2000000 in
theorem ref_limit (b names : ByteArray) (n : Int) (w : World) (h : n < 0 ∨ 64 < n) : Calls Try.prog 12 #[.string b, .string names, .int .i64 n] w fun e w' => e = .returned (.tuple #[.slice none 0 0, .int .i64 6, .int .u64 0]) ∧ Below w.heap.size w w' := by
  by_cases h0 : n < 0
  · clear h
    go_enter Try.func12, Try.ntmps12
    go_wp2
    exact ⟨rfl, _, results_three rfl _ _, rfl, Below.refl _ _⟩
  · have h1 : 64 < n := by omega
    clear h
    go_enter Try.func12, Try.ntmps12
    go_wp2
    exact ⟨rfl, _, results_three rfl _ _, rfl, Below.refl _ _⟩

theorem flt_next {W W' : World} {B : Nat} {c a : Int} (hb : Below W.heap.size W W') (h0 : W.cell? ⟨B, 0, none⟩ = some (.int .i64 c)) (h1 : W.cell? ⟨B, 1, none⟩ = some (.int .u64 a)) : W'.cell? ⟨B, 0, none⟩ = some (.int .i64 c) ∧ W'.cell? ⟨B, 1, none⟩ = some (.int .u64 a) :=
  ⟨(hb.cell (World.block_lt_of_cell? W _ h0)).trans h0, (hb.cell (World.block_lt_of_cell? W _ h1)).trans h1⟩

theorem range3c (W : World) (c a : Int) : (W.alloc (fbox c a)).cell? ⟨W.heap.size, 0, none⟩ = some (.int .i64 c) ∧ (W.alloc (fbox c a)).cell? ⟨W.heap.size, 1, none⟩ = some (.int .u64 a) := by
  constructor <;> simp [go_sem]

set_option maxRecDepth 100000 in
set_option maxHeartbeats 4000000 in
theorem defs_long (b names : ByteArray) (n : Int) (w : World) (hbs : b.size ≤ 9223372036854775807) (hns : names.size ≤ 9223372036854775807) (h : 4000 < b.size ∨ 1000 < names.size) :
    Calls Try.prog 4 #[.string b, .string names, .int .i64 n] w fun e w' => e = .returned (.bool true) ∧ Below w.heap.size w w' := by
  by_cases h0 : 4000 < b.size
  · have h1 : (4000 : Int) < (b.size : Int) := by omega
    clear h h0
    go_enter Try.func4, Try.ntmps4
    go_wp2_with (go_at_call 8; refine (speaks12_any _).mono ?_; rintro e w1 ⟨rfl, hb1⟩)
    go_ret
    exact ⟨rfl, hb1⟩
  · have h1 : ¬ (4000 : Int) < (b.size : Int) := by omega
    have h2 : (1000 : Int) < (names.size : Int) := by omega
    clear h h0
    go_enter Try.func4, Try.ntmps4
    go_wp2_with (go_at_call 8; refine (speaks12_any _).mono ?_; rintro e w1 ⟨rfl, hb1⟩)
    go_ret
    exact ⟨rfl, hb1⟩

set_option maxRecDepth 100000 in
set_option maxHeartbeats 4000000 in
theorem defs_bad (b names : ByteArray) (n c a : Int) (w : World) (hbs : b.size ≤ 4000) (hns : names.size ≤ 1000)
    (D : ∀ W, Calls Try.prog 11 #[.string b, .string names, .int .i64 n] W fun e w' => e = .returned (.tuple #[.slice none 0 0, flt c a]) ∧ Below W.heap.size W w')
    (R : ∀ W, Calls Try.prog 12 #[.string b, .string names, .int .i64 n] W fun e w' => e = .returned (.tuple #[.slice none 0 0, .int .i64 c, .int .u64 a]) ∧ Below W.heap.size W w') :
    Calls Try.prog 4 #[.string b, .string names, .int .i64 n] w fun e w' => e = .returned (.bool true) ∧ Below w.heap.size w w' := by
  have h1 : ¬ (4000 : Int) < (b.size : Int) := by omega
  have h2 : ¬ (1000 : Int) < (names.size : Int) := by omega
  go_enter Try.func4, Try.ntmps4
  go_wp2_with (first
    | (go_at_call 8; refine (speaks12_any _).mono ?_; rintro e w1 ⟨rfl, hb1⟩)
    | (go_at_call 11; refine (D _).mono ?_; rintro e w2 ⟨rfl, hb2⟩; have hx := range3c w2 c a)
    | (go_at_call 12; refine (R _).mono ?_; rintro e w3 ⟨rfl, hb3⟩; obtain ⟨c0, c1⟩ := flt_next hb3 hx.1 hx.2))
  go_loop [12] (fun i => i = .int .i64 0) (fun i => 0)
  case atStart => exact rfl
  case round =>
    subst hrel
    go_wp2
    go_ret
    refine ⟨rfl, bt hb1 (bt hb2 (bt ?_ hb3))⟩
    exact (Below.refl _ w2).alloc (Nat.le_refl _) _
end Go.Proofs.Ytnlpncgblegbkaa
