/-
  Layer 6: the statements' first question (a word of addi, decoded and encoded) is answered with true. Conditions: the tables hold the forms and the codes.
-/
import Derived.Test.YtmfmakkiefgogabDoorA6
namespace Go.Proofs.YtmfmakkiefgogabDoor
open Go.RowKit
set_option linter.unusedVariables false

theorem dec_addi : decF 5244179 = some ⟨21, 10, 0, 0, 5⟩ := by kernel_rfl
theorem enc_addi : encF ⟨21, 10, 0, 0, 5⟩ = some 5244179 := by decide +kernel

set_option maxRecDepth 10000 in
set_option maxHeartbeats 1600000 in
theorem speaks_any (w : World) (ht : Tabs w) : Calls Tryd.prog 7 #[] w fun e w' => e = .returned (.bool true) ∧ Below w.heap.size w w' := by
  have D : Calls Tryd.prog 15 #[.int .u32 5244179] w fun e w' => e = .returned (.tuple #[.agg #[.int .i64 21, .int .i64 10, .int .i64 0, .int .i64 0, .int .i64 5], .bool true]) ∧ Below w.heap.size w w' := by
    have h := dec_any 5244179 w (by omega) ht
    have e : decV 5244179 = .tuple #[.agg #[.int .i64 21, .int .i64 10, .int .i64 0, .int .i64 0, .int .i64 5], .bool true] := by unfold decV; rw [dec_addi]; rfl
    rw [e] at h
    exact h
  have E : Hid (∀ W, Below w.heap.size w W → Calls Tryd.prog 8 #[.agg #[.int .i64 21, .int .i64 10, .int .i64 0, .int .i64 0, .int .i64 5]] W fun e w' => e = .returned (.tuple #[.int .u32 5244179, .bool true]) ∧ Below W.heap.size W w') := by
    intro W hb
    have h := enc_any ⟨21, 10, 0, 0, 5⟩ W (ht.next hb)
    have e : encV ⟨21, 10, 0, 0, 5⟩ = .tuple #[.int .u32 5244179, .bool true] := by unfold encV; rw [enc_addi]; rfl
    rw [e] at h
    exact h
  clear ht
  go_enter Tryd.func7, Tryd.ntmps7
  go_wp2_with (first
    | (go_at_call 15; with_reducible refine D.mono ?_; rintro e w1 ⟨rfl, hb1⟩)
    | (go_at_call 8; with_reducible refine (E.out _ (hb1.alloc hb1.size _)).mono ?_; rintro e w2 ⟨rfl, hb2⟩
       obtain ⟨b0, b1, b2, b3, b4⟩ := box27 w1 21 10 0 0 5
       replace b0 := (hb2.cell (World.block_lt_of_cell? _ _ b0)).trans b0
       replace b1 := (hb2.cell (World.block_lt_of_cell? _ _ b1)).trans b1
       replace b2 := (hb2.cell (World.block_lt_of_cell? _ _ b2)).trans b2
       replace b3 := (hb2.cell (World.block_lt_of_cell? _ _ b3)).trans b3
       replace b4 := (hb2.cell (World.block_lt_of_cell? _ _ b4)).trans b4))
  go_ret
  exact ⟨rfl, (hb1.alloc hb1.size _).trans (hb2.mono (Nat.le_trans hb1.size (by simp)))⟩
end Go.Proofs.YtmfmakkiefgogabDoor
