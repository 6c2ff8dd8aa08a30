/-
  Layer 13: Build of what may not be.
-/
import Derived.Test.YtffmkkfacemchaaB1
namespace Go.Proofs.Ytffmkkfacemchaa
open Go.RowKit Go.Sort
set_option linter.unusedVariables false

set_option maxHeartbeats 1000000 in
theorem build_bad (an : Option Addr) (nn cn : Nat) (nb : Int) (w : World) (h : nb < 1 ∨ 256 < nb ∨ nn < 1 ∨ 256 < nn) :
    Calls Try.prog 19 #[.slice an nn cn, .int .i64 nb] w fun e w' => e = .returned (.tuple #[tbv (.slice none 0 0) (.slice none 0 0), .bool false]) ∧ Below w.heap.size w w' := by
  have hb : Below w.heap.size w (w.alloc (.cells #[.slice none 0 0, .slice none 0 0] 25)) := (Below.refl _ w).alloc (Nat.le_refl _) _
  have hr : (w.alloc (.cells #[.slice none 0 0, .slice none 0 0] 25)).rangeAt w.heap.size 0 [.slice none 0 0, .slice none 0 0] := range2 (World.alloc_heap_new w _)
  by_cases i1 : nb < 1
  · clear h
    go_enter Try.func19, Try.ntmps19
    go_wp2
    exact ⟨rfl, _, results_cell_mid2 (fn := Try.f19) rfl _ _ w.heap.size 0 _ _ rfl hr Try.underlying25 rfl info25, rfl, hb⟩
  · by_cases i2 : 256 < nb
    · clear h
      go_enter Try.func19, Try.ntmps19
      go_wp2
      exact ⟨rfl, _, results_cell_mid2 (fn := Try.f19) rfl _ _ w.heap.size 0 _ _ rfl hr Try.underlying25 rfl info25, rfl, hb⟩
    · by_cases i3 : (nn : Int) < 1
      · clear h
        go_enter Try.func19, Try.ntmps19
        go_wp2
        exact ⟨rfl, _, results_cell_mid2 (fn := Try.f19) rfl _ _ w.heap.size 0 _ _ rfl hr Try.underlying25 rfl info25, rfl, hb⟩
      · have i4 : (256 : Int) < (nn : Int) := by omega
        clear h
        go_enter Try.func19, Try.ntmps19
        go_wp2
        exact ⟨rfl, _, results_cell_mid2 (fn := Try.f19) rfl _ _ w.heap.size 0 _ _ rfl hr Try.underlying25 rfl info25, rfl, hb⟩
end Go.Proofs.Ytffmkkfacemchaa
