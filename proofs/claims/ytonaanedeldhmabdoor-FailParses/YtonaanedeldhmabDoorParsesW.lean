/-
  The walk of the statement FailParses of layer 2: for any text it returns true and changes no cell that was there. Conditions: the package variables that it reads (Tabs, Errs), the text's length fits an int.
-/
import Derived.Test.YtonaanedeldhmabDoorA9
import Derived.Deep.RegionHeld3
import Derived.Deep.DrawnRows
import Derived.Deep.DeepCutAuto
namespace Go.Proofs.YtonaanedeldhmabDoor
open Go.ChangeShapes Go.WideShapes Go.ChangeAt Go.RowKit
set_option linter.unusedVariables false

set_option maxRecDepth 100000 in
set_option maxHeartbeats 3200000 in
theorem parses_walk (s : ByteArray) (w : World) (hs : s.size ≤ 9223372036854775807) (ht : Tabs w) (he : Errs w) :
    Calls Tryd.prog 3 #[.string s] w fun x w' => x = .returned (.bool true) ∧ Below w.heap.size w w' := by
  have H7 := ht.size
  have HT : Hid (Tabs w) := ht
  have HE : Hid (Errs w) := he
  clear ht he
  go_enter Tryd.func3, Tryd.ntmps3
  go_wp2_with (first | (go_at_call 6; refine (speaks_any _ HT.out).mono ?_; rintro e w1 ⟨rfl, hb1⟩))
  obtain ⟨S, hS⟩ : ∃ S, S = s.extract 0 (min (s.size : Int) 100).toNat := ⟨_, rfl⟩
  have hS1 : S.size ≤ 1000 := by rw [hS]; simp; omega
  rw [← hS]
  clear hS
  refine (parse_weak S w1 hS1 (HT.out.below hb1 H7) (HE.out.next hb1)).mono ?_
  rintro e w2 ⟨rfl | ⟨c, a, n, hc0, hc1, ha, hn, hSt, rfl⟩, hb2⟩
  · have hB : Below w.heap.size w w2 := hb1.trans (hb2.mono hb1.size)
    go_wp2
    go_ret
    exact ⟨rfl, hB.alloc hB.size _⟩
  · have hB : Below w.heap.size w w2 := hb1.trans (hb2.mono hb1.size)
    have HS : Hid (S = ⟨(textL c a n.data.toList).toArray⟩) := hSt
    clear hSt hb1 hb2
    have hB3 : Below w.heap.size w (w2.alloc (.cells #[.int .i64 c, .int .u64 (a : Int), .string n] 26)) := hB.alloc hB.size _
    have T8 := text_any c a n _ (HT.out.below hB3 H7) ha hn
    have T9 : ∀ w3, Calls Tryd.prog 9 #[.agg #[.int .i64 c, .int .u64 a, .string n]] w3 fun x w4 => x = .returned (.string S) ∧ Below w3.heap.size w3 w4 := by rw [HS.out]; exact fun w3 => ref_text c a n w3 ha hn
    rw [← HS.out] at T8
    have hc26 : c ≤ 26 := by omega
    go_wp2_with (first
      | (go_at_call 8; refine T8.mono ?_; clear T8; rintro e w3 ⟨rfl, hb3⟩
         have q0 : w3.cell? ⟨w2.heap.size, 0, none⟩ = some (.int .i64 c) := ((bcell hb3).1 w2.heap.size 0 (by simp)).trans (by simp [go_sem])
         have q1 : w3.cell? ⟨w2.heap.size, 1, none⟩ = some (.int .u64 (a : Int)) := ((bcell hb3).1 w2.heap.size 1 (by simp)).trans (by simp [go_sem])
         have q2 : w3.cell? ⟨w2.heap.size, 2, none⟩ = some (.string n) := ((bcell hb3).1 w2.heap.size 2 (by simp)).trans (by simp [go_sem])
         have hB4 := bt hB3 hb3)
      | (go_at_call 9; refine (T9 _).mono ?_; rintro e w4 ⟨rfl, hb4⟩; have hB5 := bt hB4 hb4))
    go_ret
    exact ⟨rfl, hB5⟩
end Go.Proofs.YtonaanedeldhmabDoor
