/-
  Layer 6: the document's May, of any instruction whose numbers don't go into fields. No condition.
-/
import Derived.Test.YtmfmakkiefgogabDoorR5
namespace Go.Proofs.YtmfmakkiefgogabDoor
open Go.RowKit
set_option linter.unusedVariables false

set_option maxRecDepth 10000 in
set_option maxHeartbeats 1600000 in
theorem may_no0 (a0 a1 a2 a3 a4 : Int) (q : a0 < 0) (w : World) :
    Calls Tryd.prog 9 #[.agg #[.int .i64 a0, .int .i64 a1, .int .i64 a2, .int .i64 a3, .int .i64 a4]] w fun e w' => e = .returned (.bool false) ∧ Below w.heap.size w w' := by
  obtain ⟨r0, r1, r2, r3, r4, rf, rl⟩ := Row5.new w a0 a1 a2 a3 a4
  have HR : Hid (Row5 (w.alloc (.cells #[.int .i64 a0, .int .i64 a1, .int .i64 a2, .int .i64 a3, .int .i64 a4] 32)) w.heap.size a0 a1 a2 a3 a4) := Row5.new w a0 a1 a2 a3 a4
  have HB0 : Hid (Below w.heap.size w (w.alloc (.cells #[.int .i64 a0, .int .i64 a1, .int .i64 a2, .int .i64 a3, .int .i64 a4] 32))) := by show Below _ _ _; go_grown
  clear r0 r1 r2 r3 r4 rf rl
  go_enter Tryd.func9, Tryd.ntmps9
  go_wp2_with (go_at_call 11; refine (ref_kinds _).mono ?_; rintro e w1 ⟨B, rfl, hB, hb1⟩; have HB1 : Hid (Below w.heap.size w w1) := HB0.out.trans (hb1.mono HB0.out.size); obtain ⟨r0, r1, r2, r3, r4, rf, rl⟩ := Row5.next HR.out hb1; clear hb1 rf hB)
  go_ret
  exact ⟨rfl, HB1.out⟩


set_option maxRecDepth 10000 in
set_option maxHeartbeats 1600000 in
theorem may_no1 (a0 a1 a2 a3 a4 : Int) (p0 : 0 ≤ a0) (q : 64 ≤ a0) (w : World) :
    Calls Tryd.prog 9 #[.agg #[.int .i64 a0, .int .i64 a1, .int .i64 a2, .int .i64 a3, .int .i64 a4]] w fun e w' => e = .returned (.bool false) ∧ Below w.heap.size w w' := by
  obtain ⟨r0, r1, r2, r3, r4, rf, rl⟩ := Row5.new w a0 a1 a2 a3 a4
  have HR : Hid (Row5 (w.alloc (.cells #[.int .i64 a0, .int .i64 a1, .int .i64 a2, .int .i64 a3, .int .i64 a4] 32)) w.heap.size a0 a1 a2 a3 a4) := Row5.new w a0 a1 a2 a3 a4
  have HB0 : Hid (Below w.heap.size w (w.alloc (.cells #[.int .i64 a0, .int .i64 a1, .int .i64 a2, .int .i64 a3, .int .i64 a4] 32))) := by show Below _ _ _; go_grown
  clear r0 r1 r2 r3 r4 rf rl
  go_enter Tryd.func9, Tryd.ntmps9
  go_wp2_with (go_at_call 11; refine (ref_kinds _).mono ?_; rintro e w1 ⟨B, rfl, hB, hb1⟩; have HB1 : Hid (Below w.heap.size w w1) := HB0.out.trans (hb1.mono HB0.out.size); obtain ⟨r0, r1, r2, r3, r4, rf, rl⟩ := Row5.next HR.out hb1; clear hb1 rf hB)
  go_ret
  exact ⟨rfl, HB1.out⟩


set_option maxRecDepth 10000 in
set_option maxHeartbeats 1600000 in
theorem may_no2 (a0 a1 a2 a3 a4 : Int) (p0 : 0 ≤ a0) (p1 : a0 < 64) (q : a1 < 0) (w : World) :
    Calls Tryd.prog 9 #[.agg #[.int .i64 a0, .int .i64 a1, .int .i64 a2, .int .i64 a3, .int .i64 a4]] w fun e w' => e = .returned (.bool false) ∧ Below w.heap.size w w' := by
  obtain ⟨r0, r1, r2, r3, r4, rf, rl⟩ := Row5.new w a0 a1 a2 a3 a4
  have HR : Hid (Row5 (w.alloc (.cells #[.int .i64 a0, .int .i64 a1, .int .i64 a2, .int .i64 a3, .int .i64 a4] 32)) w.heap.size a0 a1 a2 a3 a4) := Row5.new w a0 a1 a2 a3 a4
  have HB0 : Hid (Below w.heap.size w (w.alloc (.cells #[.int .i64 a0, .int .i64 a1, .int .i64 a2, .int .i64 a3, .int .i64 a4] 32))) := by show Below _ _ _; go_grown
  clear r0 r1 r2 r3 r4 rf rl
  go_enter Tryd.func9, Tryd.ntmps9
  go_wp2_with (go_at_call 11; refine (ref_kinds _).mono ?_; rintro e w1 ⟨B, rfl, hB, hb1⟩; have HB1 : Hid (Below w.heap.size w w1) := HB0.out.trans (hb1.mono HB0.out.size); obtain ⟨r0, r1, r2, r3, r4, rf, rl⟩ := Row5.next HR.out hb1; clear hb1 rf hB)
  go_ret
  exact ⟨rfl, HB1.out⟩


set_option maxRecDepth 10000 in
set_option maxHeartbeats 1600000 in
theorem may_no3 (a0 a1 a2 a3 a4 : Int) (p0 : 0 ≤ a0) (p1 : a0 < 64) (p2 : 0 ≤ a1) (q : 31 < a1) (w : World) :
    Calls Tryd.prog 9 #[.agg #[.int .i64 a0, .int .i64 a1, .int .i64 a2, .int .i64 a3, .int .i64 a4]] w fun e w' => e = .returned (.bool false) ∧ Below w.heap.size w w' := by
  obtain ⟨r0, r1, r2, r3, r4, rf, rl⟩ := Row5.new w a0 a1 a2 a3 a4
  have HR : Hid (Row5 (w.alloc (.cells #[.int .i64 a0, .int .i64 a1, .int .i64 a2, .int .i64 a3, .int .i64 a4] 32)) w.heap.size a0 a1 a2 a3 a4) := Row5.new w a0 a1 a2 a3 a4
  have HB0 : Hid (Below w.heap.size w (w.alloc (.cells #[.int .i64 a0, .int .i64 a1, .int .i64 a2, .int .i64 a3, .int .i64 a4] 32))) := by show Below _ _ _; go_grown
  clear r0 r1 r2 r3 r4 rf rl
  go_enter Tryd.func9, Tryd.ntmps9
  go_wp2_with (go_at_call 11; refine (ref_kinds _).mono ?_; rintro e w1 ⟨B, rfl, hB, hb1⟩; have HB1 : Hid (Below w.heap.size w w1) := HB0.out.trans (hb1.mono HB0.out.size); obtain ⟨r0, r1, r2, r3, r4, rf, rl⟩ := Row5.next HR.out hb1; clear hb1 rf hB)
  go_ret
  exact ⟨rfl, HB1.out⟩


set_option maxRecDepth 10000 in
set_option maxHeartbeats 1600000 in
theorem may_no4 (a0 a1 a2 a3 a4 : Int) (p0 : 0 ≤ a0) (p1 : a0 < 64) (p2 : 0 ≤ a1) (p3 : a1 ≤ 31) (q : a2 < 0) (w : World) :
    Calls Tryd.prog 9 #[.agg #[.int .i64 a0, .int .i64 a1, .int .i64 a2, .int .i64 a3, .int .i64 a4]] w fun e w' => e = .returned (.bool false) ∧ Below w.heap.size w w' := by
  obtain ⟨r0, r1, r2, r3, r4, rf, rl⟩ := Row5.new w a0 a1 a2 a3 a4
  have HR : Hid (Row5 (w.alloc (.cells #[.int .i64 a0, .int .i64 a1, .int .i64 a2, .int .i64 a3, .int .i64 a4] 32)) w.heap.size a0 a1 a2 a3 a4) := Row5.new w a0 a1 a2 a3 a4
  have HB0 : Hid (Below w.heap.size w (w.alloc (.cells #[.int .i64 a0, .int .i64 a1, .int .i64 a2, .int .i64 a3, .int .i64 a4] 32))) := by show Below _ _ _; go_grown
  clear r0 r1 r2 r3 r4 rf rl
  go_enter Tryd.func9, Tryd.ntmps9
  go_wp2_with (go_at_call 11; refine (ref_kinds _).mono ?_; rintro e w1 ⟨B, rfl, hB, hb1⟩; have HB1 : Hid (Below w.heap.size w w1) := HB0.out.trans (hb1.mono HB0.out.size); obtain ⟨r0, r1, r2, r3, r4, rf, rl⟩ := Row5.next HR.out hb1; clear hb1 rf hB)
  go_ret
  exact ⟨rfl, HB1.out⟩


set_option maxRecDepth 10000 in
set_option maxHeartbeats 1600000 in
theorem may_no5 (a0 a1 a2 a3 a4 : Int) (p0 : 0 ≤ a0) (p1 : a0 < 64) (p2 : 0 ≤ a1) (p3 : a1 ≤ 31) (p4 : 0 ≤ a2) (q : 31 < a2) (w : World) :
    Calls Tryd.prog 9 #[.agg #[.int .i64 a0, .int .i64 a1, .int .i64 a2, .int .i64 a3, .int .i64 a4]] w fun e w' => e = .returned (.bool false) ∧ Below w.heap.size w w' := by
  obtain ⟨r0, r1, r2, r3, r4, rf, rl⟩ := Row5.new w a0 a1 a2 a3 a4
  have HR : Hid (Row5 (w.alloc (.cells #[.int .i64 a0, .int .i64 a1, .int .i64 a2, .int .i64 a3, .int .i64 a4] 32)) w.heap.size a0 a1 a2 a3 a4) := Row5.new w a0 a1 a2 a3 a4
  have HB0 : Hid (Below w.heap.size w (w.alloc (.cells #[.int .i64 a0, .int .i64 a1, .int .i64 a2, .int .i64 a3, .int .i64 a4] 32))) := by show Below _ _ _; go_grown
  clear r0 r1 r2 r3 r4 rf rl
  go_enter Tryd.func9, Tryd.ntmps9
  go_wp2_with (go_at_call 11; refine (ref_kinds _).mono ?_; rintro e w1 ⟨B, rfl, hB, hb1⟩; have HB1 : Hid (Below w.heap.size w w1) := HB0.out.trans (hb1.mono HB0.out.size); obtain ⟨r0, r1, r2, r3, r4, rf, rl⟩ := Row5.next HR.out hb1; clear hb1 rf hB)
  go_ret
  exact ⟨rfl, HB1.out⟩


set_option maxRecDepth 10000 in
set_option maxHeartbeats 1600000 in
theorem may_no6 (a0 a1 a2 a3 a4 : Int) (p0 : 0 ≤ a0) (p1 : a0 < 64) (p2 : 0 ≤ a1) (p3 : a1 ≤ 31) (p4 : 0 ≤ a2) (p5 : a2 ≤ 31) (q : a3 < 0) (w : World) :
    Calls Tryd.prog 9 #[.agg #[.int .i64 a0, .int .i64 a1, .int .i64 a2, .int .i64 a3, .int .i64 a4]] w fun e w' => e = .returned (.bool false) ∧ Below w.heap.size w w' := by
  obtain ⟨r0, r1, r2, r3, r4, rf, rl⟩ := Row5.new w a0 a1 a2 a3 a4
  have HR : Hid (Row5 (w.alloc (.cells #[.int .i64 a0, .int .i64 a1, .int .i64 a2, .int .i64 a3, .int .i64 a4] 32)) w.heap.size a0 a1 a2 a3 a4) := Row5.new w a0 a1 a2 a3 a4
  have HB0 : Hid (Below w.heap.size w (w.alloc (.cells #[.int .i64 a0, .int .i64 a1, .int .i64 a2, .int .i64 a3, .int .i64 a4] 32))) := by show Below _ _ _; go_grown
  clear r0 r1 r2 r3 r4 rf rl
  go_enter Tryd.func9, Tryd.ntmps9
  go_wp2_with (go_at_call 11; refine (ref_kinds _).mono ?_; rintro e w1 ⟨B, rfl, hB, hb1⟩; have HB1 : Hid (Below w.heap.size w w1) := HB0.out.trans (hb1.mono HB0.out.size); obtain ⟨r0, r1, r2, r3, r4, rf, rl⟩ := Row5.next HR.out hb1; clear hb1 rf hB)
  go_ret
  exact ⟨rfl, HB1.out⟩


set_option maxRecDepth 10000 in
set_option maxHeartbeats 1600000 in
theorem may_no7 (a0 a1 a2 a3 a4 : Int) (p0 : 0 ≤ a0) (p1 : a0 < 64) (p2 : 0 ≤ a1) (p3 : a1 ≤ 31) (p4 : 0 ≤ a2) (p5 : a2 ≤ 31) (p6 : 0 ≤ a3) (q : 31 < a3) (w : World) :
    Calls Tryd.prog 9 #[.agg #[.int .i64 a0, .int .i64 a1, .int .i64 a2, .int .i64 a3, .int .i64 a4]] w fun e w' => e = .returned (.bool false) ∧ Below w.heap.size w w' := by
  obtain ⟨r0, r1, r2, r3, r4, rf, rl⟩ := Row5.new w a0 a1 a2 a3 a4
  have HR : Hid (Row5 (w.alloc (.cells #[.int .i64 a0, .int .i64 a1, .int .i64 a2, .int .i64 a3, .int .i64 a4] 32)) w.heap.size a0 a1 a2 a3 a4) := Row5.new w a0 a1 a2 a3 a4
  have HB0 : Hid (Below w.heap.size w (w.alloc (.cells #[.int .i64 a0, .int .i64 a1, .int .i64 a2, .int .i64 a3, .int .i64 a4] 32))) := by show Below _ _ _; go_grown
  clear r0 r1 r2 r3 r4 rf rl
  go_enter Tryd.func9, Tryd.ntmps9
  go_wp2_with (go_at_call 11; refine (ref_kinds _).mono ?_; rintro e w1 ⟨B, rfl, hB, hb1⟩; have HB1 : Hid (Below w.heap.size w w1) := HB0.out.trans (hb1.mono HB0.out.size); obtain ⟨r0, r1, r2, r3, r4, rf, rl⟩ := Row5.next HR.out hb1; clear hb1 rf hB)
  go_ret
  exact ⟨rfl, HB1.out⟩

end Go.Proofs.YtmfmakkiefgogabDoor
