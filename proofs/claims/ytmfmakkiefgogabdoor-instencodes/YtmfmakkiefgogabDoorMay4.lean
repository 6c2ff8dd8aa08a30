/-
  Layer 6: the document's May, of any instruction of the forms H, K, R and N. No condition.
-/
import Derived.Test.YtmfmakkiefgogabDoorR5
namespace Go.Proofs.YtmfmakkiefgogabDoor
open Go.RowKit
set_option linter.unusedVariables false

set_option maxRecDepth 10000 in
set_option maxHeartbeats 1600000 in
theorem may72_0 (k : Nat) (hk : k < 64) (hc : formAt k = 72) (a1 a2 a3 a4 : Int) (p2 : 0 ≤ a1) (p3 : a1 ≤ 31) (p4 : 0 ≤ a2) (p5 : a2 ≤ 31) (p6 : 0 ≤ a3) (p7 : a3 ≤ 31) (c0 : ¬ a3 = 0) (w : World) :
    Calls Tryd.prog 9 #[.agg #[.int .i64 (k : Int), .int .i64 a1, .int .i64 a2, .int .i64 a3, .int .i64 a4]] w fun e w' => e = .returned (.bool false) ∧ Below w.heap.size w w' := by
  have d0 : (a3 == 0) = false := by simp [c0]
  have p1 : (k : Int) < 64 := by omega
  have HR : Hid (Row5 (w.alloc (.cells #[.int .i64 (k : Int), .int .i64 a1, .int .i64 a2, .int .i64 a3, .int .i64 a4] 32)) w.heap.size (k : Int) a1 a2 a3 a4) := Row5.new w (k : Int) a1 a2 a3 a4
  have HB0 : Hid (Below w.heap.size w (w.alloc (.cells #[.int .i64 (k : Int), .int .i64 a1, .int .i64 a2, .int .i64 a3, .int .i64 a4] 32))) := by show Below _ _ _; go_grown
  have HFS : Hid (formS k = ⟨#[72]⟩) := by show _ = _; unfold formS; rw [hc]; rfl
  clear hc
  go_enter Tryd.func9, Tryd.ntmps9
  go_wp2_with (go_at_call 11; refine (ref_kinds _).mono ?_; rintro e w1 ⟨B, rfl, hB, hb1⟩; have HB1 : Hid (Below w.heap.size w w1) := HB0.out.trans (hb1.mono HB0.out.size); obtain ⟨r0, r1, r2, r3, r4, rf, rl⟩ := Row5.next HR.out hb1; have kf := hB.form k hk; rw [HFS.out] at kf; clear hb1 rf hB)
  go_ret
  exact ⟨rfl, HB1.out⟩

set_option maxRecDepth 10000 in
set_option maxHeartbeats 1600000 in
theorem may72_1 (k : Nat) (hk : k < 64) (hc : formAt k = 72) (a1 a2 a4 : Int) (p2 : 0 ≤ a1) (p3 : a1 ≤ 31) (p4 : 0 ≤ a2) (p5 : a2 ≤ 31) (c1 : a4 < 0) (w : World) :
    Calls Tryd.prog 9 #[.agg #[.int .i64 (k : Int), .int .i64 a1, .int .i64 a2, .int .i64 0, .int .i64 a4]] w fun e w' => e = .returned (.bool false) ∧ Below w.heap.size w w' := by
  have p1 : (k : Int) < 64 := by omega
  have HR : Hid (Row5 (w.alloc (.cells #[.int .i64 (k : Int), .int .i64 a1, .int .i64 a2, .int .i64 0, .int .i64 a4] 32)) w.heap.size (k : Int) a1 a2 0 a4) := Row5.new w (k : Int) a1 a2 0 a4
  have HB0 : Hid (Below w.heap.size w (w.alloc (.cells #[.int .i64 (k : Int), .int .i64 a1, .int .i64 a2, .int .i64 0, .int .i64 a4] 32))) := by show Below _ _ _; go_grown
  have HFS : Hid (formS k = ⟨#[72]⟩) := by show _ = _; unfold formS; rw [hc]; rfl
  clear hc
  go_enter Tryd.func9, Tryd.ntmps9
  go_wp2_with (go_at_call 11; refine (ref_kinds _).mono ?_; rintro e w1 ⟨B, rfl, hB, hb1⟩; have HB1 : Hid (Below w.heap.size w w1) := HB0.out.trans (hb1.mono HB0.out.size); obtain ⟨r0, r1, r2, r3, r4, rf, rl⟩ := Row5.next HR.out hb1; have kf := hB.form k hk; rw [HFS.out] at kf; clear hb1 rf hB)
  go_ret
  exact ⟨rfl, HB1.out⟩

set_option maxRecDepth 10000 in
set_option maxHeartbeats 1600000 in
theorem may72_2 (k : Nat) (hk : k < 64) (hc : formAt k = 72) (a1 a2 a4 : Int) (p2 : 0 ≤ a1) (p3 : a1 ≤ 31) (p4 : 0 ≤ a2) (p5 : a2 ≤ 31) (c1 : 0 ≤ a4) (c2 : 64 ≤ a4) (w : World) :
    Calls Tryd.prog 9 #[.agg #[.int .i64 (k : Int), .int .i64 a1, .int .i64 a2, .int .i64 0, .int .i64 a4]] w fun e w' => e = .returned (.bool false) ∧ Below w.heap.size w w' := by
  have d2 : decide (a4 < 64) = false := decide_eq_false (by omega)
  have p1 : (k : Int) < 64 := by omega
  have HR : Hid (Row5 (w.alloc (.cells #[.int .i64 (k : Int), .int .i64 a1, .int .i64 a2, .int .i64 0, .int .i64 a4] 32)) w.heap.size (k : Int) a1 a2 0 a4) := Row5.new w (k : Int) a1 a2 0 a4
  have HB0 : Hid (Below w.heap.size w (w.alloc (.cells #[.int .i64 (k : Int), .int .i64 a1, .int .i64 a2, .int .i64 0, .int .i64 a4] 32))) := by show Below _ _ _; go_grown
  have HFS : Hid (formS k = ⟨#[72]⟩) := by show _ = _; unfold formS; rw [hc]; rfl
  clear hc
  go_enter Tryd.func9, Tryd.ntmps9
  go_wp2_with (go_at_call 11; refine (ref_kinds _).mono ?_; rintro e w1 ⟨B, rfl, hB, hb1⟩; have HB1 : Hid (Below w.heap.size w w1) := HB0.out.trans (hb1.mono HB0.out.size); obtain ⟨r0, r1, r2, r3, r4, rf, rl⟩ := Row5.next HR.out hb1; have kf := hB.form k hk; rw [HFS.out] at kf; clear hb1 rf hB)
  go_ret
  exact ⟨rfl, HB1.out⟩

set_option maxRecDepth 10000 in
set_option maxHeartbeats 1600000 in
theorem may72_3 (k : Nat) (hk : k < 64) (hc : formAt k = 72) (a1 a2 a4 : Int) (p2 : 0 ≤ a1) (p3 : a1 ≤ 31) (p4 : 0 ≤ a2) (p5 : a2 ≤ 31) (c1 : 0 ≤ a4) (c2 : a4 < 64) (w : World) :
    Calls Tryd.prog 9 #[.agg #[.int .i64 (k : Int), .int .i64 a1, .int .i64 a2, .int .i64 0, .int .i64 a4]] w fun e w' => e = .returned (.bool true) ∧ Below w.heap.size w w' := by
  have p1 : (k : Int) < 64 := by omega
  have HR : Hid (Row5 (w.alloc (.cells #[.int .i64 (k : Int), .int .i64 a1, .int .i64 a2, .int .i64 0, .int .i64 a4] 32)) w.heap.size (k : Int) a1 a2 0 a4) := Row5.new w (k : Int) a1 a2 0 a4
  have HB0 : Hid (Below w.heap.size w (w.alloc (.cells #[.int .i64 (k : Int), .int .i64 a1, .int .i64 a2, .int .i64 0, .int .i64 a4] 32))) := by show Below _ _ _; go_grown
  have HFS : Hid (formS k = ⟨#[72]⟩) := by show _ = _; unfold formS; rw [hc]; rfl
  clear hc
  go_enter Tryd.func9, Tryd.ntmps9
  go_wp2_with (go_at_call 11; refine (ref_kinds _).mono ?_; rintro e w1 ⟨B, rfl, hB, hb1⟩; have HB1 : Hid (Below w.heap.size w w1) := HB0.out.trans (hb1.mono HB0.out.size); obtain ⟨r0, r1, r2, r3, r4, rf, rl⟩ := Row5.next HR.out hb1; have kf := hB.form k hk; rw [HFS.out] at kf; clear hb1 rf hB)
  go_ret
  exact ⟨rfl, HB1.out⟩

set_option maxRecDepth 10000 in
set_option maxHeartbeats 1600000 in
theorem may75_0 (k : Nat) (hk : k < 64) (hc : formAt k = 75) (a1 a2 a3 a4 : Int) (p2 : 0 ≤ a1) (p3 : a1 ≤ 31) (p4 : 0 ≤ a2) (p5 : a2 ≤ 31) (p6 : 0 ≤ a3) (p7 : a3 ≤ 31) (c0 : ¬ a3 = 0) (w : World) :
    Calls Tryd.prog 9 #[.agg #[.int .i64 (k : Int), .int .i64 a1, .int .i64 a2, .int .i64 a3, .int .i64 a4]] w fun e w' => e = .returned (.bool false) ∧ Below w.heap.size w w' := by
  have d0 : (a3 == 0) = false := by simp [c0]
  have p1 : (k : Int) < 64 := by omega
  have HR : Hid (Row5 (w.alloc (.cells #[.int .i64 (k : Int), .int .i64 a1, .int .i64 a2, .int .i64 a3, .int .i64 a4] 32)) w.heap.size (k : Int) a1 a2 a3 a4) := Row5.new w (k : Int) a1 a2 a3 a4
  have HB0 : Hid (Below w.heap.size w (w.alloc (.cells #[.int .i64 (k : Int), .int .i64 a1, .int .i64 a2, .int .i64 a3, .int .i64 a4] 32))) := by show Below _ _ _; go_grown
  have HFS : Hid (formS k = ⟨#[75]⟩) := by show _ = _; unfold formS; rw [hc]; rfl
  clear hc
  go_enter Tryd.func9, Tryd.ntmps9
  go_wp2_with (go_at_call 11; refine (ref_kinds _).mono ?_; rintro e w1 ⟨B, rfl, hB, hb1⟩; have HB1 : Hid (Below w.heap.size w w1) := HB0.out.trans (hb1.mono HB0.out.size); obtain ⟨r0, r1, r2, r3, r4, rf, rl⟩ := Row5.next HR.out hb1; have kf := hB.form k hk; rw [HFS.out] at kf; clear hb1 rf hB)
  go_ret
  exact ⟨rfl, HB1.out⟩

set_option maxRecDepth 10000 in
set_option maxHeartbeats 1600000 in
theorem may75_1 (k : Nat) (hk : k < 64) (hc : formAt k = 75) (a1 a2 a4 : Int) (p2 : 0 ≤ a1) (p3 : a1 ≤ 31) (p4 : 0 ≤ a2) (p5 : a2 ≤ 31) (c1 : a4 < 0) (w : World) :
    Calls Tryd.prog 9 #[.agg #[.int .i64 (k : Int), .int .i64 a1, .int .i64 a2, .int .i64 0, .int .i64 a4]] w fun e w' => e = .returned (.bool false) ∧ Below w.heap.size w w' := by
  have p1 : (k : Int) < 64 := by omega
  have HR : Hid (Row5 (w.alloc (.cells #[.int .i64 (k : Int), .int .i64 a1, .int .i64 a2, .int .i64 0, .int .i64 a4] 32)) w.heap.size (k : Int) a1 a2 0 a4) := Row5.new w (k : Int) a1 a2 0 a4
  have HB0 : Hid (Below w.heap.size w (w.alloc (.cells #[.int .i64 (k : Int), .int .i64 a1, .int .i64 a2, .int .i64 0, .int .i64 a4] 32))) := by show Below _ _ _; go_grown
  have HFS : Hid (formS k = ⟨#[75]⟩) := by show _ = _; unfold formS; rw [hc]; rfl
  clear hc
  go_enter Tryd.func9, Tryd.ntmps9
  go_wp2_with (go_at_call 11; refine (ref_kinds _).mono ?_; rintro e w1 ⟨B, rfl, hB, hb1⟩; have HB1 : Hid (Below w.heap.size w w1) := HB0.out.trans (hb1.mono HB0.out.size); obtain ⟨r0, r1, r2, r3, r4, rf, rl⟩ := Row5.next HR.out hb1; have kf := hB.form k hk; rw [HFS.out] at kf; clear hb1 rf hB)
  go_ret
  exact ⟨rfl, HB1.out⟩

set_option maxRecDepth 10000 in
set_option maxHeartbeats 1600000 in
theorem may75_2 (k : Nat) (hk : k < 64) (hc : formAt k = 75) (a1 a2 a4 : Int) (p2 : 0 ≤ a1) (p3 : a1 ≤ 31) (p4 : 0 ≤ a2) (p5 : a2 ≤ 31) (c1 : 0 ≤ a4) (c2 : 32 ≤ a4) (w : World) :
    Calls Tryd.prog 9 #[.agg #[.int .i64 (k : Int), .int .i64 a1, .int .i64 a2, .int .i64 0, .int .i64 a4]] w fun e w' => e = .returned (.bool false) ∧ Below w.heap.size w w' := by
  have d2 : decide (a4 < 32) = false := decide_eq_false (by omega)
  have p1 : (k : Int) < 64 := by omega
  have HR : Hid (Row5 (w.alloc (.cells #[.int .i64 (k : Int), .int .i64 a1, .int .i64 a2, .int .i64 0, .int .i64 a4] 32)) w.heap.size (k : Int) a1 a2 0 a4) := Row5.new w (k : Int) a1 a2 0 a4
  have HB0 : Hid (Below w.heap.size w (w.alloc (.cells #[.int .i64 (k : Int), .int .i64 a1, .int .i64 a2, .int .i64 0, .int .i64 a4] 32))) := by show Below _ _ _; go_grown
  have HFS : Hid (formS k = ⟨#[75]⟩) := by show _ = _; unfold formS; rw [hc]; rfl
  clear hc
  go_enter Tryd.func9, Tryd.ntmps9
  go_wp2_with (go_at_call 11; refine (ref_kinds _).mono ?_; rintro e w1 ⟨B, rfl, hB, hb1⟩; have HB1 : Hid (Below w.heap.size w w1) := HB0.out.trans (hb1.mono HB0.out.size); obtain ⟨r0, r1, r2, r3, r4, rf, rl⟩ := Row5.next HR.out hb1; have kf := hB.form k hk; rw [HFS.out] at kf; clear hb1 rf hB)
  go_ret
  exact ⟨rfl, HB1.out⟩

set_option maxRecDepth 10000 in
set_option maxHeartbeats 1600000 in
theorem may75_3 (k : Nat) (hk : k < 64) (hc : formAt k = 75) (a1 a2 a4 : Int) (p2 : 0 ≤ a1) (p3 : a1 ≤ 31) (p4 : 0 ≤ a2) (p5 : a2 ≤ 31) (c1 : 0 ≤ a4) (c2 : a4 < 32) (w : World) :
    Calls Tryd.prog 9 #[.agg #[.int .i64 (k : Int), .int .i64 a1, .int .i64 a2, .int .i64 0, .int .i64 a4]] w fun e w' => e = .returned (.bool true) ∧ Below w.heap.size w w' := by
  have p1 : (k : Int) < 64 := by omega
  have HR : Hid (Row5 (w.alloc (.cells #[.int .i64 (k : Int), .int .i64 a1, .int .i64 a2, .int .i64 0, .int .i64 a4] 32)) w.heap.size (k : Int) a1 a2 0 a4) := Row5.new w (k : Int) a1 a2 0 a4
  have HB0 : Hid (Below w.heap.size w (w.alloc (.cells #[.int .i64 (k : Int), .int .i64 a1, .int .i64 a2, .int .i64 0, .int .i64 a4] 32))) := by show Below _ _ _; go_grown
  have HFS : Hid (formS k = ⟨#[75]⟩) := by show _ = _; unfold formS; rw [hc]; rfl
  clear hc
  go_enter Tryd.func9, Tryd.ntmps9
  go_wp2_with (go_at_call 11; refine (ref_kinds _).mono ?_; rintro e w1 ⟨B, rfl, hB, hb1⟩; have HB1 : Hid (Below w.heap.size w w1) := HB0.out.trans (hb1.mono HB0.out.size); obtain ⟨r0, r1, r2, r3, r4, rf, rl⟩ := Row5.next HR.out hb1; have kf := hB.form k hk; rw [HFS.out] at kf; clear hb1 rf hB)
  go_ret
  exact ⟨rfl, HB1.out⟩

set_option maxRecDepth 10000 in
set_option maxHeartbeats 1600000 in
theorem may82_0 (k : Nat) (hk : k < 64) (hc : formAt k = 82) (a1 a2 a3 a4 : Int) (p2 : 0 ≤ a1) (p3 : a1 ≤ 31) (p4 : 0 ≤ a2) (p5 : a2 ≤ 31) (p6 : 0 ≤ a3) (p7 : a3 ≤ 31) (c0 : ¬ a4 = 0) (w : World) :
    Calls Tryd.prog 9 #[.agg #[.int .i64 (k : Int), .int .i64 a1, .int .i64 a2, .int .i64 a3, .int .i64 a4]] w fun e w' => e = .returned (.bool false) ∧ Below w.heap.size w w' := by
  have d0 : (a4 == 0) = false := by simp [c0]
  have p1 : (k : Int) < 64 := by omega
  have HR : Hid (Row5 (w.alloc (.cells #[.int .i64 (k : Int), .int .i64 a1, .int .i64 a2, .int .i64 a3, .int .i64 a4] 32)) w.heap.size (k : Int) a1 a2 a3 a4) := Row5.new w (k : Int) a1 a2 a3 a4
  have HB0 : Hid (Below w.heap.size w (w.alloc (.cells #[.int .i64 (k : Int), .int .i64 a1, .int .i64 a2, .int .i64 a3, .int .i64 a4] 32))) := by show Below _ _ _; go_grown
  have HFS : Hid (formS k = ⟨#[82]⟩) := by show _ = _; unfold formS; rw [hc]; rfl
  clear hc
  go_enter Tryd.func9, Tryd.ntmps9
  go_wp2_with (go_at_call 11; refine (ref_kinds _).mono ?_; rintro e w1 ⟨B, rfl, hB, hb1⟩; have HB1 : Hid (Below w.heap.size w w1) := HB0.out.trans (hb1.mono HB0.out.size); obtain ⟨r0, r1, r2, r3, r4, rf, rl⟩ := Row5.next HR.out hb1; have kf := hB.form k hk; rw [HFS.out] at kf; clear hb1 rf hB)
  go_ret
  exact ⟨rfl, HB1.out⟩

set_option maxRecDepth 10000 in
set_option maxHeartbeats 1600000 in
theorem may82_1 (k : Nat) (hk : k < 64) (hc : formAt k = 82) (a1 a2 a3 : Int) (p2 : 0 ≤ a1) (p3 : a1 ≤ 31) (p4 : 0 ≤ a2) (p5 : a2 ≤ 31) (p6 : 0 ≤ a3) (p7 : a3 ≤ 31) (w : World) :
    Calls Tryd.prog 9 #[.agg #[.int .i64 (k : Int), .int .i64 a1, .int .i64 a2, .int .i64 a3, .int .i64 0]] w fun e w' => e = .returned (.bool true) ∧ Below w.heap.size w w' := by
  have p1 : (k : Int) < 64 := by omega
  have HR : Hid (Row5 (w.alloc (.cells #[.int .i64 (k : Int), .int .i64 a1, .int .i64 a2, .int .i64 a3, .int .i64 0] 32)) w.heap.size (k : Int) a1 a2 a3 0) := Row5.new w (k : Int) a1 a2 a3 0
  have HB0 : Hid (Below w.heap.size w (w.alloc (.cells #[.int .i64 (k : Int), .int .i64 a1, .int .i64 a2, .int .i64 a3, .int .i64 0] 32))) := by show Below _ _ _; go_grown
  have HFS : Hid (formS k = ⟨#[82]⟩) := by show _ = _; unfold formS; rw [hc]; rfl
  clear hc
  go_enter Tryd.func9, Tryd.ntmps9
  go_wp2_with (go_at_call 11; refine (ref_kinds _).mono ?_; rintro e w1 ⟨B, rfl, hB, hb1⟩; have HB1 : Hid (Below w.heap.size w w1) := HB0.out.trans (hb1.mono HB0.out.size); obtain ⟨r0, r1, r2, r3, r4, rf, rl⟩ := Row5.next HR.out hb1; have kf := hB.form k hk; rw [HFS.out] at kf; clear hb1 rf hB)
  go_ret
  exact ⟨rfl, HB1.out⟩

set_option maxRecDepth 10000 in
set_option maxHeartbeats 1600000 in
theorem may78_0 (k : Nat) (hk : k < 64) (hc : formAt k = 78) (a1 a2 a3 a4 : Int) (p2 : 0 ≤ a1) (p3 : a1 ≤ 31) (p4 : 0 ≤ a2) (p5 : a2 ≤ 31) (p6 : 0 ≤ a3) (p7 : a3 ≤ 31) (c0 : ¬ a1 = 0) (w : World) :
    Calls Tryd.prog 9 #[.agg #[.int .i64 (k : Int), .int .i64 a1, .int .i64 a2, .int .i64 a3, .int .i64 a4]] w fun e w' => e = .returned (.bool false) ∧ Below w.heap.size w w' := by
  have d0 : (a1 == 0) = false := by simp [c0]
  have p1 : (k : Int) < 64 := by omega
  have HR : Hid (Row5 (w.alloc (.cells #[.int .i64 (k : Int), .int .i64 a1, .int .i64 a2, .int .i64 a3, .int .i64 a4] 32)) w.heap.size (k : Int) a1 a2 a3 a4) := Row5.new w (k : Int) a1 a2 a3 a4
  have HB0 : Hid (Below w.heap.size w (w.alloc (.cells #[.int .i64 (k : Int), .int .i64 a1, .int .i64 a2, .int .i64 a3, .int .i64 a4] 32))) := by show Below _ _ _; go_grown
  have HFS : Hid (formS k = ⟨#[78]⟩) := by show _ = _; unfold formS; rw [hc]; rfl
  clear hc
  go_enter Tryd.func9, Tryd.ntmps9
  go_wp2_with (go_at_call 11; refine (ref_kinds _).mono ?_; rintro e w1 ⟨B, rfl, hB, hb1⟩; have HB1 : Hid (Below w.heap.size w w1) := HB0.out.trans (hb1.mono HB0.out.size); obtain ⟨r0, r1, r2, r3, r4, rf, rl⟩ := Row5.next HR.out hb1; have kf := hB.form k hk; rw [HFS.out] at kf; clear hb1 rf hB)
  go_ret
  exact ⟨rfl, HB1.out⟩

set_option maxRecDepth 10000 in
set_option maxHeartbeats 1600000 in
theorem may78_1 (k : Nat) (hk : k < 64) (hc : formAt k = 78) (a2 a3 a4 : Int) (p4 : 0 ≤ a2) (p5 : a2 ≤ 31) (p6 : 0 ≤ a3) (p7 : a3 ≤ 31) (c1 : ¬ a2 = 0) (w : World) :
    Calls Tryd.prog 9 #[.agg #[.int .i64 (k : Int), .int .i64 0, .int .i64 a2, .int .i64 a3, .int .i64 a4]] w fun e w' => e = .returned (.bool false) ∧ Below w.heap.size w w' := by
  have d1 : (a2 == 0) = false := by simp [c1]
  have p1 : (k : Int) < 64 := by omega
  have HR : Hid (Row5 (w.alloc (.cells #[.int .i64 (k : Int), .int .i64 0, .int .i64 a2, .int .i64 a3, .int .i64 a4] 32)) w.heap.size (k : Int) 0 a2 a3 a4) := Row5.new w (k : Int) 0 a2 a3 a4
  have HB0 : Hid (Below w.heap.size w (w.alloc (.cells #[.int .i64 (k : Int), .int .i64 0, .int .i64 a2, .int .i64 a3, .int .i64 a4] 32))) := by show Below _ _ _; go_grown
  have HFS : Hid (formS k = ⟨#[78]⟩) := by show _ = _; unfold formS; rw [hc]; rfl
  clear hc
  go_enter Tryd.func9, Tryd.ntmps9
  go_wp2_with (go_at_call 11; refine (ref_kinds _).mono ?_; rintro e w1 ⟨B, rfl, hB, hb1⟩; have HB1 : Hid (Below w.heap.size w w1) := HB0.out.trans (hb1.mono HB0.out.size); obtain ⟨r0, r1, r2, r3, r4, rf, rl⟩ := Row5.next HR.out hb1; have kf := hB.form k hk; rw [HFS.out] at kf; clear hb1 rf hB)
  go_ret
  exact ⟨rfl, HB1.out⟩

set_option maxRecDepth 10000 in
set_option maxHeartbeats 1600000 in
theorem may78_2 (k : Nat) (hk : k < 64) (hc : formAt k = 78) (a3 a4 : Int) (p6 : 0 ≤ a3) (p7 : a3 ≤ 31) (c2 : ¬ a3 = 0) (w : World) :
    Calls Tryd.prog 9 #[.agg #[.int .i64 (k : Int), .int .i64 0, .int .i64 0, .int .i64 a3, .int .i64 a4]] w fun e w' => e = .returned (.bool false) ∧ Below w.heap.size w w' := by
  have d2 : (a3 == 0) = false := by simp [c2]
  have p1 : (k : Int) < 64 := by omega
  have HR : Hid (Row5 (w.alloc (.cells #[.int .i64 (k : Int), .int .i64 0, .int .i64 0, .int .i64 a3, .int .i64 a4] 32)) w.heap.size (k : Int) 0 0 a3 a4) := Row5.new w (k : Int) 0 0 a3 a4
  have HB0 : Hid (Below w.heap.size w (w.alloc (.cells #[.int .i64 (k : Int), .int .i64 0, .int .i64 0, .int .i64 a3, .int .i64 a4] 32))) := by show Below _ _ _; go_grown
  have HFS : Hid (formS k = ⟨#[78]⟩) := by show _ = _; unfold formS; rw [hc]; rfl
  clear hc
  go_enter Tryd.func9, Tryd.ntmps9
  go_wp2_with (go_at_call 11; refine (ref_kinds _).mono ?_; rintro e w1 ⟨B, rfl, hB, hb1⟩; have HB1 : Hid (Below w.heap.size w w1) := HB0.out.trans (hb1.mono HB0.out.size); obtain ⟨r0, r1, r2, r3, r4, rf, rl⟩ := Row5.next HR.out hb1; have kf := hB.form k hk; rw [HFS.out] at kf; clear hb1 rf hB)
  go_ret
  exact ⟨rfl, HB1.out⟩

set_option maxRecDepth 10000 in
set_option maxHeartbeats 1600000 in
theorem may78_3 (k : Nat) (hk : k < 64) (hc : formAt k = 78) (a4 : Int) (c3 : ¬ a4 = 0) (w : World) :
    Calls Tryd.prog 9 #[.agg #[.int .i64 (k : Int), .int .i64 0, .int .i64 0, .int .i64 0, .int .i64 a4]] w fun e w' => e = .returned (.bool false) ∧ Below w.heap.size w w' := by
  have d3 : (a4 == 0) = false := by simp [c3]
  have p1 : (k : Int) < 64 := by omega
  have HR : Hid (Row5 (w.alloc (.cells #[.int .i64 (k : Int), .int .i64 0, .int .i64 0, .int .i64 0, .int .i64 a4] 32)) w.heap.size (k : Int) 0 0 0 a4) := Row5.new w (k : Int) 0 0 0 a4
  have HB0 : Hid (Below w.heap.size w (w.alloc (.cells #[.int .i64 (k : Int), .int .i64 0, .int .i64 0, .int .i64 0, .int .i64 a4] 32))) := by show Below _ _ _; go_grown
  have HFS : Hid (formS k = ⟨#[78]⟩) := by show _ = _; unfold formS; rw [hc]; rfl
  clear hc
  go_enter Tryd.func9, Tryd.ntmps9
  go_wp2_with (go_at_call 11; refine (ref_kinds _).mono ?_; rintro e w1 ⟨B, rfl, hB, hb1⟩; have HB1 : Hid (Below w.heap.size w w1) := HB0.out.trans (hb1.mono HB0.out.size); obtain ⟨r0, r1, r2, r3, r4, rf, rl⟩ := Row5.next HR.out hb1; have kf := hB.form k hk; rw [HFS.out] at kf; clear hb1 rf hB)
  go_ret
  exact ⟨rfl, HB1.out⟩

set_option maxRecDepth 10000 in
set_option maxHeartbeats 1600000 in
theorem may78_4 (k : Nat) (hk : k < 64) (hc : formAt k = 78) (w : World) :
    Calls Tryd.prog 9 #[.agg #[.int .i64 (k : Int), .int .i64 0, .int .i64 0, .int .i64 0, .int .i64 0]] w fun e w' => e = .returned (.bool true) ∧ Below w.heap.size w w' := by
  have p1 : (k : Int) < 64 := by omega
  have HR : Hid (Row5 (w.alloc (.cells #[.int .i64 (k : Int), .int .i64 0, .int .i64 0, .int .i64 0, .int .i64 0] 32)) w.heap.size (k : Int) 0 0 0 0) := Row5.new w (k : Int) 0 0 0 0
  have HB0 : Hid (Below w.heap.size w (w.alloc (.cells #[.int .i64 (k : Int), .int .i64 0, .int .i64 0, .int .i64 0, .int .i64 0] 32))) := by show Below _ _ _; go_grown
  have HFS : Hid (formS k = ⟨#[78]⟩) := by show _ = _; unfold formS; rw [hc]; rfl
  clear hc
  go_enter Tryd.func9, Tryd.ntmps9
  go_wp2_with (go_at_call 11; refine (ref_kinds _).mono ?_; rintro e w1 ⟨B, rfl, hB, hb1⟩; have HB1 : Hid (Below w.heap.size w w1) := HB0.out.trans (hb1.mono HB0.out.size); obtain ⟨r0, r1, r2, r3, r4, rf, rl⟩ := Row5.next HR.out hb1; have kf := hB.form k hk; rw [HFS.out] at kf; clear hb1 rf hB)
  go_ret
  exact ⟨rfl, HB1.out⟩
end Go.Proofs.YtmfmakkiefgogabDoor
