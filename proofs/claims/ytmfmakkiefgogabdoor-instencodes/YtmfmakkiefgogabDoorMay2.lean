/-
  Layer 6: the document's May, of any instruction of the forms U and J. No condition.
-/
import Derived.Test.YtmfmakkiefgogabDoorR5
namespace Go.Proofs.YtmfmakkiefgogabDoor
open Go.RowKit
set_option linter.unusedVariables false

set_option maxRecDepth 10000 in
set_option maxHeartbeats 1600000 in
theorem may85_0 (k : Nat) (hk : k < 64) (hc : formAt k = 85) (a1 a2 a3 a4 : Int) (p2 : 0 ≤ a1) (p3 : a1 ≤ 31) (p4 : 0 ≤ a2) (p5 : a2 ≤ 31) (p6 : 0 ≤ a3) (p7 : a3 ≤ 31) (c0 : ¬ a2 = 0) (w : World) :
    Calls Tryd.prog 9 #[.agg #[.int .i64 (k : Int), .int .i64 a1, .int .i64 a2, .int .i64 a3, .int .i64 a4]] w fun e w' => e = .returned (.bool false) ∧ Below w.heap.size w w' := by
  have d0 : (a2 == 0) = false := by simp [c0]
  have p1 : (k : Int) < 64 := by omega
  have HR : Hid (Row5 (w.alloc (.cells #[.int .i64 (k : Int), .int .i64 a1, .int .i64 a2, .int .i64 a3, .int .i64 a4] 32)) w.heap.size (k : Int) a1 a2 a3 a4) := Row5.new w (k : Int) a1 a2 a3 a4
  have HB0 : Hid (Below w.heap.size w (w.alloc (.cells #[.int .i64 (k : Int), .int .i64 a1, .int .i64 a2, .int .i64 a3, .int .i64 a4] 32))) := by show Below _ _ _; go_grown
  have HFS : Hid (formS k = ⟨#[85]⟩) := by show _ = _; unfold formS; rw [hc]; rfl
  clear hc
  go_enter Tryd.func9, Tryd.ntmps9
  go_wp2_with (go_at_call 11; refine (ref_kinds _).mono ?_; rintro e w1 ⟨B, rfl, hB, hb1⟩; have HB1 : Hid (Below w.heap.size w w1) := HB0.out.trans (hb1.mono HB0.out.size); obtain ⟨r0, r1, r2, r3, r4, rf, rl⟩ := Row5.next HR.out hb1; have kf := hB.form k hk; rw [HFS.out] at kf; clear hb1 rf hB)
  go_ret
  exact ⟨rfl, HB1.out⟩

set_option maxRecDepth 10000 in
set_option maxHeartbeats 1600000 in
theorem may85_1 (k : Nat) (hk : k < 64) (hc : formAt k = 85) (a1 a3 a4 : Int) (p2 : 0 ≤ a1) (p3 : a1 ≤ 31) (p6 : 0 ≤ a3) (p7 : a3 ≤ 31) (c1 : ¬ a3 = 0) (w : World) :
    Calls Tryd.prog 9 #[.agg #[.int .i64 (k : Int), .int .i64 a1, .int .i64 0, .int .i64 a3, .int .i64 a4]] w fun e w' => e = .returned (.bool false) ∧ Below w.heap.size w w' := by
  have d1 : (a3 == 0) = false := by simp [c1]
  have p1 : (k : Int) < 64 := by omega
  have HR : Hid (Row5 (w.alloc (.cells #[.int .i64 (k : Int), .int .i64 a1, .int .i64 0, .int .i64 a3, .int .i64 a4] 32)) w.heap.size (k : Int) a1 0 a3 a4) := Row5.new w (k : Int) a1 0 a3 a4
  have HB0 : Hid (Below w.heap.size w (w.alloc (.cells #[.int .i64 (k : Int), .int .i64 a1, .int .i64 0, .int .i64 a3, .int .i64 a4] 32))) := by show Below _ _ _; go_grown
  have HFS : Hid (formS k = ⟨#[85]⟩) := by show _ = _; unfold formS; rw [hc]; rfl
  clear hc
  go_enter Tryd.func9, Tryd.ntmps9
  go_wp2_with (go_at_call 11; refine (ref_kinds _).mono ?_; rintro e w1 ⟨B, rfl, hB, hb1⟩; have HB1 : Hid (Below w.heap.size w w1) := HB0.out.trans (hb1.mono HB0.out.size); obtain ⟨r0, r1, r2, r3, r4, rf, rl⟩ := Row5.next HR.out hb1; have kf := hB.form k hk; rw [HFS.out] at kf; clear hb1 rf hB)
  go_ret
  exact ⟨rfl, HB1.out⟩

set_option maxRecDepth 10000 in
set_option maxHeartbeats 1600000 in
theorem may85_2 (k : Nat) (hk : k < 64) (hc : formAt k = 85) (a1 a4 : Int) (p2 : 0 ≤ a1) (p3 : a1 ≤ 31) (c2 : a4 < -2147483648) (w : World) :
    Calls Tryd.prog 9 #[.agg #[.int .i64 (k : Int), .int .i64 a1, .int .i64 0, .int .i64 0, .int .i64 a4]] w fun e w' => e = .returned (.bool false) ∧ Below w.heap.size w w' := by
  have p1 : (k : Int) < 64 := by omega
  have HR : Hid (Row5 (w.alloc (.cells #[.int .i64 (k : Int), .int .i64 a1, .int .i64 0, .int .i64 0, .int .i64 a4] 32)) w.heap.size (k : Int) a1 0 0 a4) := Row5.new w (k : Int) a1 0 0 a4
  have HB0 : Hid (Below w.heap.size w (w.alloc (.cells #[.int .i64 (k : Int), .int .i64 a1, .int .i64 0, .int .i64 0, .int .i64 a4] 32))) := by show Below _ _ _; go_grown
  have HFS : Hid (formS k = ⟨#[85]⟩) := by show _ = _; unfold formS; rw [hc]; rfl
  clear hc
  go_enter Tryd.func9, Tryd.ntmps9
  go_wp2_with (go_at_call 11; refine (ref_kinds _).mono ?_; rintro e w1 ⟨B, rfl, hB, hb1⟩; have HB1 : Hid (Below w.heap.size w w1) := HB0.out.trans (hb1.mono HB0.out.size); obtain ⟨r0, r1, r2, r3, r4, rf, rl⟩ := Row5.next HR.out hb1; have kf := hB.form k hk; rw [HFS.out] at kf; clear hb1 rf hB)
  go_ret
  exact ⟨rfl, HB1.out⟩

set_option maxRecDepth 10000 in
set_option maxHeartbeats 1600000 in
theorem may85_3 (k : Nat) (hk : k < 64) (hc : formAt k = 85) (a1 a4 : Int) (p2 : 0 ≤ a1) (p3 : a1 ≤ 31) (c2 : -2147483648 ≤ a4) (c3 : 2147483648 ≤ a4) (w : World) :
    Calls Tryd.prog 9 #[.agg #[.int .i64 (k : Int), .int .i64 a1, .int .i64 0, .int .i64 0, .int .i64 a4]] w fun e w' => e = .returned (.bool false) ∧ Below w.heap.size w w' := by
  have p1 : (k : Int) < 64 := by omega
  have HR : Hid (Row5 (w.alloc (.cells #[.int .i64 (k : Int), .int .i64 a1, .int .i64 0, .int .i64 0, .int .i64 a4] 32)) w.heap.size (k : Int) a1 0 0 a4) := Row5.new w (k : Int) a1 0 0 a4
  have HB0 : Hid (Below w.heap.size w (w.alloc (.cells #[.int .i64 (k : Int), .int .i64 a1, .int .i64 0, .int .i64 0, .int .i64 a4] 32))) := by show Below _ _ _; go_grown
  have HFS : Hid (formS k = ⟨#[85]⟩) := by show _ = _; unfold formS; rw [hc]; rfl
  clear hc
  go_enter Tryd.func9, Tryd.ntmps9
  go_wp2_with (go_at_call 11; refine (ref_kinds _).mono ?_; rintro e w1 ⟨B, rfl, hB, hb1⟩; have HB1 : Hid (Below w.heap.size w w1) := HB0.out.trans (hb1.mono HB0.out.size); obtain ⟨r0, r1, r2, r3, r4, rf, rl⟩ := Row5.next HR.out hb1; have kf := hB.form k hk; rw [HFS.out] at kf; clear hb1 rf hB)
  go_ret
  exact ⟨rfl, HB1.out⟩

set_option maxRecDepth 10000 in
set_option maxHeartbeats 1600000 in
theorem may85_4 (k : Nat) (hk : k < 64) (hc : formAt k = 85) (a1 a4 : Int) (p2 : 0 ≤ a1) (p3 : a1 ≤ 31) (c2 : -2147483648 ≤ a4) (c3 : a4 < 2147483648) (c4 : ¬ a4.tmod 4096 = 0) (w : World) :
    Calls Tryd.prog 9 #[.agg #[.int .i64 (k : Int), .int .i64 a1, .int .i64 0, .int .i64 0, .int .i64 a4]] w fun e w' => e = .returned (.bool false) ∧ Below w.heap.size w w' := by
  have d4 : (a4.tmod 4096 == 0) = false := by simp [c4]
  have p1 : (k : Int) < 64 := by omega
  have HR : Hid (Row5 (w.alloc (.cells #[.int .i64 (k : Int), .int .i64 a1, .int .i64 0, .int .i64 0, .int .i64 a4] 32)) w.heap.size (k : Int) a1 0 0 a4) := Row5.new w (k : Int) a1 0 0 a4
  have HB0 : Hid (Below w.heap.size w (w.alloc (.cells #[.int .i64 (k : Int), .int .i64 a1, .int .i64 0, .int .i64 0, .int .i64 a4] 32))) := by show Below _ _ _; go_grown
  have HFS : Hid (formS k = ⟨#[85]⟩) := by show _ = _; unfold formS; rw [hc]; rfl
  clear hc
  go_enter Tryd.func9, Tryd.ntmps9
  go_wp2_with (go_at_call 11; refine (ref_kinds _).mono ?_; rintro e w1 ⟨B, rfl, hB, hb1⟩; have HB1 : Hid (Below w.heap.size w w1) := HB0.out.trans (hb1.mono HB0.out.size); obtain ⟨r0, r1, r2, r3, r4, rf, rl⟩ := Row5.next HR.out hb1; have kf := hB.form k hk; rw [HFS.out] at kf; clear hb1 rf hB)
  go_ret
  exact ⟨rfl, HB1.out⟩

set_option maxRecDepth 10000 in
set_option maxHeartbeats 1600000 in
theorem may85_5 (k : Nat) (hk : k < 64) (hc : formAt k = 85) (a1 a4 : Int) (p2 : 0 ≤ a1) (p3 : a1 ≤ 31) (c2 : -2147483648 ≤ a4) (c3 : a4 < 2147483648) (c4 : a4.tmod 4096 = 0) (w : World) :
    Calls Tryd.prog 9 #[.agg #[.int .i64 (k : Int), .int .i64 a1, .int .i64 0, .int .i64 0, .int .i64 a4]] w fun e w' => e = .returned (.bool true) ∧ Below w.heap.size w w' := by
  have d4 : (a4.tmod 4096 == 0) = true := by simp [c4]
  have p1 : (k : Int) < 64 := by omega
  have HR : Hid (Row5 (w.alloc (.cells #[.int .i64 (k : Int), .int .i64 a1, .int .i64 0, .int .i64 0, .int .i64 a4] 32)) w.heap.size (k : Int) a1 0 0 a4) := Row5.new w (k : Int) a1 0 0 a4
  have HB0 : Hid (Below w.heap.size w (w.alloc (.cells #[.int .i64 (k : Int), .int .i64 a1, .int .i64 0, .int .i64 0, .int .i64 a4] 32))) := by show Below _ _ _; go_grown
  have HFS : Hid (formS k = ⟨#[85]⟩) := by show _ = _; unfold formS; rw [hc]; rfl
  clear hc
  go_enter Tryd.func9, Tryd.ntmps9
  go_wp2_with (go_at_call 11; refine (ref_kinds _).mono ?_; rintro e w1 ⟨B, rfl, hB, hb1⟩; have HB1 : Hid (Below w.heap.size w w1) := HB0.out.trans (hb1.mono HB0.out.size); obtain ⟨r0, r1, r2, r3, r4, rf, rl⟩ := Row5.next HR.out hb1; have kf := hB.form k hk; rw [HFS.out] at kf; clear hb1 rf hB)
  go_ret
  exact ⟨rfl, HB1.out⟩

set_option maxRecDepth 10000 in
set_option maxHeartbeats 1600000 in
theorem may74_0 (k : Nat) (hk : k < 64) (hc : formAt k = 74) (a1 a2 a3 a4 : Int) (p2 : 0 ≤ a1) (p3 : a1 ≤ 31) (p4 : 0 ≤ a2) (p5 : a2 ≤ 31) (p6 : 0 ≤ a3) (p7 : a3 ≤ 31) (c0 : ¬ a2 = 0) (w : World) :
    Calls Tryd.prog 9 #[.agg #[.int .i64 (k : Int), .int .i64 a1, .int .i64 a2, .int .i64 a3, .int .i64 a4]] w fun e w' => e = .returned (.bool false) ∧ Below w.heap.size w w' := by
  have d0 : (a2 == 0) = false := by simp [c0]
  have p1 : (k : Int) < 64 := by omega
  have HR : Hid (Row5 (w.alloc (.cells #[.int .i64 (k : Int), .int .i64 a1, .int .i64 a2, .int .i64 a3, .int .i64 a4] 32)) w.heap.size (k : Int) a1 a2 a3 a4) := Row5.new w (k : Int) a1 a2 a3 a4
  have HB0 : Hid (Below w.heap.size w (w.alloc (.cells #[.int .i64 (k : Int), .int .i64 a1, .int .i64 a2, .int .i64 a3, .int .i64 a4] 32))) := by show Below _ _ _; go_grown
  have HFS : Hid (formS k = ⟨#[74]⟩) := by show _ = _; unfold formS; rw [hc]; rfl
  clear hc
  go_enter Tryd.func9, Tryd.ntmps9
  go_wp2_with (go_at_call 11; refine (ref_kinds _).mono ?_; rintro e w1 ⟨B, rfl, hB, hb1⟩; have HB1 : Hid (Below w.heap.size w w1) := HB0.out.trans (hb1.mono HB0.out.size); obtain ⟨r0, r1, r2, r3, r4, rf, rl⟩ := Row5.next HR.out hb1; have kf := hB.form k hk; rw [HFS.out] at kf; clear hb1 rf hB)
  go_ret
  exact ⟨rfl, HB1.out⟩

set_option maxRecDepth 10000 in
set_option maxHeartbeats 1600000 in
theorem may74_1 (k : Nat) (hk : k < 64) (hc : formAt k = 74) (a1 a3 a4 : Int) (p2 : 0 ≤ a1) (p3 : a1 ≤ 31) (p6 : 0 ≤ a3) (p7 : a3 ≤ 31) (c1 : ¬ a3 = 0) (w : World) :
    Calls Tryd.prog 9 #[.agg #[.int .i64 (k : Int), .int .i64 a1, .int .i64 0, .int .i64 a3, .int .i64 a4]] w fun e w' => e = .returned (.bool false) ∧ Below w.heap.size w w' := by
  have d1 : (a3 == 0) = false := by simp [c1]
  have p1 : (k : Int) < 64 := by omega
  have HR : Hid (Row5 (w.alloc (.cells #[.int .i64 (k : Int), .int .i64 a1, .int .i64 0, .int .i64 a3, .int .i64 a4] 32)) w.heap.size (k : Int) a1 0 a3 a4) := Row5.new w (k : Int) a1 0 a3 a4
  have HB0 : Hid (Below w.heap.size w (w.alloc (.cells #[.int .i64 (k : Int), .int .i64 a1, .int .i64 0, .int .i64 a3, .int .i64 a4] 32))) := by show Below _ _ _; go_grown
  have HFS : Hid (formS k = ⟨#[74]⟩) := by show _ = _; unfold formS; rw [hc]; rfl
  clear hc
  go_enter Tryd.func9, Tryd.ntmps9
  go_wp2_with (go_at_call 11; refine (ref_kinds _).mono ?_; rintro e w1 ⟨B, rfl, hB, hb1⟩; have HB1 : Hid (Below w.heap.size w w1) := HB0.out.trans (hb1.mono HB0.out.size); obtain ⟨r0, r1, r2, r3, r4, rf, rl⟩ := Row5.next HR.out hb1; have kf := hB.form k hk; rw [HFS.out] at kf; clear hb1 rf hB)
  go_ret
  exact ⟨rfl, HB1.out⟩

set_option maxRecDepth 10000 in
set_option maxHeartbeats 1600000 in
theorem may74_2 (k : Nat) (hk : k < 64) (hc : formAt k = 74) (a1 a4 : Int) (p2 : 0 ≤ a1) (p3 : a1 ≤ 31) (c2 : a4 < -1048576) (w : World) :
    Calls Tryd.prog 9 #[.agg #[.int .i64 (k : Int), .int .i64 a1, .int .i64 0, .int .i64 0, .int .i64 a4]] w fun e w' => e = .returned (.bool false) ∧ Below w.heap.size w w' := by
  have p1 : (k : Int) < 64 := by omega
  have HR : Hid (Row5 (w.alloc (.cells #[.int .i64 (k : Int), .int .i64 a1, .int .i64 0, .int .i64 0, .int .i64 a4] 32)) w.heap.size (k : Int) a1 0 0 a4) := Row5.new w (k : Int) a1 0 0 a4
  have HB0 : Hid (Below w.heap.size w (w.alloc (.cells #[.int .i64 (k : Int), .int .i64 a1, .int .i64 0, .int .i64 0, .int .i64 a4] 32))) := by show Below _ _ _; go_grown
  have HFS : Hid (formS k = ⟨#[74]⟩) := by show _ = _; unfold formS; rw [hc]; rfl
  clear hc
  go_enter Tryd.func9, Tryd.ntmps9
  go_wp2_with (go_at_call 11; refine (ref_kinds _).mono ?_; rintro e w1 ⟨B, rfl, hB, hb1⟩; have HB1 : Hid (Below w.heap.size w w1) := HB0.out.trans (hb1.mono HB0.out.size); obtain ⟨r0, r1, r2, r3, r4, rf, rl⟩ := Row5.next HR.out hb1; have kf := hB.form k hk; rw [HFS.out] at kf; clear hb1 rf hB)
  go_ret
  exact ⟨rfl, HB1.out⟩

set_option maxRecDepth 10000 in
set_option maxHeartbeats 1600000 in
theorem may74_3 (k : Nat) (hk : k < 64) (hc : formAt k = 74) (a1 a4 : Int) (p2 : 0 ≤ a1) (p3 : a1 ≤ 31) (c2 : -1048576 ≤ a4) (c3 : 1048576 ≤ a4) (w : World) :
    Calls Tryd.prog 9 #[.agg #[.int .i64 (k : Int), .int .i64 a1, .int .i64 0, .int .i64 0, .int .i64 a4]] w fun e w' => e = .returned (.bool false) ∧ Below w.heap.size w w' := by
  have p1 : (k : Int) < 64 := by omega
  have HR : Hid (Row5 (w.alloc (.cells #[.int .i64 (k : Int), .int .i64 a1, .int .i64 0, .int .i64 0, .int .i64 a4] 32)) w.heap.size (k : Int) a1 0 0 a4) := Row5.new w (k : Int) a1 0 0 a4
  have HB0 : Hid (Below w.heap.size w (w.alloc (.cells #[.int .i64 (k : Int), .int .i64 a1, .int .i64 0, .int .i64 0, .int .i64 a4] 32))) := by show Below _ _ _; go_grown
  have HFS : Hid (formS k = ⟨#[74]⟩) := by show _ = _; unfold formS; rw [hc]; rfl
  clear hc
  go_enter Tryd.func9, Tryd.ntmps9
  go_wp2_with (go_at_call 11; refine (ref_kinds _).mono ?_; rintro e w1 ⟨B, rfl, hB, hb1⟩; have HB1 : Hid (Below w.heap.size w w1) := HB0.out.trans (hb1.mono HB0.out.size); obtain ⟨r0, r1, r2, r3, r4, rf, rl⟩ := Row5.next HR.out hb1; have kf := hB.form k hk; rw [HFS.out] at kf; clear hb1 rf hB)
  go_ret
  exact ⟨rfl, HB1.out⟩

set_option maxRecDepth 10000 in
set_option maxHeartbeats 1600000 in
theorem may74_4 (k : Nat) (hk : k < 64) (hc : formAt k = 74) (a1 a4 : Int) (p2 : 0 ≤ a1) (p3 : a1 ≤ 31) (c2 : -1048576 ≤ a4) (c3 : a4 < 1048576) (c4 : ¬ a4.tmod 2 = 0) (w : World) :
    Calls Tryd.prog 9 #[.agg #[.int .i64 (k : Int), .int .i64 a1, .int .i64 0, .int .i64 0, .int .i64 a4]] w fun e w' => e = .returned (.bool false) ∧ Below w.heap.size w w' := by
  have d4 : (a4.tmod 2 == 0) = false := by simp [c4]
  have p1 : (k : Int) < 64 := by omega
  have HR : Hid (Row5 (w.alloc (.cells #[.int .i64 (k : Int), .int .i64 a1, .int .i64 0, .int .i64 0, .int .i64 a4] 32)) w.heap.size (k : Int) a1 0 0 a4) := Row5.new w (k : Int) a1 0 0 a4
  have HB0 : Hid (Below w.heap.size w (w.alloc (.cells #[.int .i64 (k : Int), .int .i64 a1, .int .i64 0, .int .i64 0, .int .i64 a4] 32))) := by show Below _ _ _; go_grown
  have HFS : Hid (formS k = ⟨#[74]⟩) := by show _ = _; unfold formS; rw [hc]; rfl
  clear hc
  go_enter Tryd.func9, Tryd.ntmps9
  go_wp2_with (go_at_call 11; refine (ref_kinds _).mono ?_; rintro e w1 ⟨B, rfl, hB, hb1⟩; have HB1 : Hid (Below w.heap.size w w1) := HB0.out.trans (hb1.mono HB0.out.size); obtain ⟨r0, r1, r2, r3, r4, rf, rl⟩ := Row5.next HR.out hb1; have kf := hB.form k hk; rw [HFS.out] at kf; clear hb1 rf hB)
  go_ret
  exact ⟨rfl, HB1.out⟩

set_option maxRecDepth 10000 in
set_option maxHeartbeats 1600000 in
theorem may74_5 (k : Nat) (hk : k < 64) (hc : formAt k = 74) (a1 a4 : Int) (p2 : 0 ≤ a1) (p3 : a1 ≤ 31) (c2 : -1048576 ≤ a4) (c3 : a4 < 1048576) (c4 : a4.tmod 2 = 0) (w : World) :
    Calls Tryd.prog 9 #[.agg #[.int .i64 (k : Int), .int .i64 a1, .int .i64 0, .int .i64 0, .int .i64 a4]] w fun e w' => e = .returned (.bool true) ∧ Below w.heap.size w w' := by
  have d4 : (a4.tmod 2 == 0) = true := by simp [c4]
  have p1 : (k : Int) < 64 := by omega
  have HR : Hid (Row5 (w.alloc (.cells #[.int .i64 (k : Int), .int .i64 a1, .int .i64 0, .int .i64 0, .int .i64 a4] 32)) w.heap.size (k : Int) a1 0 0 a4) := Row5.new w (k : Int) a1 0 0 a4
  have HB0 : Hid (Below w.heap.size w (w.alloc (.cells #[.int .i64 (k : Int), .int .i64 a1, .int .i64 0, .int .i64 0, .int .i64 a4] 32))) := by show Below _ _ _; go_grown
  have HFS : Hid (formS k = ⟨#[74]⟩) := by show _ = _; unfold formS; rw [hc]; rfl
  clear hc
  go_enter Tryd.func9, Tryd.ntmps9
  go_wp2_with (go_at_call 11; refine (ref_kinds _).mono ?_; rintro e w1 ⟨B, rfl, hB, hb1⟩; have HB1 : Hid (Below w.heap.size w w1) := HB0.out.trans (hb1.mono HB0.out.size); obtain ⟨r0, r1, r2, r3, r4, rf, rl⟩ := Row5.next HR.out hb1; have kf := hB.form k hk; rw [HFS.out] at kf; clear hb1 rf hB)
  go_ret
  exact ⟨rfl, HB1.out⟩
end Go.Proofs.YtmfmakkiefgogabDoor
