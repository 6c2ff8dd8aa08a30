/-
  Proved: 'Rows.LeEachSaid': for every text, size and stop the statement LeEach of layer 1 (the parts that Each tells, one behind the other, are the text but for what is left at its end; one may stop early) returns true and leaves its arguments as they were. Conditions: none beyond those of the given row.
-/
import Derived.Test.YtonaanedeldhmaaEach
import Derived.Deep.QuietTactic
import Derived.BigQuiet
import Derived.WalkKit
import Derived.ProofKit
import Derived.OpenShut
import Derived.ShutString
namespace Go.Proofs.Ytonaanedeldhmaa.leEach
open Go.ChangeShapes Go.WideShapes Go.ChangeAt Go.RowKit
open Go.ChangeMaps (open_string shut_string)
set_option linter.unusedVariables false
attribute [local go_sem ↓] Go.wp_at_zero Go.wp_at_succ

theorem own : ownKnob Try.prog.godebug = none := by kernel_rfl

theorem boxes_cells (a1 a2 : Int) (w : World) :
    ((w.alloc (.cells #[.int .i64 a1] 3)).alloc (.cells #[.int .i64 a2] 3)).cell? ⟨w.heap.size, 0, none⟩ = some (.int .i64 a1) ∧ ((w.alloc (.cells #[.int .i64 a1] 3)).alloc (.cells #[.int .i64 a2] 3)).cell? ⟨w.heap.size + 1, 0, none⟩ = some (.int .i64 a2) := by
  constructor
  · simp [go_sem]
  · simp [go_sem]

/-- The first call, behind the two boxes of the closures. -/
theorem speaks_boxes (a1 a2 : Int) (w : World) : Calls Try.prog 8 #[] ((w.alloc (.cells #[.int .i64 a1] 3)).alloc (.cells #[.int .i64 a2] 3)) fun e w' => e = .returned (.bool true) ∧
    w'.cell? ⟨w.heap.size, 0, none⟩ = some (.int .i64 a1) ∧ w'.cell? ⟨w.heap.size + 1, 0, none⟩ = some (.int .i64 a2) ∧ w.heap.size + 1 < w'.heap.size ∧ Below w.heap.size w w' ∧ (∀ o1 o2 o3, (((w'.alloc o1).alloc o2).alloc o3).cell? ⟨w.heap.size, 0, none⟩ = some (.int .i64 a1)) ∧ (∀ o1 o2 o3 o4 o5, (((((w'.alloc o1).alloc o2).alloc o3).alloc o4).alloc o5).cell? ⟨w.heap.size, 0, none⟩ = some (.int .i64 a1)) := by
  refine (speaks_any _).mono ?_
  rintro e w' ⟨rfl, hb⟩
  have hz := hb.size
  have hc := boxes_cells a1 a2 w
  simp only [World.size_alloc] at hz hb
  have h1 := (hb.cell (p := ⟨w.heap.size, 0, none⟩) (by simp; omega)).trans hc.1
  refine ⟨rfl, h1, (hb.cell (p := ⟨w.heap.size + 1, 0, none⟩) (by simp)).trans hc.2, by omega, ?_, ?_, ?_⟩
  · exact (((Below.refl _ w).alloc (Nat.le_refl _) _).alloc (by simp) _).trans (hb.mono (by omega))
  · intro o1 o2 o3
    have hbb : Below w'.heap.size w' (((w'.alloc o1).alloc o2).alloc o3) := by go_grown
    exact (hbb.cell (p := ⟨w.heap.size, 0, none⟩) (by show w.heap.size < _; omega)).trans h1
  · intro o1 o2 o3 o4 o5
    have hbb : Below w'.heap.size w' (((((w'.alloc o1).alloc o2).alloc o3).alloc o4).alloc o5) := by go_grown
    exact (hbb.cell (p := ⟨w.heap.size, 0, none⟩) (by show w.heap.size < _; omega)).trans h1

set_option maxRecDepth 100000 in
set_option maxHeartbeats 1600000 in
theorem walk_none (s0 c : ByteArray) (a1 a2 : Int) (hs0 : s0.size ≤ 9223372036854775807) (hcut : s0.extract 0 (min s0.size 300) = c) (hcs : c.size ≤ 300) (h1 : a1 < 1) (w : World) :
    Calls Try.prog 6 #[.string s0, .int .i64 a1, .int .i64 a2] w fun e w' => e = .returned (.bool true) ∧ Below w.heap.size w w' := by
  by_cases hs : s0.size ≤ 300
  all_goals
    first | rw [Nat.min_eq_left hs] at hcut | rw [Nat.min_eq_right (by omega)] at hcut
    go_enter Try.func6, Try.ntmps6
    go_wp2_with (first
      | (go_at_call 8; refine (speaks_boxes _ _ _).mono ?_; rintro e w1 ⟨rfl, hc1, hc2, hz, hb, hc3, hc5⟩)
      | (go_at_call 21; refine (each_any _ _ _).mono ?_; rintro e w2 ⟨rfl, rfl⟩)
      | (go_at_call 25; refine (each1_none _ _ _ _ _ h1 (by simp [go_sem])).mono ?_; rintro e w2 ⟨rfl, rfl⟩))
    go_ret
    refine ⟨rfl, ?_⟩
    go_grown

/-- The call of what Each answers, with the statement's closure. -/
theorem call25 (c gt : ByteArray) (m all K : Nat) (a2 : Int) (w w1 : World) (hcs : c.size ≤ 300) (hm : 1 ≤ m) (hm1 : m ≤ 9223372036854775807) (hall : (c.size : Int) / (m : Int) = (all : Int)) (hal : all * m ≤ c.size) (ha3 : all ≤ 300)
    (hK : Hid (parts all a2 = K)) (hgt : Hid (c.extract 0 (K * m) = gt)) (hc1 : w1.cell? ⟨w.heap.size, 0, none⟩ = some (.int .i64 m)) (hc2 : w1.cell? ⟨w.heap.size + 1, 0, none⟩ = some (.int .i64 a2)) (hz : w.heap.size + 1 < w1.heap.size) (hb : Below w.heap.size w w1) :
    Calls Try.prog 25 #[.func (.func 22) #[] #[.pointer (some ⟨w1.heap.size + 1 + 1, 0, none⟩), .pointer (some ⟨w1.heap.size + 1, 0, none⟩), .pointer (some ⟨w.heap.size, 0, none⟩), .pointer (some ⟨w1.heap.size, 0, none⟩), .pointer (some ⟨w.heap.size + 1, 0, none⟩)],
        .pointer (some ⟨w1.heap.size + 1 + 1 + 1 + 1, 0, none⟩), .pointer (some ⟨w1.heap.size + 1 + 1 + 1, 0, none⟩)]
      (((((w1.alloc (.cells #[.string ⟨#[]⟩] 9)).alloc (.cells #[.int .i64 0] 3)).alloc (.cells #[.bool true] 4)).alloc (.cells #[.string c] 9)).alloc (.cells #[.int .i64 m] 3))
      fun e w' => e = .returned (.tuple #[]) ∧ (w'.cell? ⟨w1.heap.size + 1 + 1, 0, none⟩ = some (.bool true) ∧ w'.cell? ⟨w1.heap.size + 1, 0, none⟩ = some (.int .i64 (K : Int)) ∧ w'.cell? ⟨w.heap.size, 0, none⟩ = some (.int .i64 (m : Int)) ∧ w'.cell? ⟨w1.heap.size, 0, none⟩ = some (.string gt) ∧ w'.cell? ⟨w.heap.size + 1, 0, none⟩ = some (.int .i64 a2)) ∧ Below w.heap.size w w' := by
  have hbb : Below w1.heap.size w1 (((((w1.alloc (.cells #[.string ⟨#[]⟩] 9)).alloc (.cells #[.int .i64 0] 3)).alloc (.cells #[.bool true] 4)).alloc (.cells #[.string c] 9)).alloc (.cells #[.int .i64 m] 3)) := by go_grown
  have x1 := (hbb.cell (p := ⟨w.heap.size, 0, none⟩) (by show w.heap.size < _; omega)).trans hc1
  have x2 := (hbb.cell (p := ⟨w.heap.size + 1, 0, none⟩) (by show w.heap.size + 1 < _; omega)).trans hc2
  refine (each1 (w1.heap.size + 1 + 1) (w1.heap.size + 1) w1.heap.size w.heap.size (w.heap.size + 1) (w1.heap.size + 1 + 1 + 1) (w1.heap.size + 1 + 1 + 1 + 1) m w.heap.size all a2 c _ ?_ hcs hm hm1 hall hal ha3 ⟨by omega, by omega, by omega⟩ ?_).mono ?_
  · refine ⟨?_, ?_, ?_, ?_, ?_, ?_, ?_, ?_, ?_, ?_, ?_, ?_, ?_, ?_, ?_⟩ <;> omega
  · refine ⟨?_, ?_, x1, ?_, x2, ?_, ?_, ?_, ?_, ?_⟩ <;> simp [go_sem]
  · rintro e w' ⟨rfl, hI, hb3⟩
    rw [hK.out, hgt.out] at hI
    obtain ⟨i1, i2, i3, i4, i5, _⟩ := hI
    exact ⟨rfl, ⟨i1, i2, i3, i4, i5⟩, (hb.trans (hbb.mono (by omega))).trans hb3⟩

set_option maxRecDepth 100000 in
set_option maxHeartbeats 1600000 in
theorem walk_a (s0 c gt : ByteArray) (m all K o : Nat) (hs0 : s0.size ≤ 9223372036854775807) (hcut : s0.extract 0 (min s0.size 300) = c) (hcs : c.size ≤ 300) (hm : 1 ≤ m) (hm1 : m ≤ 9223372036854775807) (hall : (c.size : Int) / (m : Int) = (all : Int)) (hal : all * m ≤ c.size) (ha3 : all ≤ 300) (hK : Hid (parts all (K : Int) = K)) (hgt : Hid (c.extract 0 (K * m) = gt))
    (ho : (K : Int) * (m : Int) = (o : Int)) (hoc : o ≤ c.size) (hog : c.extract 0 o = gt) (hmc : m ≤ c.size + 1) (q1 : 1 ≤ K) (q2 : K < all) (w : World) :
    Calls Try.prog 6 #[.string s0, .int .i64 m, .int .i64 (K : Int)] w fun e w' => e = .returned (.bool true) ∧ Below w.heap.size w w' := by
  by_cases hs : s0.size ≤ 300
  all_goals
    first | rw [Nat.min_eq_left hs] at hcut | rw [Nat.min_eq_right (by omega)] at hcut
    go_enter Try.func6, Try.ntmps6
    go_wp2_with (first
      | (go_at_call 8; refine (speaks_boxes _ _ _).mono ?_; rintro e w1 ⟨rfl, hc1, hc2, hz, hb, hc3, hc5⟩)
      | (go_at_call 21; refine (each_any _ _ _).mono ?_; rintro e w2 ⟨rfl, rfl⟩)
      | (go_at_call 25; refine (call25 c gt m all K _ w _ hcs hm hm1 hall hal ha3 hK hgt hc1 hc2 hz hb).mono ?_; clear hc1 hc2 hc3 hc5; rintro e w3 ⟨rfl, ⟨i1, i2, i3, i4, i5⟩, hb3⟩))
    go_quiet (fail)
    go_wp2
    go_ret
    exact ⟨rfl, below_drewN hb3 _⟩

set_option maxRecDepth 100000 in
set_option maxHeartbeats 1600000 in
theorem walk_b1 (s0 c gt : ByteArray) (m K o : Nat) (a2 : Int) (hs0 : s0.size ≤ 9223372036854775807) (hcut : s0.extract 0 (min s0.size 300) = c) (hcs : c.size ≤ 300) (hm : 1 ≤ m) (hm1 : m ≤ 9223372036854775807) (hall : (c.size : Int) / (m : Int) = (K : Int)) (hal : K * m ≤ c.size) (ha3 : K ≤ 300) (hK : Hid (parts K a2 = K)) (hgt : Hid (c.extract 0 (K * m) = gt))
    (ho : (K : Int) * (m : Int) = (o : Int)) (hoc : o ≤ c.size) (hog : c.extract 0 o = gt) (hmc : m ≤ c.size + 1) (q1 : 1 ≤ a2) (q2 : (K : Int) ≤ a2) (w : World) :
    Calls Try.prog 6 #[.string s0, .int .i64 m, .int .i64 a2] w fun e w' => e = .returned (.bool true) ∧ Below w.heap.size w w' := by
  by_cases hs : s0.size ≤ 300
  all_goals
    first | rw [Nat.min_eq_left hs] at hcut | rw [Nat.min_eq_right (by omega)] at hcut
    go_enter Try.func6, Try.ntmps6
    go_wp2_with (first
      | (go_at_call 8; refine (speaks_boxes _ _ _).mono ?_; rintro e w1 ⟨rfl, hc1, hc2, hz, hb, hc3, hc5⟩)
      | (go_at_call 21; refine (each_any _ _ _).mono ?_; rintro e w2 ⟨rfl, rfl⟩)
      | (go_at_call 25; refine (call25 c gt m K K _ w _ hcs hm hm1 hall hal ha3 hK hgt hc1 hc2 hz hb).mono ?_; clear hc1 hc2 hc3 hc5; rintro e w3 ⟨rfl, ⟨i1, i2, i3, i4, i5⟩, hb3⟩))
    go_quiet (fail)
    go_wp2
    go_ret
    exact ⟨rfl, below_drewN hb3 _⟩

set_option maxRecDepth 100000 in
set_option maxHeartbeats 1600000 in
theorem walk_b2 (s0 c gt : ByteArray) (m K o : Nat) (a2 : Int) (hs0 : s0.size ≤ 9223372036854775807) (hcut : s0.extract 0 (min s0.size 300) = c) (hcs : c.size ≤ 300) (hm : 1 ≤ m) (hm1 : m ≤ 9223372036854775807) (hall : (c.size : Int) / (m : Int) = (K : Int)) (hal : K * m ≤ c.size) (ha3 : K ≤ 300) (hK : Hid (parts K a2 = K)) (hgt : Hid (c.extract 0 (K * m) = gt))
    (ho : (K : Int) * (m : Int) = (o : Int)) (hoc : o ≤ c.size) (hog : c.extract 0 o = gt) (hmc : m ≤ c.size + 1) (q1 : a2 < 1) (w : World) :
    Calls Try.prog 6 #[.string s0, .int .i64 m, .int .i64 a2] w fun e w' => e = .returned (.bool true) ∧ Below w.heap.size w w' := by
  by_cases hs : s0.size ≤ 300
  all_goals
    first | rw [Nat.min_eq_left hs] at hcut | rw [Nat.min_eq_right (by omega)] at hcut
    go_enter Try.func6, Try.ntmps6
    go_wp2_with (first
      | (go_at_call 8; refine (speaks_boxes _ _ _).mono ?_; rintro e w1 ⟨rfl, hc1, hc2, hz, hb, hc3, hc5⟩)
      | (go_at_call 21; refine (each_any _ _ _).mono ?_; rintro e w2 ⟨rfl, rfl⟩)
      | (go_at_call 25; refine (call25 c gt m K K _ w _ hcs hm hm1 hall hal ha3 hK hgt hc1 hc2 hz hb).mono ?_; clear hc1 hc2 hc3 hc5; rintro e w3 ⟨rfl, ⟨i1, i2, i3, i4, i5⟩, hb3⟩))
    go_quiet (fail)
    go_wp2
    go_ret
    exact ⟨rfl, below_drewN hb3 _⟩

set_option maxRecDepth 100000 in
set_option maxHeartbeats 1600000 in
theorem walk_c1 (s0 c gt : ByteArray) (m K o : Nat) (a2 : Int) (hs0 : s0.size ≤ 9223372036854775807) (hcut : s0.extract 0 (min s0.size 300) = c) (hcs : c.size ≤ 300) (hm : 1 ≤ m) (hm1 : m ≤ 9223372036854775807) (hall : (c.size : Int) / (m : Int) = (K : Int)) (hal : K * m ≤ c.size) (ha3 : K ≤ 300) (hK : Hid (parts K a2 = K)) (hgt : Hid (c.extract 0 (K * m) = gt))
    (ho : (K : Int) * (m : Int) = (o : Int)) (hoc : o ≤ c.size) (hog : c.extract 0 o = gt) (hmc : c.size + 1 < m) (hq0 : (c.size : Int) / ((c.size : Int) + 1) = (K : Int)) (ho2 : (K : Int) * ((c.size : Int) + 1) = (o : Int)) (q1 : 1 ≤ a2) (q2 : (K : Int) ≤ a2) (w : World) :
    Calls Try.prog 6 #[.string s0, .int .i64 m, .int .i64 a2] w fun e w' => e = .returned (.bool true) ∧ Below w.heap.size w w' := by
  by_cases hs : s0.size ≤ 300
  all_goals
    first | rw [Nat.min_eq_left hs] at hcut | rw [Nat.min_eq_right (by omega)] at hcut
    go_enter Try.func6, Try.ntmps6
    go_wp2_with (first
      | (go_at_call 8; refine (speaks_boxes _ _ _).mono ?_; rintro e w1 ⟨rfl, hc1, hc2, hz, hb, hc3, hc5⟩)
      | (go_at_call 21; refine (each_any _ _ _).mono ?_; rintro e w2 ⟨rfl, rfl⟩)
      | (go_at_call 25; refine (call25 c gt m K K _ w _ hcs hm hm1 hall hal ha3 hK hgt hc1 hc2 hz hb).mono ?_; clear hc1 hc2 hc3 hc5; rintro e w3 ⟨rfl, ⟨i1, i2, i3, i4, i5⟩, hb3⟩))
    go_quiet (fail)
    go_wp2
    go_ret
    exact ⟨rfl, below_drewN hb3 _⟩

set_option maxRecDepth 100000 in
set_option maxHeartbeats 1600000 in
theorem walk_c2 (s0 c gt : ByteArray) (m K o : Nat) (a2 : Int) (hs0 : s0.size ≤ 9223372036854775807) (hcut : s0.extract 0 (min s0.size 300) = c) (hcs : c.size ≤ 300) (hm : 1 ≤ m) (hm1 : m ≤ 9223372036854775807) (hall : (c.size : Int) / (m : Int) = (K : Int)) (hal : K * m ≤ c.size) (ha3 : K ≤ 300) (hK : Hid (parts K a2 = K)) (hgt : Hid (c.extract 0 (K * m) = gt))
    (ho : (K : Int) * (m : Int) = (o : Int)) (hoc : o ≤ c.size) (hog : c.extract 0 o = gt) (hmc : c.size + 1 < m) (hq0 : (c.size : Int) / ((c.size : Int) + 1) = (K : Int)) (ho2 : (K : Int) * ((c.size : Int) + 1) = (o : Int)) (q1 : a2 < 1) (w : World) :
    Calls Try.prog 6 #[.string s0, .int .i64 m, .int .i64 a2] w fun e w' => e = .returned (.bool true) ∧ Below w.heap.size w w' := by
  by_cases hs : s0.size ≤ 300
  all_goals
    first | rw [Nat.min_eq_left hs] at hcut | rw [Nat.min_eq_right (by omega)] at hcut
    go_enter Try.func6, Try.ntmps6
    go_wp2_with (first
      | (go_at_call 8; refine (speaks_boxes _ _ _).mono ?_; rintro e w1 ⟨rfl, hc1, hc2, hz, hb, hc3, hc5⟩)
      | (go_at_call 21; refine (each_any _ _ _).mono ?_; rintro e w2 ⟨rfl, rfl⟩)
      | (go_at_call 25; refine (call25 c gt m K K _ w _ hcs hm hm1 hall hal ha3 hK hgt hc1 hc2 hz hb).mono ?_; clear hc1 hc2 hc3 hc5; rintro e w3 ⟨rfl, ⟨i1, i2, i3, i4, i5⟩, hb3⟩))
    go_quiet (fail)
    go_wp2
    go_ret
    exact ⟨rfl, below_drewN hb3 _⟩

theorem walk (a0 : ByteArray) (a1 : Int) (a2 : Int) (w0 : a0.size ≤ maxLen) (w1 : (Lit.int .i64 a1).wf = true) (w2 : (Lit.int .i64 a2).wf = true) (w : World) :
    Calls Try.prog 6 #[.string a0, .int .i64 a1, .int .i64 a2] w fun e w' => e = .returned (.bool true) ∧ Below w.heap.size w w' := by
  have b1 := bounds_i64 w1
  have b2 := bounds_i64 w2
  have hs0 : a0.size ≤ 9223372036854775807 := by unfold maxLen at w0; omega
  obtain ⟨c, hcut⟩ : ∃ c, a0.extract 0 (min a0.size 300) = c := ⟨_, rfl⟩
  have hcs : c.size ≤ 300 := by rw [← hcut]; simp; omega
  by_cases h1 : a1 < 1
  · exact walk_none a0 c a1 a2 hs0 hcut hcs h1 w
  · obtain ⟨m, rfl⟩ := Int.eq_ofNat_of_zero_le (show 0 ≤ a1 by omega)
    have hm : 1 ≤ m := by omega
    have hm1 : m ≤ 9223372036854775807 := by omega
    by_cases hmc : m ≤ c.size + 1
    · obtain ⟨all, hal⟩ : ∃ all, all = c.size / m := ⟨_, rfl⟩
      have e1 : (c.size : Int) / (m : Int) = (all : Int) := by rw [hal]; exact (Int.natCast_ediv c.size m).symm
      have e2 : all * m ≤ c.size := by rw [hal]; exact Nat.div_mul_le_self _ _
      have e3 : all ≤ 300 := by rw [hal]; exact Nat.le_trans (Nat.div_le_self _ _) hcs
      by_cases hst : 1 ≤ a2 ∧ a2 < all
      · obtain ⟨K, rfl⟩ := Int.eq_ofNat_of_zero_le (show 0 ≤ a2 by omega)
        have hK : parts all (K : Int) = K := by unfold parts; rw [if_pos hst]; rfl
        exact walk_a a0 c _ m all K (K * m) hs0 hcut hcs hm hm1 e1 e2 e3 hK rfl (by push_cast; rfl) (Nat.le_trans (Nat.mul_le_mul_right m (by omega)) e2) rfl hmc (by omega) (by omega) w
      · have hK : parts all a2 = all := by unfold parts; rw [if_neg hst]
        by_cases q1 : 1 ≤ a2
        · exact walk_b1 a0 c _ m all (all * m) a2 hs0 hcut hcs hm hm1 e1 e2 e3 hK rfl (by push_cast; rfl) e2 rfl hmc q1 (by omega) w
        · exact walk_b2 a0 c _ m all (all * m) a2 hs0 hcut hcs hm hm1 e1 e2 e3 hK rfl (by push_cast; rfl) e2 rfl hmc (by omega) w
    · have e1 : (c.size : Int) / (m : Int) = ((0 : Nat) : Int) := Int.ediv_eq_zero_of_lt (by omega) (by omega)
      have e2 : (c.size : Int) / ((c.size : Int) + 1) = ((0 : Nat) : Int) := Int.ediv_eq_zero_of_lt (by omega) (by omega)
      have hK : parts 0 a2 = 0 := by unfold parts; split <;> omega
      by_cases q1 : 1 ≤ a2
      · exact walk_c1 a0 c _ m 0 0 a2 hs0 hcut hcs hm hm1 e1 (by omega) (by omega) hK rfl (by simp) (by omega) (by rw [Nat.zero_mul]) (by omega) e2 (by simp) q1 (by omega) w
      · exact walk_c2 a0 c _ m 0 0 a2 hs0 hcut hcs hm hm1 e1 (by omega) (by omega) hK rfl (by simp) (by omega) (by rw [Nat.zero_mul]) (by omega) e2 (by simp) (by omega) w

set_option maxRecDepth 100000 in
theorem lifted (os : Os) (started : os.Started) (H : Type) (enc : TypeId × Value → H) :
    ReturnsInHanded {} Try.checked os 6 .any (Rows.leEachSpec.pre6 enc Try.prog Try.f6 Rows.leEachRow.domain false) (Rows.leEachSpec.post enc Try.prog Try.f6 false true false false) := by
  refine returnsInHanded_of_change (C := Try.checked) own started (by kernel_rfl) Try.func6
    (ChangeSpec.witness6 (enc := enc) (C := Try.checked) false ⟨#[], #[.string ByteArray.empty, .int .i64 0, .int .i64 0], []⟩ 8 (by kernel_rfl) (by kernel_rfl) (by kernel_rfl) (by kernel_rfl)) ?_
  intro W base args ds gs before hval0 hW hcnd _
  have hval : ∀ (j : Nat) t v, Try.f6.params[j]? = some t → args[j]? = some v → Value.okWide Try.prog W .any base t v := hval0
  have hW' := hW
  obtain ⟨p, q, hA0, hV, rfl, hfz, hnd⟩ := hW
  have hA : DataW.TrodAll enc Try.prog W 0 (fun _ => true) true Try.f6.params.toList args.toList ds p := hA0
  rw [Try.params6] at hA hval
  obtain ⟨v0, vs0, d0, ds0, p0, q0, hargs, rfl, rfl, h0, r0⟩ := trodAll_cons hA
  obtain ⟨v1, vs1, d1, ds1, p1, q1, rfl, rfl, rfl, h1, r1⟩ := trodAll_cons r0
  obtain ⟨v2, vs2, d2, ds2, p2, q2, rfl, rfl, rfl, h2, r2⟩ := trodAll_cons r1
  obtain ⟨rfl, rfl, rfl⟩ := trodAll_nil r2
  obtain rfl : args = #[v0, v1, v2] := by cases args; simp_all
  obtain ⟨rfl, rfl⟩ := trodVars_none hV
  obtain ⟨a0, rfl, rfl, rfl, w0⟩ := open_string Try.underlying9 (hval 0 9 v0 rfl rfl) h0
  obtain ⟨a1, rfl, rfl, rfl, w1⟩ := open_int Try.underlying3 (hval 1 3 v1 rfl rfl) h1
  obtain ⟨a2, rfl, rfl, rfl, w2⟩ := open_int Try.underlying3 (hval 2 3 v2 rfl rfl) h2
  clear hA0 hval0
  simp only [List.append_nil] at hW'
  refine (walk a0 a1 a2 w0 w1 w2 W).mono fun e W' ⟨he, bel⟩ => ?_
  subst he
  exact ⟨_, rfl, _, _, _, [], _, [], hW', trodAll_mk1 (shut_bool Try.underlying4 _), (trodAll_cons_mk (shut_string Try.underlying9 w0) (trodAll_cons_mk (shut_int Try.underlying3 w1) (trodAll_cons_mk (shut_int Try.underlying3 w2) trodAll_mk0))), rfl, bel.frame _, fun h => by cases h⟩

theorem over : Rows.leEachRow.holds Try.pinned (OpenSpec.ofChange Rows.leEachSpec) :=
  OpenClaim.holds_of_wide 6 Try.f6 rfl rfl rfl rfl rfl rfl rfl ⟨rfl, rfl, rfl, rfl, rfl⟩ rfl rfl rfl rfl rfl (by kernel_rfl) Try.func6 (by kernel_rfl)
    (of_decide_eq_true (by kernel_rfl)) (by unfold Func.isWrapper; first | (rw [if_pos (by decide +kernel)]; kernel_rfl) | (rw [if_neg (by decide +kernel)]; exact ⟨rfl, rfl⟩))
    (fun os started H enc _ => lifted os started H enc)

theorem proved : Rows.LeEachSaid :=
  over
#print axioms proved
end Go.Proofs.Ytonaanedeldhmaa.leEach
