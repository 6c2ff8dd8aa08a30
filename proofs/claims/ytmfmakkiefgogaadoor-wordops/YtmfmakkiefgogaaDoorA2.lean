/-
  Layer 5: Do of any operation (a number from 0 to 27, or none) and any two numbers of 64 bits. No condition beyond that.
-/
import Derived.Test.YtmfmakkiefgogaaDoorA1
namespace Go.Proofs.YtmfmakkiefgogaaDoor
open Go.RowKit
set_option linter.unusedVariables false
set_option maxRecDepth 10000
theorem upper_int (x y : Int) (hx0 : 0 ≤ x) (hx : x < 18446744073709551616) (hy0 : 0 ≤ y) (hy : y < 18446744073709551616) (w : World) :
    Calls Tryd.prog 46 #[.int .u64 x, .int .u64 y] w fun e w' => e = .returned (.int .u64 (upr x y)) ∧ w' = w := by
  obtain ⟨n, rfl⟩ := Int.eq_ofNat_of_zero_le hx0
  obtain ⟨m, rfl⟩ := Int.eq_ofNat_of_zero_le hy0
  exact upper_any n m (by omega) (by omega) w

set_option maxHeartbeats 400000 in
theorem whole_0 (a b : Int) (ha0 : 0 ≤ a) (ha : a < 18446744073709551616) (hb0 : 0 ≤ b) (hb : b < 18446744073709551616) (w : World) :
    Calls Tryd.prog 24 #[.int .i64 0, .int .u64 a, .int .u64 b] w fun e w' => e = .returned (.int .u64 (whole 0 a b)) ∧ w' = w := by
  go_enter Tryd.func24, Tryd.ntmps24
  go_wp2_with (first
    | (go_at_call 22; refine (extended_any _ _).mono ?_; rintro e w' ⟨rfl, rfl⟩)
    | (go_at_call 40; refine (lowest_any _ _).mono ?_; rintro e w' ⟨rfl, rfl⟩)
    | (go_at_call 45; refine (oneIf_any _ _).mono ?_; rintro e w' ⟨rfl, rfl⟩)
    | (go_at_call 46; refine (upper_int a b ha0 ha hb0 hb _).mono ?_; rintro e w' ⟨rfl, rfl⟩)
    | (go_at_call 47; refine (ifn_any _ _ _).mono ?_; rintro e w' ⟨rfl, rfl⟩)
    | (go_at_call 41; refine (qs_any _ _ (by first | omega | exact (ext_range _).1 | exact (ext_range _).2) (by first | omega | exact (ext_range _).1 | exact (ext_range _).2) (by first | omega | exact (ext_range _).1 | exact (ext_range _).2) (by first | omega | exact (ext_range _).1 | exact (ext_range _).2) _).mono ?_; rintro e w' ⟨rfl, rfl⟩)
    | (go_at_call 42; refine (qu_any _ _ (by first | omega | exact (ext_range _).1 | exact (ext_range _).2) (by first | omega | exact (ext_range _).1 | exact (ext_range _).2) (by first | omega | exact (ext_range _).1 | exact (ext_range _).2) (by first | omega | exact (ext_range _).1 | exact (ext_range _).2) _).mono ?_; rintro e w' ⟨rfl, rfl⟩)
    | (go_at_call 43; refine (rs_any _ _ (by first | omega | exact (ext_range _).1 | exact (ext_range _).2) (by first | omega | exact (ext_range _).1 | exact (ext_range _).2) (by first | omega | exact (ext_range _).1 | exact (ext_range _).2) (by first | omega | exact (ext_range _).1 | exact (ext_range _).2) _).mono ?_; rintro e w' ⟨rfl, rfl⟩)
    | (go_at_call 44; refine (ru_any _ _ (by first | omega | exact (ext_range _).1 | exact (ext_range _).2) (by first | omega | exact (ext_range _).1 | exact (ext_range _).2) (by first | omega | exact (ext_range _).1 | exact (ext_range _).2) (by first | omega | exact (ext_range _).1 | exact (ext_range _).2) _).mono ?_; rintro e w' ⟨rfl, rfl⟩))
  go_ret
  refine ⟨ret_int ?_, rfl⟩
  simp only [whole]

set_option maxHeartbeats 400000 in
theorem whole_1 (a b : Int) (ha0 : 0 ≤ a) (ha : a < 18446744073709551616) (hb0 : 0 ≤ b) (hb : b < 18446744073709551616) (w : World) :
    Calls Tryd.prog 24 #[.int .i64 1, .int .u64 a, .int .u64 b] w fun e w' => e = .returned (.int .u64 (whole 1 a b)) ∧ w' = w := by
  go_enter Tryd.func24, Tryd.ntmps24
  go_wp2_with (first
    | (go_at_call 22; refine (extended_any _ _).mono ?_; rintro e w' ⟨rfl, rfl⟩)
    | (go_at_call 40; refine (lowest_any _ _).mono ?_; rintro e w' ⟨rfl, rfl⟩)
    | (go_at_call 45; refine (oneIf_any _ _).mono ?_; rintro e w' ⟨rfl, rfl⟩)
    | (go_at_call 46; refine (upper_int a b ha0 ha hb0 hb _).mono ?_; rintro e w' ⟨rfl, rfl⟩)
    | (go_at_call 47; refine (ifn_any _ _ _).mono ?_; rintro e w' ⟨rfl, rfl⟩)
    | (go_at_call 41; refine (qs_any _ _ (by first | omega | exact (ext_range _).1 | exact (ext_range _).2) (by first | omega | exact (ext_range _).1 | exact (ext_range _).2) (by first | omega | exact (ext_range _).1 | exact (ext_range _).2) (by first | omega | exact (ext_range _).1 | exact (ext_range _).2) _).mono ?_; rintro e w' ⟨rfl, rfl⟩)
    | (go_at_call 42; refine (qu_any _ _ (by first | omega | exact (ext_range _).1 | exact (ext_range _).2) (by first | omega | exact (ext_range _).1 | exact (ext_range _).2) (by first | omega | exact (ext_range _).1 | exact (ext_range _).2) (by first | omega | exact (ext_range _).1 | exact (ext_range _).2) _).mono ?_; rintro e w' ⟨rfl, rfl⟩)
    | (go_at_call 43; refine (rs_any _ _ (by first | omega | exact (ext_range _).1 | exact (ext_range _).2) (by first | omega | exact (ext_range _).1 | exact (ext_range _).2) (by first | omega | exact (ext_range _).1 | exact (ext_range _).2) (by first | omega | exact (ext_range _).1 | exact (ext_range _).2) _).mono ?_; rintro e w' ⟨rfl, rfl⟩)
    | (go_at_call 44; refine (ru_any _ _ (by first | omega | exact (ext_range _).1 | exact (ext_range _).2) (by first | omega | exact (ext_range _).1 | exact (ext_range _).2) (by first | omega | exact (ext_range _).1 | exact (ext_range _).2) (by first | omega | exact (ext_range _).1 | exact (ext_range _).2) _).mono ?_; rintro e w' ⟨rfl, rfl⟩))
  go_ret
  refine ⟨ret_int ?_, rfl⟩
  simp only [whole]

set_option maxHeartbeats 400000 in
theorem whole_2 (a b : Int) (ha0 : 0 ≤ a) (ha : a < 18446744073709551616) (hb0 : 0 ≤ b) (hb : b < 18446744073709551616) (w : World) :
    Calls Tryd.prog 24 #[.int .i64 2, .int .u64 a, .int .u64 b] w fun e w' => e = .returned (.int .u64 (whole 2 a b)) ∧ w' = w := by
  go_enter Tryd.func24, Tryd.ntmps24
  go_wp2_with (first
    | (go_at_call 22; refine (extended_any _ _).mono ?_; rintro e w' ⟨rfl, rfl⟩)
    | (go_at_call 40; refine (lowest_any _ _).mono ?_; rintro e w' ⟨rfl, rfl⟩)
    | (go_at_call 45; refine (oneIf_any _ _).mono ?_; rintro e w' ⟨rfl, rfl⟩)
    | (go_at_call 46; refine (upper_int a b ha0 ha hb0 hb _).mono ?_; rintro e w' ⟨rfl, rfl⟩)
    | (go_at_call 47; refine (ifn_any _ _ _).mono ?_; rintro e w' ⟨rfl, rfl⟩)
    | (go_at_call 41; refine (qs_any _ _ (by first | omega | exact (ext_range _).1 | exact (ext_range _).2) (by first | omega | exact (ext_range _).1 | exact (ext_range _).2) (by first | omega | exact (ext_range _).1 | exact (ext_range _).2) (by first | omega | exact (ext_range _).1 | exact (ext_range _).2) _).mono ?_; rintro e w' ⟨rfl, rfl⟩)
    | (go_at_call 42; refine (qu_any _ _ (by first | omega | exact (ext_range _).1 | exact (ext_range _).2) (by first | omega | exact (ext_range _).1 | exact (ext_range _).2) (by first | omega | exact (ext_range _).1 | exact (ext_range _).2) (by first | omega | exact (ext_range _).1 | exact (ext_range _).2) _).mono ?_; rintro e w' ⟨rfl, rfl⟩)
    | (go_at_call 43; refine (rs_any _ _ (by first | omega | exact (ext_range _).1 | exact (ext_range _).2) (by first | omega | exact (ext_range _).1 | exact (ext_range _).2) (by first | omega | exact (ext_range _).1 | exact (ext_range _).2) (by first | omega | exact (ext_range _).1 | exact (ext_range _).2) _).mono ?_; rintro e w' ⟨rfl, rfl⟩)
    | (go_at_call 44; refine (ru_any _ _ (by first | omega | exact (ext_range _).1 | exact (ext_range _).2) (by first | omega | exact (ext_range _).1 | exact (ext_range _).2) (by first | omega | exact (ext_range _).1 | exact (ext_range _).2) (by first | omega | exact (ext_range _).1 | exact (ext_range _).2) _).mono ?_; rintro e w' ⟨rfl, rfl⟩))
  go_ret
  refine ⟨ret_int ?_, rfl⟩
  simp only [whole]

set_option maxHeartbeats 400000 in
theorem whole_3 (a b : Int) (ha0 : 0 ≤ a) (ha : a < 18446744073709551616) (hb0 : 0 ≤ b) (hb : b < 18446744073709551616) (w : World) :
    Calls Tryd.prog 24 #[.int .i64 3, .int .u64 a, .int .u64 b] w fun e w' => e = .returned (.int .u64 (whole 3 a b)) ∧ w' = w := by
  go_enter Tryd.func24, Tryd.ntmps24
  go_wp2_with (first
    | (go_at_call 22; refine (extended_any _ _).mono ?_; rintro e w' ⟨rfl, rfl⟩)
    | (go_at_call 40; refine (lowest_any _ _).mono ?_; rintro e w' ⟨rfl, rfl⟩)
    | (go_at_call 45; refine (oneIf_any _ _).mono ?_; rintro e w' ⟨rfl, rfl⟩)
    | (go_at_call 46; refine (upper_int a b ha0 ha hb0 hb _).mono ?_; rintro e w' ⟨rfl, rfl⟩)
    | (go_at_call 47; refine (ifn_any _ _ _).mono ?_; rintro e w' ⟨rfl, rfl⟩)
    | (go_at_call 41; refine (qs_any _ _ (by first | omega | exact (ext_range _).1 | exact (ext_range _).2) (by first | omega | exact (ext_range _).1 | exact (ext_range _).2) (by first | omega | exact (ext_range _).1 | exact (ext_range _).2) (by first | omega | exact (ext_range _).1 | exact (ext_range _).2) _).mono ?_; rintro e w' ⟨rfl, rfl⟩)
    | (go_at_call 42; refine (qu_any _ _ (by first | omega | exact (ext_range _).1 | exact (ext_range _).2) (by first | omega | exact (ext_range _).1 | exact (ext_range _).2) (by first | omega | exact (ext_range _).1 | exact (ext_range _).2) (by first | omega | exact (ext_range _).1 | exact (ext_range _).2) _).mono ?_; rintro e w' ⟨rfl, rfl⟩)
    | (go_at_call 43; refine (rs_any _ _ (by first | omega | exact (ext_range _).1 | exact (ext_range _).2) (by first | omega | exact (ext_range _).1 | exact (ext_range _).2) (by first | omega | exact (ext_range _).1 | exact (ext_range _).2) (by first | omega | exact (ext_range _).1 | exact (ext_range _).2) _).mono ?_; rintro e w' ⟨rfl, rfl⟩)
    | (go_at_call 44; refine (ru_any _ _ (by first | omega | exact (ext_range _).1 | exact (ext_range _).2) (by first | omega | exact (ext_range _).1 | exact (ext_range _).2) (by first | omega | exact (ext_range _).1 | exact (ext_range _).2) (by first | omega | exact (ext_range _).1 | exact (ext_range _).2) _).mono ?_; rintro e w' ⟨rfl, rfl⟩))
  go_ret
  refine ⟨ret_int ?_, rfl⟩
  simp only [whole]

set_option maxHeartbeats 400000 in
theorem whole_4 (a b : Int) (ha0 : 0 ≤ a) (ha : a < 18446744073709551616) (hb0 : 0 ≤ b) (hb : b < 18446744073709551616) (w : World) :
    Calls Tryd.prog 24 #[.int .i64 4, .int .u64 a, .int .u64 b] w fun e w' => e = .returned (.int .u64 (whole 4 a b)) ∧ w' = w := by
  go_enter Tryd.func24, Tryd.ntmps24
  go_wp2_with (first
    | (go_at_call 22; refine (extended_any _ _).mono ?_; rintro e w' ⟨rfl, rfl⟩)
    | (go_at_call 40; refine (lowest_any _ _).mono ?_; rintro e w' ⟨rfl, rfl⟩)
    | (go_at_call 45; refine (oneIf_any _ _).mono ?_; rintro e w' ⟨rfl, rfl⟩)
    | (go_at_call 46; refine (upper_int a b ha0 ha hb0 hb _).mono ?_; rintro e w' ⟨rfl, rfl⟩)
    | (go_at_call 47; refine (ifn_any _ _ _).mono ?_; rintro e w' ⟨rfl, rfl⟩)
    | (go_at_call 41; refine (qs_any _ _ (by first | omega | exact (ext_range _).1 | exact (ext_range _).2) (by first | omega | exact (ext_range _).1 | exact (ext_range _).2) (by first | omega | exact (ext_range _).1 | exact (ext_range _).2) (by first | omega | exact (ext_range _).1 | exact (ext_range _).2) _).mono ?_; rintro e w' ⟨rfl, rfl⟩)
    | (go_at_call 42; refine (qu_any _ _ (by first | omega | exact (ext_range _).1 | exact (ext_range _).2) (by first | omega | exact (ext_range _).1 | exact (ext_range _).2) (by first | omega | exact (ext_range _).1 | exact (ext_range _).2) (by first | omega | exact (ext_range _).1 | exact (ext_range _).2) _).mono ?_; rintro e w' ⟨rfl, rfl⟩)
    | (go_at_call 43; refine (rs_any _ _ (by first | omega | exact (ext_range _).1 | exact (ext_range _).2) (by first | omega | exact (ext_range _).1 | exact (ext_range _).2) (by first | omega | exact (ext_range _).1 | exact (ext_range _).2) (by first | omega | exact (ext_range _).1 | exact (ext_range _).2) _).mono ?_; rintro e w' ⟨rfl, rfl⟩)
    | (go_at_call 44; refine (ru_any _ _ (by first | omega | exact (ext_range _).1 | exact (ext_range _).2) (by first | omega | exact (ext_range _).1 | exact (ext_range _).2) (by first | omega | exact (ext_range _).1 | exact (ext_range _).2) (by first | omega | exact (ext_range _).1 | exact (ext_range _).2) _).mono ?_; rintro e w' ⟨rfl, rfl⟩))
  go_ret
  refine ⟨ret_int ?_, rfl⟩
  simp only [whole]

set_option maxHeartbeats 400000 in
theorem whole_5 (a b : Int) (ha0 : 0 ≤ a) (ha : a < 18446744073709551616) (hb0 : 0 ≤ b) (hb : b < 18446744073709551616) (w : World) :
    Calls Tryd.prog 24 #[.int .i64 5, .int .u64 a, .int .u64 b] w fun e w' => e = .returned (.int .u64 (whole 5 a b)) ∧ w' = w := by
  go_enter Tryd.func24, Tryd.ntmps24
  go_wp2_with (first
    | (go_at_call 22; refine (extended_any _ _).mono ?_; rintro e w' ⟨rfl, rfl⟩)
    | (go_at_call 40; refine (lowest_any _ _).mono ?_; rintro e w' ⟨rfl, rfl⟩)
    | (go_at_call 45; refine (oneIf_any _ _).mono ?_; rintro e w' ⟨rfl, rfl⟩)
    | (go_at_call 46; refine (upper_int a b ha0 ha hb0 hb _).mono ?_; rintro e w' ⟨rfl, rfl⟩)
    | (go_at_call 47; refine (ifn_any _ _ _).mono ?_; rintro e w' ⟨rfl, rfl⟩)
    | (go_at_call 41; refine (qs_any _ _ (by first | omega | exact (ext_range _).1 | exact (ext_range _).2) (by first | omega | exact (ext_range _).1 | exact (ext_range _).2) (by first | omega | exact (ext_range _).1 | exact (ext_range _).2) (by first | omega | exact (ext_range _).1 | exact (ext_range _).2) _).mono ?_; rintro e w' ⟨rfl, rfl⟩)
    | (go_at_call 42; refine (qu_any _ _ (by first | omega | exact (ext_range _).1 | exact (ext_range _).2) (by first | omega | exact (ext_range _).1 | exact (ext_range _).2) (by first | omega | exact (ext_range _).1 | exact (ext_range _).2) (by first | omega | exact (ext_range _).1 | exact (ext_range _).2) _).mono ?_; rintro e w' ⟨rfl, rfl⟩)
    | (go_at_call 43; refine (rs_any _ _ (by first | omega | exact (ext_range _).1 | exact (ext_range _).2) (by first | omega | exact (ext_range _).1 | exact (ext_range _).2) (by first | omega | exact (ext_range _).1 | exact (ext_range _).2) (by first | omega | exact (ext_range _).1 | exact (ext_range _).2) _).mono ?_; rintro e w' ⟨rfl, rfl⟩)
    | (go_at_call 44; refine (ru_any _ _ (by first | omega | exact (ext_range _).1 | exact (ext_range _).2) (by first | omega | exact (ext_range _).1 | exact (ext_range _).2) (by first | omega | exact (ext_range _).1 | exact (ext_range _).2) (by first | omega | exact (ext_range _).1 | exact (ext_range _).2) _).mono ?_; rintro e w' ⟨rfl, rfl⟩))
  go_ret
  refine ⟨ret_int ?_, rfl⟩
  simp only [whole]

set_option maxHeartbeats 400000 in
theorem whole_6 (a b : Int) (ha0 : 0 ≤ a) (ha : a < 18446744073709551616) (hb0 : 0 ≤ b) (hb : b < 18446744073709551616) (w : World) :
    Calls Tryd.prog 24 #[.int .i64 6, .int .u64 a, .int .u64 b] w fun e w' => e = .returned (.int .u64 (whole 6 a b)) ∧ w' = w := by
  go_enter Tryd.func24, Tryd.ntmps24
  go_wp2_with (first
    | (go_at_call 22; refine (extended_any _ _).mono ?_; rintro e w' ⟨rfl, rfl⟩)
    | (go_at_call 40; refine (lowest_any _ _).mono ?_; rintro e w' ⟨rfl, rfl⟩)
    | (go_at_call 45; refine (oneIf_any _ _).mono ?_; rintro e w' ⟨rfl, rfl⟩)
    | (go_at_call 46; refine (upper_int a b ha0 ha hb0 hb _).mono ?_; rintro e w' ⟨rfl, rfl⟩)
    | (go_at_call 47; refine (ifn_any _ _ _).mono ?_; rintro e w' ⟨rfl, rfl⟩)
    | (go_at_call 41; refine (qs_any _ _ (by first | omega | exact (ext_range _).1 | exact (ext_range _).2) (by first | omega | exact (ext_range _).1 | exact (ext_range _).2) (by first | omega | exact (ext_range _).1 | exact (ext_range _).2) (by first | omega | exact (ext_range _).1 | exact (ext_range _).2) _).mono ?_; rintro e w' ⟨rfl, rfl⟩)
    | (go_at_call 42; refine (qu_any _ _ (by first | omega | exact (ext_range _).1 | exact (ext_range _).2) (by first | omega | exact (ext_range _).1 | exact (ext_range _).2) (by first | omega | exact (ext_range _).1 | exact (ext_range _).2) (by first | omega | exact (ext_range _).1 | exact (ext_range _).2) _).mono ?_; rintro e w' ⟨rfl, rfl⟩)
    | (go_at_call 43; refine (rs_any _ _ (by first | omega | exact (ext_range _).1 | exact (ext_range _).2) (by first | omega | exact (ext_range _).1 | exact (ext_range _).2) (by first | omega | exact (ext_range _).1 | exact (ext_range _).2) (by first | omega | exact (ext_range _).1 | exact (ext_range _).2) _).mono ?_; rintro e w' ⟨rfl, rfl⟩)
    | (go_at_call 44; refine (ru_any _ _ (by first | omega | exact (ext_range _).1 | exact (ext_range _).2) (by first | omega | exact (ext_range _).1 | exact (ext_range _).2) (by first | omega | exact (ext_range _).1 | exact (ext_range _).2) (by first | omega | exact (ext_range _).1 | exact (ext_range _).2) _).mono ?_; rintro e w' ⟨rfl, rfl⟩))
  go_ret
  refine ⟨ret_int ?_, rfl⟩
  simp only [whole]

set_option maxHeartbeats 400000 in
theorem whole_7 (a b : Int) (ha0 : 0 ≤ a) (ha : a < 18446744073709551616) (hb0 : 0 ≤ b) (hb : b < 18446744073709551616) (w : World) :
    Calls Tryd.prog 24 #[.int .i64 7, .int .u64 a, .int .u64 b] w fun e w' => e = .returned (.int .u64 (whole 7 a b)) ∧ w' = w := by
  go_enter Tryd.func24, Tryd.ntmps24
  go_wp2_with (first
    | (go_at_call 22; refine (extended_any _ _).mono ?_; rintro e w' ⟨rfl, rfl⟩)
    | (go_at_call 40; refine (lowest_any _ _).mono ?_; rintro e w' ⟨rfl, rfl⟩)
    | (go_at_call 45; refine (oneIf_any _ _).mono ?_; rintro e w' ⟨rfl, rfl⟩)
    | (go_at_call 46; refine (upper_int a b ha0 ha hb0 hb _).mono ?_; rintro e w' ⟨rfl, rfl⟩)
    | (go_at_call 47; refine (ifn_any _ _ _).mono ?_; rintro e w' ⟨rfl, rfl⟩)
    | (go_at_call 41; refine (qs_any _ _ (by first | omega | exact (ext_range _).1 | exact (ext_range _).2) (by first | omega | exact (ext_range _).1 | exact (ext_range _).2) (by first | omega | exact (ext_range _).1 | exact (ext_range _).2) (by first | omega | exact (ext_range _).1 | exact (ext_range _).2) _).mono ?_; rintro e w' ⟨rfl, rfl⟩)
    | (go_at_call 42; refine (qu_any _ _ (by first | omega | exact (ext_range _).1 | exact (ext_range _).2) (by first | omega | exact (ext_range _).1 | exact (ext_range _).2) (by first | omega | exact (ext_range _).1 | exact (ext_range _).2) (by first | omega | exact (ext_range _).1 | exact (ext_range _).2) _).mono ?_; rintro e w' ⟨rfl, rfl⟩)
    | (go_at_call 43; refine (rs_any _ _ (by first | omega | exact (ext_range _).1 | exact (ext_range _).2) (by first | omega | exact (ext_range _).1 | exact (ext_range _).2) (by first | omega | exact (ext_range _).1 | exact (ext_range _).2) (by first | omega | exact (ext_range _).1 | exact (ext_range _).2) _).mono ?_; rintro e w' ⟨rfl, rfl⟩)
    | (go_at_call 44; refine (ru_any _ _ (by first | omega | exact (ext_range _).1 | exact (ext_range _).2) (by first | omega | exact (ext_range _).1 | exact (ext_range _).2) (by first | omega | exact (ext_range _).1 | exact (ext_range _).2) (by first | omega | exact (ext_range _).1 | exact (ext_range _).2) _).mono ?_; rintro e w' ⟨rfl, rfl⟩))
  go_ret
  refine ⟨ret_int ?_, rfl⟩
  simp only [whole]

set_option maxHeartbeats 400000 in
theorem whole_8 (a b : Int) (ha0 : 0 ≤ a) (ha : a < 18446744073709551616) (hb0 : 0 ≤ b) (hb : b < 18446744073709551616) (w : World) :
    Calls Tryd.prog 24 #[.int .i64 8, .int .u64 a, .int .u64 b] w fun e w' => e = .returned (.int .u64 (whole 8 a b)) ∧ w' = w := by
  go_enter Tryd.func24, Tryd.ntmps24
  go_wp2_with (first
    | (go_at_call 22; refine (extended_any _ _).mono ?_; rintro e w' ⟨rfl, rfl⟩)
    | (go_at_call 40; refine (lowest_any _ _).mono ?_; rintro e w' ⟨rfl, rfl⟩)
    | (go_at_call 45; refine (oneIf_any _ _).mono ?_; rintro e w' ⟨rfl, rfl⟩)
    | (go_at_call 46; refine (upper_int a b ha0 ha hb0 hb _).mono ?_; rintro e w' ⟨rfl, rfl⟩)
    | (go_at_call 47; refine (ifn_any _ _ _).mono ?_; rintro e w' ⟨rfl, rfl⟩)
    | (go_at_call 41; refine (qs_any _ _ (by first | omega | exact (ext_range _).1 | exact (ext_range _).2) (by first | omega | exact (ext_range _).1 | exact (ext_range _).2) (by first | omega | exact (ext_range _).1 | exact (ext_range _).2) (by first | omega | exact (ext_range _).1 | exact (ext_range _).2) _).mono ?_; rintro e w' ⟨rfl, rfl⟩)
    | (go_at_call 42; refine (qu_any _ _ (by first | omega | exact (ext_range _).1 | exact (ext_range _).2) (by first | omega | exact (ext_range _).1 | exact (ext_range _).2) (by first | omega | exact (ext_range _).1 | exact (ext_range _).2) (by first | omega | exact (ext_range _).1 | exact (ext_range _).2) _).mono ?_; rintro e w' ⟨rfl, rfl⟩)
    | (go_at_call 43; refine (rs_any _ _ (by first | omega | exact (ext_range _).1 | exact (ext_range _).2) (by first | omega | exact (ext_range _).1 | exact (ext_range _).2) (by first | omega | exact (ext_range _).1 | exact (ext_range _).2) (by first | omega | exact (ext_range _).1 | exact (ext_range _).2) _).mono ?_; rintro e w' ⟨rfl, rfl⟩)
    | (go_at_call 44; refine (ru_any _ _ (by first | omega | exact (ext_range _).1 | exact (ext_range _).2) (by first | omega | exact (ext_range _).1 | exact (ext_range _).2) (by first | omega | exact (ext_range _).1 | exact (ext_range _).2) (by first | omega | exact (ext_range _).1 | exact (ext_range _).2) _).mono ?_; rintro e w' ⟨rfl, rfl⟩))
  go_ret
  refine ⟨ret_int ?_, rfl⟩
  simp only [whole]

set_option maxHeartbeats 400000 in
theorem whole_9 (a b : Int) (ha0 : 0 ≤ a) (ha : a < 18446744073709551616) (hb0 : 0 ≤ b) (hb : b < 18446744073709551616) (w : World) :
    Calls Tryd.prog 24 #[.int .i64 9, .int .u64 a, .int .u64 b] w fun e w' => e = .returned (.int .u64 (whole 9 a b)) ∧ w' = w := by
  go_enter Tryd.func24, Tryd.ntmps24
  go_wp2_with (first
    | (go_at_call 22; refine (extended_any _ _).mono ?_; rintro e w' ⟨rfl, rfl⟩)
    | (go_at_call 40; refine (lowest_any _ _).mono ?_; rintro e w' ⟨rfl, rfl⟩)
    | (go_at_call 45; refine (oneIf_any _ _).mono ?_; rintro e w' ⟨rfl, rfl⟩)
    | (go_at_call 46; refine (upper_int a b ha0 ha hb0 hb _).mono ?_; rintro e w' ⟨rfl, rfl⟩)
    | (go_at_call 47; refine (ifn_any _ _ _).mono ?_; rintro e w' ⟨rfl, rfl⟩)
    | (go_at_call 41; refine (qs_any _ _ (by first | omega | exact (ext_range _).1 | exact (ext_range _).2) (by first | omega | exact (ext_range _).1 | exact (ext_range _).2) (by first | omega | exact (ext_range _).1 | exact (ext_range _).2) (by first | omega | exact (ext_range _).1 | exact (ext_range _).2) _).mono ?_; rintro e w' ⟨rfl, rfl⟩)
    | (go_at_call 42; refine (qu_any _ _ (by first | omega | exact (ext_range _).1 | exact (ext_range _).2) (by first | omega | exact (ext_range _).1 | exact (ext_range _).2) (by first | omega | exact (ext_range _).1 | exact (ext_range _).2) (by first | omega | exact (ext_range _).1 | exact (ext_range _).2) _).mono ?_; rintro e w' ⟨rfl, rfl⟩)
    | (go_at_call 43; refine (rs_any _ _ (by first | omega | exact (ext_range _).1 | exact (ext_range _).2) (by first | omega | exact (ext_range _).1 | exact (ext_range _).2) (by first | omega | exact (ext_range _).1 | exact (ext_range _).2) (by first | omega | exact (ext_range _).1 | exact (ext_range _).2) _).mono ?_; rintro e w' ⟨rfl, rfl⟩)
    | (go_at_call 44; refine (ru_any _ _ (by first | omega | exact (ext_range _).1 | exact (ext_range _).2) (by first | omega | exact (ext_range _).1 | exact (ext_range _).2) (by first | omega | exact (ext_range _).1 | exact (ext_range _).2) (by first | omega | exact (ext_range _).1 | exact (ext_range _).2) _).mono ?_; rintro e w' ⟨rfl, rfl⟩))
  go_ret
  refine ⟨ret_int ?_, rfl⟩
  simp only [whole]

set_option maxHeartbeats 400000 in
theorem whole_10 (a b : Int) (ha0 : 0 ≤ a) (ha : a < 18446744073709551616) (hb0 : 0 ≤ b) (hb : b < 18446744073709551616) (w : World) :
    Calls Tryd.prog 24 #[.int .i64 10, .int .u64 a, .int .u64 b] w fun e w' => e = .returned (.int .u64 (whole 10 a b)) ∧ w' = w := by
  go_enter Tryd.func24, Tryd.ntmps24
  go_wp2_with (first
    | (go_at_call 22; refine (extended_any _ _).mono ?_; rintro e w' ⟨rfl, rfl⟩)
    | (go_at_call 40; refine (lowest_any _ _).mono ?_; rintro e w' ⟨rfl, rfl⟩)
    | (go_at_call 45; refine (oneIf_any _ _).mono ?_; rintro e w' ⟨rfl, rfl⟩)
    | (go_at_call 46; refine (upper_int a b ha0 ha hb0 hb _).mono ?_; rintro e w' ⟨rfl, rfl⟩)
    | (go_at_call 47; refine (ifn_any _ _ _).mono ?_; rintro e w' ⟨rfl, rfl⟩)
    | (go_at_call 41; refine (qs_any _ _ (by first | omega | exact (ext_range _).1 | exact (ext_range _).2) (by first | omega | exact (ext_range _).1 | exact (ext_range _).2) (by first | omega | exact (ext_range _).1 | exact (ext_range _).2) (by first | omega | exact (ext_range _).1 | exact (ext_range _).2) _).mono ?_; rintro e w' ⟨rfl, rfl⟩)
    | (go_at_call 42; refine (qu_any _ _ (by first | omega | exact (ext_range _).1 | exact (ext_range _).2) (by first | omega | exact (ext_range _).1 | exact (ext_range _).2) (by first | omega | exact (ext_range _).1 | exact (ext_range _).2) (by first | omega | exact (ext_range _).1 | exact (ext_range _).2) _).mono ?_; rintro e w' ⟨rfl, rfl⟩)
    | (go_at_call 43; refine (rs_any _ _ (by first | omega | exact (ext_range _).1 | exact (ext_range _).2) (by first | omega | exact (ext_range _).1 | exact (ext_range _).2) (by first | omega | exact (ext_range _).1 | exact (ext_range _).2) (by first | omega | exact (ext_range _).1 | exact (ext_range _).2) _).mono ?_; rintro e w' ⟨rfl, rfl⟩)
    | (go_at_call 44; refine (ru_any _ _ (by first | omega | exact (ext_range _).1 | exact (ext_range _).2) (by first | omega | exact (ext_range _).1 | exact (ext_range _).2) (by first | omega | exact (ext_range _).1 | exact (ext_range _).2) (by first | omega | exact (ext_range _).1 | exact (ext_range _).2) _).mono ?_; rintro e w' ⟨rfl, rfl⟩))
  go_ret
  refine ⟨ret_int ?_, rfl⟩
  simp only [whole]

set_option maxHeartbeats 400000 in
theorem whole_11 (a b : Int) (ha0 : 0 ≤ a) (ha : a < 18446744073709551616) (hb0 : 0 ≤ b) (hb : b < 18446744073709551616) (w : World) :
    Calls Tryd.prog 24 #[.int .i64 11, .int .u64 a, .int .u64 b] w fun e w' => e = .returned (.int .u64 (whole 11 a b)) ∧ w' = w := by
  go_enter Tryd.func24, Tryd.ntmps24
  go_wp2_with (first
    | (go_at_call 22; refine (extended_any _ _).mono ?_; rintro e w' ⟨rfl, rfl⟩)
    | (go_at_call 40; refine (lowest_any _ _).mono ?_; rintro e w' ⟨rfl, rfl⟩)
    | (go_at_call 45; refine (oneIf_any _ _).mono ?_; rintro e w' ⟨rfl, rfl⟩)
    | (go_at_call 46; refine (upper_int a b ha0 ha hb0 hb _).mono ?_; rintro e w' ⟨rfl, rfl⟩)
    | (go_at_call 47; refine (ifn_any _ _ _).mono ?_; rintro e w' ⟨rfl, rfl⟩)
    | (go_at_call 41; refine (qs_any _ _ (by first | omega | exact (ext_range _).1 | exact (ext_range _).2) (by first | omega | exact (ext_range _).1 | exact (ext_range _).2) (by first | omega | exact (ext_range _).1 | exact (ext_range _).2) (by first | omega | exact (ext_range _).1 | exact (ext_range _).2) _).mono ?_; rintro e w' ⟨rfl, rfl⟩)
    | (go_at_call 42; refine (qu_any _ _ (by first | omega | exact (ext_range _).1 | exact (ext_range _).2) (by first | omega | exact (ext_range _).1 | exact (ext_range _).2) (by first | omega | exact (ext_range _).1 | exact (ext_range _).2) (by first | omega | exact (ext_range _).1 | exact (ext_range _).2) _).mono ?_; rintro e w' ⟨rfl, rfl⟩)
    | (go_at_call 43; refine (rs_any _ _ (by first | omega | exact (ext_range _).1 | exact (ext_range _).2) (by first | omega | exact (ext_range _).1 | exact (ext_range _).2) (by first | omega | exact (ext_range _).1 | exact (ext_range _).2) (by first | omega | exact (ext_range _).1 | exact (ext_range _).2) _).mono ?_; rintro e w' ⟨rfl, rfl⟩)
    | (go_at_call 44; refine (ru_any _ _ (by first | omega | exact (ext_range _).1 | exact (ext_range _).2) (by first | omega | exact (ext_range _).1 | exact (ext_range _).2) (by first | omega | exact (ext_range _).1 | exact (ext_range _).2) (by first | omega | exact (ext_range _).1 | exact (ext_range _).2) _).mono ?_; rintro e w' ⟨rfl, rfl⟩))
  go_ret
  refine ⟨ret_int ?_, rfl⟩
  simp only [whole]

set_option maxHeartbeats 400000 in
theorem whole_12 (a b : Int) (ha0 : 0 ≤ a) (ha : a < 18446744073709551616) (hb0 : 0 ≤ b) (hb : b < 18446744073709551616) (w : World) :
    Calls Tryd.prog 24 #[.int .i64 12, .int .u64 a, .int .u64 b] w fun e w' => e = .returned (.int .u64 (whole 12 a b)) ∧ w' = w := by
  go_enter Tryd.func24, Tryd.ntmps24
  go_wp2_with (first
    | (go_at_call 22; refine (extended_any _ _).mono ?_; rintro e w' ⟨rfl, rfl⟩)
    | (go_at_call 40; refine (lowest_any _ _).mono ?_; rintro e w' ⟨rfl, rfl⟩)
    | (go_at_call 45; refine (oneIf_any _ _).mono ?_; rintro e w' ⟨rfl, rfl⟩)
    | (go_at_call 46; refine (upper_int a b ha0 ha hb0 hb _).mono ?_; rintro e w' ⟨rfl, rfl⟩)
    | (go_at_call 47; refine (ifn_any _ _ _).mono ?_; rintro e w' ⟨rfl, rfl⟩)
    | (go_at_call 41; refine (qs_any _ _ (by first | omega | exact (ext_range _).1 | exact (ext_range _).2) (by first | omega | exact (ext_range _).1 | exact (ext_range _).2) (by first | omega | exact (ext_range _).1 | exact (ext_range _).2) (by first | omega | exact (ext_range _).1 | exact (ext_range _).2) _).mono ?_; rintro e w' ⟨rfl, rfl⟩)
    | (go_at_call 42; refine (qu_any _ _ (by first | omega | exact (ext_range _).1 | exact (ext_range _).2) (by first | omega | exact (ext_range _).1 | exact (ext_range _).2) (by first | omega | exact (ext_range _).1 | exact (ext_range _).2) (by first | omega | exact (ext_range _).1 | exact (ext_range _).2) _).mono ?_; rintro e w' ⟨rfl, rfl⟩)
    | (go_at_call 43; refine (rs_any _ _ (by first | omega | exact (ext_range _).1 | exact (ext_range _).2) (by first | omega | exact (ext_range _).1 | exact (ext_range _).2) (by first | omega | exact (ext_range _).1 | exact (ext_range _).2) (by first | omega | exact (ext_range _).1 | exact (ext_range _).2) _).mono ?_; rintro e w' ⟨rfl, rfl⟩)
    | (go_at_call 44; refine (ru_any _ _ (by first | omega | exact (ext_range _).1 | exact (ext_range _).2) (by first | omega | exact (ext_range _).1 | exact (ext_range _).2) (by first | omega | exact (ext_range _).1 | exact (ext_range _).2) (by first | omega | exact (ext_range _).1 | exact (ext_range _).2) _).mono ?_; rintro e w' ⟨rfl, rfl⟩))
  go_ret
  refine ⟨ret_int ?_, rfl⟩
  simp only [whole]

set_option maxHeartbeats 400000 in
theorem whole_13 (a b : Int) (ha0 : 0 ≤ a) (ha : a < 18446744073709551616) (hb0 : 0 ≤ b) (hb : b < 18446744073709551616) (w : World) :
    Calls Tryd.prog 24 #[.int .i64 13, .int .u64 a, .int .u64 b] w fun e w' => e = .returned (.int .u64 (whole 13 a b)) ∧ w' = w := by
  go_enter Tryd.func24, Tryd.ntmps24
  go_wp2_with (first
    | (go_at_call 22; refine (extended_any _ _).mono ?_; rintro e w' ⟨rfl, rfl⟩)
    | (go_at_call 40; refine (lowest_any _ _).mono ?_; rintro e w' ⟨rfl, rfl⟩)
    | (go_at_call 45; refine (oneIf_any _ _).mono ?_; rintro e w' ⟨rfl, rfl⟩)
    | (go_at_call 46; refine (upper_int a b ha0 ha hb0 hb _).mono ?_; rintro e w' ⟨rfl, rfl⟩)
    | (go_at_call 47; refine (ifn_any _ _ _).mono ?_; rintro e w' ⟨rfl, rfl⟩)
    | (go_at_call 41; refine (qs_any _ _ (by first | omega | exact (ext_range _).1 | exact (ext_range _).2) (by first | omega | exact (ext_range _).1 | exact (ext_range _).2) (by first | omega | exact (ext_range _).1 | exact (ext_range _).2) (by first | omega | exact (ext_range _).1 | exact (ext_range _).2) _).mono ?_; rintro e w' ⟨rfl, rfl⟩)
    | (go_at_call 42; refine (qu_any _ _ (by first | omega | exact (ext_range _).1 | exact (ext_range _).2) (by first | omega | exact (ext_range _).1 | exact (ext_range _).2) (by first | omega | exact (ext_range _).1 | exact (ext_range _).2) (by first | omega | exact (ext_range _).1 | exact (ext_range _).2) _).mono ?_; rintro e w' ⟨rfl, rfl⟩)
    | (go_at_call 43; refine (rs_any _ _ (by first | omega | exact (ext_range _).1 | exact (ext_range _).2) (by first | omega | exact (ext_range _).1 | exact (ext_range _).2) (by first | omega | exact (ext_range _).1 | exact (ext_range _).2) (by first | omega | exact (ext_range _).1 | exact (ext_range _).2) _).mono ?_; rintro e w' ⟨rfl, rfl⟩)
    | (go_at_call 44; refine (ru_any _ _ (by first | omega | exact (ext_range _).1 | exact (ext_range _).2) (by first | omega | exact (ext_range _).1 | exact (ext_range _).2) (by first | omega | exact (ext_range _).1 | exact (ext_range _).2) (by first | omega | exact (ext_range _).1 | exact (ext_range _).2) _).mono ?_; rintro e w' ⟨rfl, rfl⟩))
  go_ret
  refine ⟨ret_int ?_, rfl⟩
  simp only [whole]

set_option maxHeartbeats 400000 in
theorem whole_14 (a b : Int) (ha0 : 0 ≤ a) (ha : a < 18446744073709551616) (hb0 : 0 ≤ b) (hb : b < 18446744073709551616) (w : World) :
    Calls Tryd.prog 24 #[.int .i64 14, .int .u64 a, .int .u64 b] w fun e w' => e = .returned (.int .u64 (whole 14 a b)) ∧ w' = w := by
  go_enter Tryd.func24, Tryd.ntmps24
  go_wp2_with (first
    | (go_at_call 22; refine (extended_any _ _).mono ?_; rintro e w' ⟨rfl, rfl⟩)
    | (go_at_call 40; refine (lowest_any _ _).mono ?_; rintro e w' ⟨rfl, rfl⟩)
    | (go_at_call 45; refine (oneIf_any _ _).mono ?_; rintro e w' ⟨rfl, rfl⟩)
    | (go_at_call 46; refine (upper_int a b ha0 ha hb0 hb _).mono ?_; rintro e w' ⟨rfl, rfl⟩)
    | (go_at_call 47; refine (ifn_any _ _ _).mono ?_; rintro e w' ⟨rfl, rfl⟩)
    | (go_at_call 41; refine (qs_any _ _ (by first | omega | exact (ext_range _).1 | exact (ext_range _).2) (by first | omega | exact (ext_range _).1 | exact (ext_range _).2) (by first | omega | exact (ext_range _).1 | exact (ext_range _).2) (by first | omega | exact (ext_range _).1 | exact (ext_range _).2) _).mono ?_; rintro e w' ⟨rfl, rfl⟩)
    | (go_at_call 42; refine (qu_any _ _ (by first | omega | exact (ext_range _).1 | exact (ext_range _).2) (by first | omega | exact (ext_range _).1 | exact (ext_range _).2) (by first | omega | exact (ext_range _).1 | exact (ext_range _).2) (by first | omega | exact (ext_range _).1 | exact (ext_range _).2) _).mono ?_; rintro e w' ⟨rfl, rfl⟩)
    | (go_at_call 43; refine (rs_any _ _ (by first | omega | exact (ext_range _).1 | exact (ext_range _).2) (by first | omega | exact (ext_range _).1 | exact (ext_range _).2) (by first | omega | exact (ext_range _).1 | exact (ext_range _).2) (by first | omega | exact (ext_range _).1 | exact (ext_range _).2) _).mono ?_; rintro e w' ⟨rfl, rfl⟩)
    | (go_at_call 44; refine (ru_any _ _ (by first | omega | exact (ext_range _).1 | exact (ext_range _).2) (by first | omega | exact (ext_range _).1 | exact (ext_range _).2) (by first | omega | exact (ext_range _).1 | exact (ext_range _).2) (by first | omega | exact (ext_range _).1 | exact (ext_range _).2) _).mono ?_; rintro e w' ⟨rfl, rfl⟩))
  go_ret
  refine ⟨ret_int ?_, rfl⟩
  simp only [whole]

set_option maxHeartbeats 400000 in
theorem whole_15 (a b : Int) (ha0 : 0 ≤ a) (ha : a < 18446744073709551616) (hb0 : 0 ≤ b) (hb : b < 18446744073709551616) (w : World) :
    Calls Tryd.prog 24 #[.int .i64 15, .int .u64 a, .int .u64 b] w fun e w' => e = .returned (.int .u64 (whole 15 a b)) ∧ w' = w := by
  go_enter Tryd.func24, Tryd.ntmps24
  go_wp2_with (first
    | (go_at_call 22; refine (extended_any _ _).mono ?_; rintro e w' ⟨rfl, rfl⟩)
    | (go_at_call 40; refine (lowest_any _ _).mono ?_; rintro e w' ⟨rfl, rfl⟩)
    | (go_at_call 45; refine (oneIf_any _ _).mono ?_; rintro e w' ⟨rfl, rfl⟩)
    | (go_at_call 46; refine (upper_int a b ha0 ha hb0 hb _).mono ?_; rintro e w' ⟨rfl, rfl⟩)
    | (go_at_call 47; refine (ifn_any _ _ _).mono ?_; rintro e w' ⟨rfl, rfl⟩)
    | (go_at_call 41; refine (qs_any _ _ (by first | omega | exact (ext_range _).1 | exact (ext_range _).2) (by first | omega | exact (ext_range _).1 | exact (ext_range _).2) (by first | omega | exact (ext_range _).1 | exact (ext_range _).2) (by first | omega | exact (ext_range _).1 | exact (ext_range _).2) _).mono ?_; rintro e w' ⟨rfl, rfl⟩)
    | (go_at_call 42; refine (qu_any _ _ (by first | omega | exact (ext_range _).1 | exact (ext_range _).2) (by first | omega | exact (ext_range _).1 | exact (ext_range _).2) (by first | omega | exact (ext_range _).1 | exact (ext_range _).2) (by first | omega | exact (ext_range _).1 | exact (ext_range _).2) _).mono ?_; rintro e w' ⟨rfl, rfl⟩)
    | (go_at_call 43; refine (rs_any _ _ (by first | omega | exact (ext_range _).1 | exact (ext_range _).2) (by first | omega | exact (ext_range _).1 | exact (ext_range _).2) (by first | omega | exact (ext_range _).1 | exact (ext_range _).2) (by first | omega | exact (ext_range _).1 | exact (ext_range _).2) _).mono ?_; rintro e w' ⟨rfl, rfl⟩)
    | (go_at_call 44; refine (ru_any _ _ (by first | omega | exact (ext_range _).1 | exact (ext_range _).2) (by first | omega | exact (ext_range _).1 | exact (ext_range _).2) (by first | omega | exact (ext_range _).1 | exact (ext_range _).2) (by first | omega | exact (ext_range _).1 | exact (ext_range _).2) _).mono ?_; rintro e w' ⟨rfl, rfl⟩))
  go_ret
  refine ⟨ret_int ?_, rfl⟩
  simp only [whole]

set_option maxHeartbeats 400000 in
theorem whole_16 (a b : Int) (ha0 : 0 ≤ a) (ha : a < 18446744073709551616) (hb0 : 0 ≤ b) (hb : b < 18446744073709551616) (w : World) :
    Calls Tryd.prog 24 #[.int .i64 16, .int .u64 a, .int .u64 b] w fun e w' => e = .returned (.int .u64 (whole 16 a b)) ∧ w' = w := by
  go_enter Tryd.func24, Tryd.ntmps24
  go_wp2_with (first
    | (go_at_call 22; refine (extended_any _ _).mono ?_; rintro e w' ⟨rfl, rfl⟩)
    | (go_at_call 40; refine (lowest_any _ _).mono ?_; rintro e w' ⟨rfl, rfl⟩)
    | (go_at_call 45; refine (oneIf_any _ _).mono ?_; rintro e w' ⟨rfl, rfl⟩)
    | (go_at_call 46; refine (upper_int a b ha0 ha hb0 hb _).mono ?_; rintro e w' ⟨rfl, rfl⟩)
    | (go_at_call 47; refine (ifn_any _ _ _).mono ?_; rintro e w' ⟨rfl, rfl⟩)
    | (go_at_call 41; refine (qs_any _ _ (by first | omega | exact (ext_range _).1 | exact (ext_range _).2) (by first | omega | exact (ext_range _).1 | exact (ext_range _).2) (by first | omega | exact (ext_range _).1 | exact (ext_range _).2) (by first | omega | exact (ext_range _).1 | exact (ext_range _).2) _).mono ?_; rintro e w' ⟨rfl, rfl⟩)
    | (go_at_call 42; refine (qu_any _ _ (by first | omega | exact (ext_range _).1 | exact (ext_range _).2) (by first | omega | exact (ext_range _).1 | exact (ext_range _).2) (by first | omega | exact (ext_range _).1 | exact (ext_range _).2) (by first | omega | exact (ext_range _).1 | exact (ext_range _).2) _).mono ?_; rintro e w' ⟨rfl, rfl⟩)
    | (go_at_call 43; refine (rs_any _ _ (by first | omega | exact (ext_range _).1 | exact (ext_range _).2) (by first | omega | exact (ext_range _).1 | exact (ext_range _).2) (by first | omega | exact (ext_range _).1 | exact (ext_range _).2) (by first | omega | exact (ext_range _).1 | exact (ext_range _).2) _).mono ?_; rintro e w' ⟨rfl, rfl⟩)
    | (go_at_call 44; refine (ru_any _ _ (by first | omega | exact (ext_range _).1 | exact (ext_range _).2) (by first | omega | exact (ext_range _).1 | exact (ext_range _).2) (by first | omega | exact (ext_range _).1 | exact (ext_range _).2) (by first | omega | exact (ext_range _).1 | exact (ext_range _).2) _).mono ?_; rintro e w' ⟨rfl, rfl⟩))
  go_ret
  refine ⟨ret_int ?_, rfl⟩
  simp only [whole]

set_option maxHeartbeats 400000 in
theorem whole_17 (a b : Int) (ha0 : 0 ≤ a) (ha : a < 18446744073709551616) (hb0 : 0 ≤ b) (hb : b < 18446744073709551616) (w : World) :
    Calls Tryd.prog 24 #[.int .i64 17, .int .u64 a, .int .u64 b] w fun e w' => e = .returned (.int .u64 (whole 17 a b)) ∧ w' = w := by
  go_enter Tryd.func24, Tryd.ntmps24
  go_wp2_with (first
    | (go_at_call 22; refine (extended_any _ _).mono ?_; rintro e w' ⟨rfl, rfl⟩)
    | (go_at_call 40; refine (lowest_any _ _).mono ?_; rintro e w' ⟨rfl, rfl⟩)
    | (go_at_call 45; refine (oneIf_any _ _).mono ?_; rintro e w' ⟨rfl, rfl⟩)
    | (go_at_call 46; refine (upper_int a b ha0 ha hb0 hb _).mono ?_; rintro e w' ⟨rfl, rfl⟩)
    | (go_at_call 47; refine (ifn_any _ _ _).mono ?_; rintro e w' ⟨rfl, rfl⟩)
    | (go_at_call 41; refine (qs_any _ _ (by first | omega | exact (ext_range _).1 | exact (ext_range _).2) (by first | omega | exact (ext_range _).1 | exact (ext_range _).2) (by first | omega | exact (ext_range _).1 | exact (ext_range _).2) (by first | omega | exact (ext_range _).1 | exact (ext_range _).2) _).mono ?_; rintro e w' ⟨rfl, rfl⟩)
    | (go_at_call 42; refine (qu_any _ _ (by first | omega | exact (ext_range _).1 | exact (ext_range _).2) (by first | omega | exact (ext_range _).1 | exact (ext_range _).2) (by first | omega | exact (ext_range _).1 | exact (ext_range _).2) (by first | omega | exact (ext_range _).1 | exact (ext_range _).2) _).mono ?_; rintro e w' ⟨rfl, rfl⟩)
    | (go_at_call 43; refine (rs_any _ _ (by first | omega | exact (ext_range _).1 | exact (ext_range _).2) (by first | omega | exact (ext_range _).1 | exact (ext_range _).2) (by first | omega | exact (ext_range _).1 | exact (ext_range _).2) (by first | omega | exact (ext_range _).1 | exact (ext_range _).2) _).mono ?_; rintro e w' ⟨rfl, rfl⟩)
    | (go_at_call 44; refine (ru_any _ _ (by first | omega | exact (ext_range _).1 | exact (ext_range _).2) (by first | omega | exact (ext_range _).1 | exact (ext_range _).2) (by first | omega | exact (ext_range _).1 | exact (ext_range _).2) (by first | omega | exact (ext_range _).1 | exact (ext_range _).2) _).mono ?_; rintro e w' ⟨rfl, rfl⟩))
  go_ret
  refine ⟨ret_int ?_, rfl⟩
  simp only [whole]

set_option maxHeartbeats 400000 in
theorem half_18 (a b : Int) (ha0 : 0 ≤ a) (ha : a < 18446744073709551616) (hb0 : 0 ≤ b) (hb : b < 18446744073709551616) (w : World) :
    Calls Tryd.prog 23 #[.int .i64 18, .int .u64 a, .int .u64 b] w fun e w' => e = .returned (.int .u64 (half 18 a b)) ∧ w' = w := by
  go_enter Tryd.func23, Tryd.ntmps23
  go_wp2_with (first
    | (go_at_call 22; refine (extended_any _ _).mono ?_; rintro e w' ⟨rfl, rfl⟩)
    | (go_at_call 40; refine (lowest_any _ _).mono ?_; rintro e w' ⟨rfl, rfl⟩)
    | (go_at_call 45; refine (oneIf_any _ _).mono ?_; rintro e w' ⟨rfl, rfl⟩)
    | (go_at_call 46; refine (upper_int a b ha0 ha hb0 hb _).mono ?_; rintro e w' ⟨rfl, rfl⟩)
    | (go_at_call 47; refine (ifn_any _ _ _).mono ?_; rintro e w' ⟨rfl, rfl⟩)
    | (go_at_call 41; refine (qs_any _ _ (by first | omega | exact (ext_range _).1 | exact (ext_range _).2) (by first | omega | exact (ext_range _).1 | exact (ext_range _).2) (by first | omega | exact (ext_range _).1 | exact (ext_range _).2) (by first | omega | exact (ext_range _).1 | exact (ext_range _).2) _).mono ?_; rintro e w' ⟨rfl, rfl⟩)
    | (go_at_call 42; refine (qu_any _ _ (by first | omega | exact (ext_range _).1 | exact (ext_range _).2) (by first | omega | exact (ext_range _).1 | exact (ext_range _).2) (by first | omega | exact (ext_range _).1 | exact (ext_range _).2) (by first | omega | exact (ext_range _).1 | exact (ext_range _).2) _).mono ?_; rintro e w' ⟨rfl, rfl⟩)
    | (go_at_call 43; refine (rs_any _ _ (by first | omega | exact (ext_range _).1 | exact (ext_range _).2) (by first | omega | exact (ext_range _).1 | exact (ext_range _).2) (by first | omega | exact (ext_range _).1 | exact (ext_range _).2) (by first | omega | exact (ext_range _).1 | exact (ext_range _).2) _).mono ?_; rintro e w' ⟨rfl, rfl⟩)
    | (go_at_call 44; refine (ru_any _ _ (by first | omega | exact (ext_range _).1 | exact (ext_range _).2) (by first | omega | exact (ext_range _).1 | exact (ext_range _).2) (by first | omega | exact (ext_range _).1 | exact (ext_range _).2) (by first | omega | exact (ext_range _).1 | exact (ext_range _).2) _).mono ?_; rintro e w' ⟨rfl, rfl⟩))
  go_ret
  refine ⟨ret_int ?_, rfl⟩
  simp only [half]

set_option maxHeartbeats 400000 in
theorem half_19 (a b : Int) (ha0 : 0 ≤ a) (ha : a < 18446744073709551616) (hb0 : 0 ≤ b) (hb : b < 18446744073709551616) (w : World) :
    Calls Tryd.prog 23 #[.int .i64 19, .int .u64 a, .int .u64 b] w fun e w' => e = .returned (.int .u64 (half 19 a b)) ∧ w' = w := by
  go_enter Tryd.func23, Tryd.ntmps23
  go_wp2_with (first
    | (go_at_call 22; refine (extended_any _ _).mono ?_; rintro e w' ⟨rfl, rfl⟩)
    | (go_at_call 40; refine (lowest_any _ _).mono ?_; rintro e w' ⟨rfl, rfl⟩)
    | (go_at_call 45; refine (oneIf_any _ _).mono ?_; rintro e w' ⟨rfl, rfl⟩)
    | (go_at_call 46; refine (upper_int a b ha0 ha hb0 hb _).mono ?_; rintro e w' ⟨rfl, rfl⟩)
    | (go_at_call 47; refine (ifn_any _ _ _).mono ?_; rintro e w' ⟨rfl, rfl⟩)
    | (go_at_call 41; refine (qs_any _ _ (by first | omega | exact (ext_range _).1 | exact (ext_range _).2) (by first | omega | exact (ext_range _).1 | exact (ext_range _).2) (by first | omega | exact (ext_range _).1 | exact (ext_range _).2) (by first | omega | exact (ext_range _).1 | exact (ext_range _).2) _).mono ?_; rintro e w' ⟨rfl, rfl⟩)
    | (go_at_call 42; refine (qu_any _ _ (by first | omega | exact (ext_range _).1 | exact (ext_range _).2) (by first | omega | exact (ext_range _).1 | exact (ext_range _).2) (by first | omega | exact (ext_range _).1 | exact (ext_range _).2) (by first | omega | exact (ext_range _).1 | exact (ext_range _).2) _).mono ?_; rintro e w' ⟨rfl, rfl⟩)
    | (go_at_call 43; refine (rs_any _ _ (by first | omega | exact (ext_range _).1 | exact (ext_range _).2) (by first | omega | exact (ext_range _).1 | exact (ext_range _).2) (by first | omega | exact (ext_range _).1 | exact (ext_range _).2) (by first | omega | exact (ext_range _).1 | exact (ext_range _).2) _).mono ?_; rintro e w' ⟨rfl, rfl⟩)
    | (go_at_call 44; refine (ru_any _ _ (by first | omega | exact (ext_range _).1 | exact (ext_range _).2) (by first | omega | exact (ext_range _).1 | exact (ext_range _).2) (by first | omega | exact (ext_range _).1 | exact (ext_range _).2) (by first | omega | exact (ext_range _).1 | exact (ext_range _).2) _).mono ?_; rintro e w' ⟨rfl, rfl⟩))
  go_ret
  refine ⟨ret_int ?_, rfl⟩
  simp only [half]

set_option maxHeartbeats 400000 in
theorem half_20 (a b : Int) (ha0 : 0 ≤ a) (ha : a < 18446744073709551616) (hb0 : 0 ≤ b) (hb : b < 18446744073709551616) (w : World) :
    Calls Tryd.prog 23 #[.int .i64 20, .int .u64 a, .int .u64 b] w fun e w' => e = .returned (.int .u64 (half 20 a b)) ∧ w' = w := by
  go_enter Tryd.func23, Tryd.ntmps23
  go_wp2_with (first
    | (go_at_call 22; refine (extended_any _ _).mono ?_; rintro e w' ⟨rfl, rfl⟩)
    | (go_at_call 40; refine (lowest_any _ _).mono ?_; rintro e w' ⟨rfl, rfl⟩)
    | (go_at_call 45; refine (oneIf_any _ _).mono ?_; rintro e w' ⟨rfl, rfl⟩)
    | (go_at_call 46; refine (upper_int a b ha0 ha hb0 hb _).mono ?_; rintro e w' ⟨rfl, rfl⟩)
    | (go_at_call 47; refine (ifn_any _ _ _).mono ?_; rintro e w' ⟨rfl, rfl⟩)
    | (go_at_call 41; refine (qs_any _ _ (by first | omega | exact (ext_range _).1 | exact (ext_range _).2) (by first | omega | exact (ext_range _).1 | exact (ext_range _).2) (by first | omega | exact (ext_range _).1 | exact (ext_range _).2) (by first | omega | exact (ext_range _).1 | exact (ext_range _).2) _).mono ?_; rintro e w' ⟨rfl, rfl⟩)
    | (go_at_call 42; refine (qu_any _ _ (by first | omega | exact (ext_range _).1 | exact (ext_range _).2) (by first | omega | exact (ext_range _).1 | exact (ext_range _).2) (by first | omega | exact (ext_range _).1 | exact (ext_range _).2) (by first | omega | exact (ext_range _).1 | exact (ext_range _).2) _).mono ?_; rintro e w' ⟨rfl, rfl⟩)
    | (go_at_call 43; refine (rs_any _ _ (by first | omega | exact (ext_range _).1 | exact (ext_range _).2) (by first | omega | exact (ext_range _).1 | exact (ext_range _).2) (by first | omega | exact (ext_range _).1 | exact (ext_range _).2) (by first | omega | exact (ext_range _).1 | exact (ext_range _).2) _).mono ?_; rintro e w' ⟨rfl, rfl⟩)
    | (go_at_call 44; refine (ru_any _ _ (by first | omega | exact (ext_range _).1 | exact (ext_range _).2) (by first | omega | exact (ext_range _).1 | exact (ext_range _).2) (by first | omega | exact (ext_range _).1 | exact (ext_range _).2) (by first | omega | exact (ext_range _).1 | exact (ext_range _).2) _).mono ?_; rintro e w' ⟨rfl, rfl⟩))
  go_ret
  refine ⟨ret_int ?_, rfl⟩
  simp only [half]

set_option maxHeartbeats 400000 in
theorem half_21 (a b : Int) (ha0 : 0 ≤ a) (ha : a < 18446744073709551616) (hb0 : 0 ≤ b) (hb : b < 18446744073709551616) (w : World) :
    Calls Tryd.prog 23 #[.int .i64 21, .int .u64 a, .int .u64 b] w fun e w' => e = .returned (.int .u64 (half 21 a b)) ∧ w' = w := by
  go_enter Tryd.func23, Tryd.ntmps23
  go_wp2_with (first
    | (go_at_call 22; refine (extended_any _ _).mono ?_; rintro e w' ⟨rfl, rfl⟩)
    | (go_at_call 40; refine (lowest_any _ _).mono ?_; rintro e w' ⟨rfl, rfl⟩)
    | (go_at_call 45; refine (oneIf_any _ _).mono ?_; rintro e w' ⟨rfl, rfl⟩)
    | (go_at_call 46; refine (upper_int a b ha0 ha hb0 hb _).mono ?_; rintro e w' ⟨rfl, rfl⟩)
    | (go_at_call 47; refine (ifn_any _ _ _).mono ?_; rintro e w' ⟨rfl, rfl⟩)
    | (go_at_call 41; refine (qs_any _ _ (by first | omega | exact (ext_range _).1 | exact (ext_range _).2) (by first | omega | exact (ext_range _).1 | exact (ext_range _).2) (by first | omega | exact (ext_range _).1 | exact (ext_range _).2) (by first | omega | exact (ext_range _).1 | exact (ext_range _).2) _).mono ?_; rintro e w' ⟨rfl, rfl⟩)
    | (go_at_call 42; refine (qu_any _ _ (by first | omega | exact (ext_range _).1 | exact (ext_range _).2) (by first | omega | exact (ext_range _).1 | exact (ext_range _).2) (by first | omega | exact (ext_range _).1 | exact (ext_range _).2) (by first | omega | exact (ext_range _).1 | exact (ext_range _).2) _).mono ?_; rintro e w' ⟨rfl, rfl⟩)
    | (go_at_call 43; refine (rs_any _ _ (by first | omega | exact (ext_range _).1 | exact (ext_range _).2) (by first | omega | exact (ext_range _).1 | exact (ext_range _).2) (by first | omega | exact (ext_range _).1 | exact (ext_range _).2) (by first | omega | exact (ext_range _).1 | exact (ext_range _).2) _).mono ?_; rintro e w' ⟨rfl, rfl⟩)
    | (go_at_call 44; refine (ru_any _ _ (by first | omega | exact (ext_range _).1 | exact (ext_range _).2) (by first | omega | exact (ext_range _).1 | exact (ext_range _).2) (by first | omega | exact (ext_range _).1 | exact (ext_range _).2) (by first | omega | exact (ext_range _).1 | exact (ext_range _).2) _).mono ?_; rintro e w' ⟨rfl, rfl⟩))
  go_ret
  refine ⟨ret_int ?_, rfl⟩
  simp only [half]

set_option maxHeartbeats 400000 in
theorem half_22 (a b : Int) (ha0 : 0 ≤ a) (ha : a < 18446744073709551616) (hb0 : 0 ≤ b) (hb : b < 18446744073709551616) (w : World) :
    Calls Tryd.prog 23 #[.int .i64 22, .int .u64 a, .int .u64 b] w fun e w' => e = .returned (.int .u64 (half 22 a b)) ∧ w' = w := by
  go_enter Tryd.func23, Tryd.ntmps23
  go_wp2_with (first
    | (go_at_call 22; refine (extended_any _ _).mono ?_; rintro e w' ⟨rfl, rfl⟩)
    | (go_at_call 40; refine (lowest_any _ _).mono ?_; rintro e w' ⟨rfl, rfl⟩)
    | (go_at_call 45; refine (oneIf_any _ _).mono ?_; rintro e w' ⟨rfl, rfl⟩)
    | (go_at_call 46; refine (upper_int a b ha0 ha hb0 hb _).mono ?_; rintro e w' ⟨rfl, rfl⟩)
    | (go_at_call 47; refine (ifn_any _ _ _).mono ?_; rintro e w' ⟨rfl, rfl⟩)
    | (go_at_call 41; refine (qs_any _ _ (by first | omega | exact (ext_range _).1 | exact (ext_range _).2) (by first | omega | exact (ext_range _).1 | exact (ext_range _).2) (by first | omega | exact (ext_range _).1 | exact (ext_range _).2) (by first | omega | exact (ext_range _).1 | exact (ext_range _).2) _).mono ?_; rintro e w' ⟨rfl, rfl⟩)
    | (go_at_call 42; refine (qu_any _ _ (by first | omega | exact (ext_range _).1 | exact (ext_range _).2) (by first | omega | exact (ext_range _).1 | exact (ext_range _).2) (by first | omega | exact (ext_range _).1 | exact (ext_range _).2) (by first | omega | exact (ext_range _).1 | exact (ext_range _).2) _).mono ?_; rintro e w' ⟨rfl, rfl⟩)
    | (go_at_call 43; refine (rs_any _ _ (by first | omega | exact (ext_range _).1 | exact (ext_range _).2) (by first | omega | exact (ext_range _).1 | exact (ext_range _).2) (by first | omega | exact (ext_range _).1 | exact (ext_range _).2) (by first | omega | exact (ext_range _).1 | exact (ext_range _).2) _).mono ?_; rintro e w' ⟨rfl, rfl⟩)
    | (go_at_call 44; refine (ru_any _ _ (by first | omega | exact (ext_range _).1 | exact (ext_range _).2) (by first | omega | exact (ext_range _).1 | exact (ext_range _).2) (by first | omega | exact (ext_range _).1 | exact (ext_range _).2) (by first | omega | exact (ext_range _).1 | exact (ext_range _).2) _).mono ?_; rintro e w' ⟨rfl, rfl⟩))
  go_ret
  refine ⟨ret_int ?_, rfl⟩
  simp only [half]

set_option maxHeartbeats 400000 in
theorem half_23 (a b : Int) (ha0 : 0 ≤ a) (ha : a < 18446744073709551616) (hb0 : 0 ≤ b) (hb : b < 18446744073709551616) (w : World) :
    Calls Tryd.prog 23 #[.int .i64 23, .int .u64 a, .int .u64 b] w fun e w' => e = .returned (.int .u64 (half 23 a b)) ∧ w' = w := by
  go_enter Tryd.func23, Tryd.ntmps23
  go_wp2_with (first
    | (go_at_call 22; refine (extended_any _ _).mono ?_; rintro e w' ⟨rfl, rfl⟩)
    | (go_at_call 40; refine (lowest_any _ _).mono ?_; rintro e w' ⟨rfl, rfl⟩)
    | (go_at_call 45; refine (oneIf_any _ _).mono ?_; rintro e w' ⟨rfl, rfl⟩)
    | (go_at_call 46; refine (upper_int a b ha0 ha hb0 hb _).mono ?_; rintro e w' ⟨rfl, rfl⟩)
    | (go_at_call 47; refine (ifn_any _ _ _).mono ?_; rintro e w' ⟨rfl, rfl⟩)
    | (go_at_call 41; refine (qs_any _ _ (by first | omega | exact (ext_range _).1 | exact (ext_range _).2) (by first | omega | exact (ext_range _).1 | exact (ext_range _).2) (by first | omega | exact (ext_range _).1 | exact (ext_range _).2) (by first | omega | exact (ext_range _).1 | exact (ext_range _).2) _).mono ?_; rintro e w' ⟨rfl, rfl⟩)
    | (go_at_call 42; refine (qu_any _ _ (by first | omega | exact (ext_range _).1 | exact (ext_range _).2) (by first | omega | exact (ext_range _).1 | exact (ext_range _).2) (by first | omega | exact (ext_range _).1 | exact (ext_range _).2) (by first | omega | exact (ext_range _).1 | exact (ext_range _).2) _).mono ?_; rintro e w' ⟨rfl, rfl⟩)
    | (go_at_call 43; refine (rs_any _ _ (by first | omega | exact (ext_range _).1 | exact (ext_range _).2) (by first | omega | exact (ext_range _).1 | exact (ext_range _).2) (by first | omega | exact (ext_range _).1 | exact (ext_range _).2) (by first | omega | exact (ext_range _).1 | exact (ext_range _).2) _).mono ?_; rintro e w' ⟨rfl, rfl⟩)
    | (go_at_call 44; refine (ru_any _ _ (by first | omega | exact (ext_range _).1 | exact (ext_range _).2) (by first | omega | exact (ext_range _).1 | exact (ext_range _).2) (by first | omega | exact (ext_range _).1 | exact (ext_range _).2) (by first | omega | exact (ext_range _).1 | exact (ext_range _).2) _).mono ?_; rintro e w' ⟨rfl, rfl⟩))
  go_ret
  refine ⟨ret_int ?_, rfl⟩
  simp only [half]

set_option maxHeartbeats 400000 in
theorem half_24 (a b : Int) (ha0 : 0 ≤ a) (ha : a < 18446744073709551616) (hb0 : 0 ≤ b) (hb : b < 18446744073709551616) (w : World) :
    Calls Tryd.prog 23 #[.int .i64 24, .int .u64 a, .int .u64 b] w fun e w' => e = .returned (.int .u64 (half 24 a b)) ∧ w' = w := by
  go_enter Tryd.func23, Tryd.ntmps23
  go_wp2_with (first
    | (go_at_call 22; refine (extended_any _ _).mono ?_; rintro e w' ⟨rfl, rfl⟩)
    | (go_at_call 40; refine (lowest_any _ _).mono ?_; rintro e w' ⟨rfl, rfl⟩)
    | (go_at_call 45; refine (oneIf_any _ _).mono ?_; rintro e w' ⟨rfl, rfl⟩)
    | (go_at_call 46; refine (upper_int a b ha0 ha hb0 hb _).mono ?_; rintro e w' ⟨rfl, rfl⟩)
    | (go_at_call 47; refine (ifn_any _ _ _).mono ?_; rintro e w' ⟨rfl, rfl⟩)
    | (go_at_call 41; refine (qs_any _ _ (by first | omega | exact (ext_range _).1 | exact (ext_range _).2) (by first | omega | exact (ext_range _).1 | exact (ext_range _).2) (by first | omega | exact (ext_range _).1 | exact (ext_range _).2) (by first | omega | exact (ext_range _).1 | exact (ext_range _).2) _).mono ?_; rintro e w' ⟨rfl, rfl⟩)
    | (go_at_call 42; refine (qu_any _ _ (by first | omega | exact (ext_range _).1 | exact (ext_range _).2) (by first | omega | exact (ext_range _).1 | exact (ext_range _).2) (by first | omega | exact (ext_range _).1 | exact (ext_range _).2) (by first | omega | exact (ext_range _).1 | exact (ext_range _).2) _).mono ?_; rintro e w' ⟨rfl, rfl⟩)
    | (go_at_call 43; refine (rs_any _ _ (by first | omega | exact (ext_range _).1 | exact (ext_range _).2) (by first | omega | exact (ext_range _).1 | exact (ext_range _).2) (by first | omega | exact (ext_range _).1 | exact (ext_range _).2) (by first | omega | exact (ext_range _).1 | exact (ext_range _).2) _).mono ?_; rintro e w' ⟨rfl, rfl⟩)
    | (go_at_call 44; refine (ru_any _ _ (by first | omega | exact (ext_range _).1 | exact (ext_range _).2) (by first | omega | exact (ext_range _).1 | exact (ext_range _).2) (by first | omega | exact (ext_range _).1 | exact (ext_range _).2) (by first | omega | exact (ext_range _).1 | exact (ext_range _).2) _).mono ?_; rintro e w' ⟨rfl, rfl⟩))
  go_ret
  refine ⟨ret_int ?_, rfl⟩
  simp only [half]

set_option maxHeartbeats 400000 in
theorem half_25 (a b : Int) (ha0 : 0 ≤ a) (ha : a < 18446744073709551616) (hb0 : 0 ≤ b) (hb : b < 18446744073709551616) (w : World) :
    Calls Tryd.prog 23 #[.int .i64 25, .int .u64 a, .int .u64 b] w fun e w' => e = .returned (.int .u64 (half 25 a b)) ∧ w' = w := by
  go_enter Tryd.func23, Tryd.ntmps23
  go_wp2_with (first
    | (go_at_call 22; refine (extended_any _ _).mono ?_; rintro e w' ⟨rfl, rfl⟩)
    | (go_at_call 40; refine (lowest_any _ _).mono ?_; rintro e w' ⟨rfl, rfl⟩)
    | (go_at_call 45; refine (oneIf_any _ _).mono ?_; rintro e w' ⟨rfl, rfl⟩)
    | (go_at_call 46; refine (upper_int a b ha0 ha hb0 hb _).mono ?_; rintro e w' ⟨rfl, rfl⟩)
    | (go_at_call 47; refine (ifn_any _ _ _).mono ?_; rintro e w' ⟨rfl, rfl⟩)
    | (go_at_call 41; refine (qs_any _ _ (by first | omega | exact (ext_range _).1 | exact (ext_range _).2) (by first | omega | exact (ext_range _).1 | exact (ext_range _).2) (by first | omega | exact (ext_range _).1 | exact (ext_range _).2) (by first | omega | exact (ext_range _).1 | exact (ext_range _).2) _).mono ?_; rintro e w' ⟨rfl, rfl⟩)
    | (go_at_call 42; refine (qu_any _ _ (by first | omega | exact (ext_range _).1 | exact (ext_range _).2) (by first | omega | exact (ext_range _).1 | exact (ext_range _).2) (by first | omega | exact (ext_range _).1 | exact (ext_range _).2) (by first | omega | exact (ext_range _).1 | exact (ext_range _).2) _).mono ?_; rintro e w' ⟨rfl, rfl⟩)
    | (go_at_call 43; refine (rs_any _ _ (by first | omega | exact (ext_range _).1 | exact (ext_range _).2) (by first | omega | exact (ext_range _).1 | exact (ext_range _).2) (by first | omega | exact (ext_range _).1 | exact (ext_range _).2) (by first | omega | exact (ext_range _).1 | exact (ext_range _).2) _).mono ?_; rintro e w' ⟨rfl, rfl⟩)
    | (go_at_call 44; refine (ru_any _ _ (by first | omega | exact (ext_range _).1 | exact (ext_range _).2) (by first | omega | exact (ext_range _).1 | exact (ext_range _).2) (by first | omega | exact (ext_range _).1 | exact (ext_range _).2) (by first | omega | exact (ext_range _).1 | exact (ext_range _).2) _).mono ?_; rintro e w' ⟨rfl, rfl⟩))
  go_ret
  refine ⟨ret_int ?_, rfl⟩
  simp only [half]

set_option maxHeartbeats 400000 in
theorem half_26 (a b : Int) (ha0 : 0 ≤ a) (ha : a < 18446744073709551616) (hb0 : 0 ≤ b) (hb : b < 18446744073709551616) (w : World) :
    Calls Tryd.prog 23 #[.int .i64 26, .int .u64 a, .int .u64 b] w fun e w' => e = .returned (.int .u64 (half 26 a b)) ∧ w' = w := by
  go_enter Tryd.func23, Tryd.ntmps23
  go_wp2_with (first
    | (go_at_call 22; refine (extended_any _ _).mono ?_; rintro e w' ⟨rfl, rfl⟩)
    | (go_at_call 40; refine (lowest_any _ _).mono ?_; rintro e w' ⟨rfl, rfl⟩)
    | (go_at_call 45; refine (oneIf_any _ _).mono ?_; rintro e w' ⟨rfl, rfl⟩)
    | (go_at_call 46; refine (upper_int a b ha0 ha hb0 hb _).mono ?_; rintro e w' ⟨rfl, rfl⟩)
    | (go_at_call 47; refine (ifn_any _ _ _).mono ?_; rintro e w' ⟨rfl, rfl⟩)
    | (go_at_call 41; refine (qs_any _ _ (by first | omega | exact (ext_range _).1 | exact (ext_range _).2) (by first | omega | exact (ext_range _).1 | exact (ext_range _).2) (by first | omega | exact (ext_range _).1 | exact (ext_range _).2) (by first | omega | exact (ext_range _).1 | exact (ext_range _).2) _).mono ?_; rintro e w' ⟨rfl, rfl⟩)
    | (go_at_call 42; refine (qu_any _ _ (by first | omega | exact (ext_range _).1 | exact (ext_range _).2) (by first | omega | exact (ext_range _).1 | exact (ext_range _).2) (by first | omega | exact (ext_range _).1 | exact (ext_range _).2) (by first | omega | exact (ext_range _).1 | exact (ext_range _).2) _).mono ?_; rintro e w' ⟨rfl, rfl⟩)
    | (go_at_call 43; refine (rs_any _ _ (by first | omega | exact (ext_range _).1 | exact (ext_range _).2) (by first | omega | exact (ext_range _).1 | exact (ext_range _).2) (by first | omega | exact (ext_range _).1 | exact (ext_range _).2) (by first | omega | exact (ext_range _).1 | exact (ext_range _).2) _).mono ?_; rintro e w' ⟨rfl, rfl⟩)
    | (go_at_call 44; refine (ru_any _ _ (by first | omega | exact (ext_range _).1 | exact (ext_range _).2) (by first | omega | exact (ext_range _).1 | exact (ext_range _).2) (by first | omega | exact (ext_range _).1 | exact (ext_range _).2) (by first | omega | exact (ext_range _).1 | exact (ext_range _).2) _).mono ?_; rintro e w' ⟨rfl, rfl⟩))
  go_ret
  refine ⟨ret_int ?_, rfl⟩
  simp only [half]

set_option maxHeartbeats 400000 in
theorem half_27 (a b : Int) (ha0 : 0 ≤ a) (ha : a < 18446744073709551616) (hb0 : 0 ≤ b) (hb : b < 18446744073709551616) (w : World) :
    Calls Tryd.prog 23 #[.int .i64 27, .int .u64 a, .int .u64 b] w fun e w' => e = .returned (.int .u64 (half 27 a b)) ∧ w' = w := by
  go_enter Tryd.func23, Tryd.ntmps23
  go_wp2_with (first
    | (go_at_call 22; refine (extended_any _ _).mono ?_; rintro e w' ⟨rfl, rfl⟩)
    | (go_at_call 40; refine (lowest_any _ _).mono ?_; rintro e w' ⟨rfl, rfl⟩)
    | (go_at_call 45; refine (oneIf_any _ _).mono ?_; rintro e w' ⟨rfl, rfl⟩)
    | (go_at_call 46; refine (upper_int a b ha0 ha hb0 hb _).mono ?_; rintro e w' ⟨rfl, rfl⟩)
    | (go_at_call 47; refine (ifn_any _ _ _).mono ?_; rintro e w' ⟨rfl, rfl⟩)
    | (go_at_call 41; refine (qs_any _ _ (by first | omega | exact (ext_range _).1 | exact (ext_range _).2) (by first | omega | exact (ext_range _).1 | exact (ext_range _).2) (by first | omega | exact (ext_range _).1 | exact (ext_range _).2) (by first | omega | exact (ext_range _).1 | exact (ext_range _).2) _).mono ?_; rintro e w' ⟨rfl, rfl⟩)
    | (go_at_call 42; refine (qu_any _ _ (by first | omega | exact (ext_range _).1 | exact (ext_range _).2) (by first | omega | exact (ext_range _).1 | exact (ext_range _).2) (by first | omega | exact (ext_range _).1 | exact (ext_range _).2) (by first | omega | exact (ext_range _).1 | exact (ext_range _).2) _).mono ?_; rintro e w' ⟨rfl, rfl⟩)
    | (go_at_call 43; refine (rs_any _ _ (by first | omega | exact (ext_range _).1 | exact (ext_range _).2) (by first | omega | exact (ext_range _).1 | exact (ext_range _).2) (by first | omega | exact (ext_range _).1 | exact (ext_range _).2) (by first | omega | exact (ext_range _).1 | exact (ext_range _).2) _).mono ?_; rintro e w' ⟨rfl, rfl⟩)
    | (go_at_call 44; refine (ru_any _ _ (by first | omega | exact (ext_range _).1 | exact (ext_range _).2) (by first | omega | exact (ext_range _).1 | exact (ext_range _).2) (by first | omega | exact (ext_range _).1 | exact (ext_range _).2) (by first | omega | exact (ext_range _).1 | exact (ext_range _).2) _).mono ?_; rintro e w' ⟨rfl, rfl⟩))
  go_ret
  refine ⟨ret_int ?_, rfl⟩
  simp only [half]

set_option maxHeartbeats 400000 in
theorem whole_none (o : Int) (a b : Int) (ha0 : 0 ≤ a) (ha : a < 18446744073709551616) (hb0 : 0 ≤ b) (hb : b < 18446744073709551616) (w : World) (ho : o < 0 ∨ 18 ≤ o) :
    Calls Tryd.prog 24 #[.int .i64 o, .int .u64 a, .int .u64 b] w fun e w' => e = .returned (.int .u64 0) ∧ w' = w := by
  have n0 : o ≠ 0 := by omega
  have n1 : o ≠ 1 := by omega
  have n2 : o ≠ 2 := by omega
  have n3 : o ≠ 3 := by omega
  have n4 : o ≠ 4 := by omega
  have n5 : o ≠ 5 := by omega
  have n6 : o ≠ 6 := by omega
  have n7 : o ≠ 7 := by omega
  have n8 : o ≠ 8 := by omega
  have n9 : o ≠ 9 := by omega
  have n10 : o ≠ 10 := by omega
  have n11 : o ≠ 11 := by omega
  have n12 : o ≠ 12 := by omega
  have n13 : o ≠ 13 := by omega
  have n14 : o ≠ 14 := by omega
  have n15 : o ≠ 15 := by omega
  have n16 : o ≠ 16 := by omega
  have n17 : o ≠ 17 := by omega
  clear ho
  go_enter Tryd.func24, Tryd.ntmps24
  go_wp2
  go_ret
  exact ⟨rfl, rfl⟩

set_option maxHeartbeats 400000 in
theorem isHalf_yes (o : Int) (w : World) (h0 : 18 ≤ o) (h1 : o < 28) :
    Calls Tryd.prog 14 #[.int .i64 o] w fun e w' => e = .returned (.bool true) ∧ w' = w := by
  go_enter Tryd.func14, Tryd.ntmps14
  go_wp2
  go_ret
  exact ⟨by simp, rfl⟩
set_option maxHeartbeats 400000 in
theorem isHalf_no (o : Int) (w : World) (h : o < 18 ∨ 28 ≤ o) :
    Calls Tryd.prog 14 #[.int .i64 o] w fun e w' => e = .returned (.bool false) ∧ w' = w := by
  by_cases h0 : 18 ≤ o
  · have h1 : ¬ o < 28 := by omega
    go_enter Tryd.func14, Tryd.ntmps14
    go_wp2
    go_ret
    exact ⟨by simp, rfl⟩
  · go_enter Tryd.func14, Tryd.ntmps14
    go_wp2
    go_ret
    exact ⟨rfl, rfl⟩

theorem whole_any (o : Nat) (a b : Int) (ha0 : 0 ≤ a) (ha : a < 18446744073709551616) (hb0 : 0 ≤ b) (hb : b < 18446744073709551616) (w : World) (ho : o < 18) :
    Calls Tryd.prog 24 #[.int .i64 o, .int .u64 a, .int .u64 b] w fun e w' => e = .returned (.int .u64 (whole o a b)) ∧ w' = w := by
  match o, ho with
  | 0, _ => exact whole_0 a b ha0 ha hb0 hb w
  | 1, _ => exact whole_1 a b ha0 ha hb0 hb w
  | 2, _ => exact whole_2 a b ha0 ha hb0 hb w
  | 3, _ => exact whole_3 a b ha0 ha hb0 hb w
  | 4, _ => exact whole_4 a b ha0 ha hb0 hb w
  | 5, _ => exact whole_5 a b ha0 ha hb0 hb w
  | 6, _ => exact whole_6 a b ha0 ha hb0 hb w
  | 7, _ => exact whole_7 a b ha0 ha hb0 hb w
  | 8, _ => exact whole_8 a b ha0 ha hb0 hb w
  | 9, _ => exact whole_9 a b ha0 ha hb0 hb w
  | 10, _ => exact whole_10 a b ha0 ha hb0 hb w
  | 11, _ => exact whole_11 a b ha0 ha hb0 hb w
  | 12, _ => exact whole_12 a b ha0 ha hb0 hb w
  | 13, _ => exact whole_13 a b ha0 ha hb0 hb w
  | 14, _ => exact whole_14 a b ha0 ha hb0 hb w
  | 15, _ => exact whole_15 a b ha0 ha hb0 hb w
  | 16, _ => exact whole_16 a b ha0 ha hb0 hb w
  | 17, _ => exact whole_17 a b ha0 ha hb0 hb w
  | k + 18, h => exact absurd h (by omega)

theorem half_any (o : Nat) (a b : Int) (ha0 : 0 ≤ a) (ha : a < 18446744073709551616) (hb0 : 0 ≤ b) (hb : b < 18446744073709551616) (w : World) (h0 : 18 ≤ o) (h1 : o < 28) :
    Calls Tryd.prog 23 #[.int .i64 o, .int .u64 a, .int .u64 b] w fun e w' => e = .returned (.int .u64 (half o a b)) ∧ w' = w := by
  obtain ⟨k, rfl⟩ := Nat.exists_eq_add_of_le h0
  match k, h1 with
  | 0, _ => exact half_18 a b ha0 ha hb0 hb w
  | 1, _ => exact half_19 a b ha0 ha hb0 hb w
  | 2, _ => exact half_20 a b ha0 ha hb0 hb w
  | 3, _ => exact half_21 a b ha0 ha hb0 hb w
  | 4, _ => exact half_22 a b ha0 ha hb0 hb w
  | 5, _ => exact half_23 a b ha0 ha hb0 hb w
  | 6, _ => exact half_24 a b ha0 ha hb0 hb w
  | 7, _ => exact half_25 a b ha0 ha hb0 hb w
  | 8, _ => exact half_26 a b ha0 ha hb0 hb w
  | 9, _ => exact half_27 a b ha0 ha hb0 hb w
  | k + 10, h => exact absurd h (by omega)

set_option maxHeartbeats 400000 in
theorem do_any (o : Nat) (a b : Int) (ha0 : 0 ≤ a) (ha : a < 18446744073709551616) (hb0 : 0 ≤ b) (hb : b < 18446744073709551616) (w : World) (ho : o < 28) :
    Calls Tryd.prog 10 #[.int .i64 o, .int .u64 a, .int .u64 b] w fun e w' => e = .returned (.int .u64 (op o a b)) ∧ w' = w := by
  by_cases h : o < 18
  · have H : Hid (op o a b = whole o a b) := if_neg (by omega)
    go_enter Tryd.func10, Tryd.ntmps10
    go_wp2_with (first
      | (go_at_call 14; refine (isHalf_no _ _ (by omega)).mono ?_; rintro e w' ⟨rfl, rfl⟩)
      | (go_at_call 24; refine (whole_any o a b ha0 ha hb0 hb _ h).mono ?_; rintro e w' ⟨rfl, rfl⟩))
    go_ret
    exact ⟨ret_int H.out.symm, rfl⟩
  · have H : Hid (op o a b = ext (half o a b) 32) := if_pos (by omega)
    go_enter Tryd.func10, Tryd.ntmps10
    go_wp2_with (first
      | (go_at_call 14; refine (isHalf_yes _ _ (by omega) (by omega)).mono ?_; rintro e w' ⟨rfl, rfl⟩)
      | (go_at_call 23; refine (half_any o a b ha0 ha hb0 hb _ (by omega) ho).mono ?_; rintro e w' ⟨rfl, rfl⟩)
      | (go_at_call 22; refine (extended_any _ _).mono ?_; rintro e w' ⟨rfl, rfl⟩))
    go_ret
    exact ⟨ret_int H.out.symm, rfl⟩

set_option maxHeartbeats 400000 in
theorem do_none (o : Int) (a b : Int) (ha0 : 0 ≤ a) (ha : a < 18446744073709551616) (hb0 : 0 ≤ b) (hb : b < 18446744073709551616) (w : World) (ho : o < 0 ∨ 28 ≤ o) :
    Calls Tryd.prog 10 #[.int .i64 o, .int .u64 a, .int .u64 b] w fun e w' => e = .returned (.int .u64 0) ∧ w' = w := by
  go_enter Tryd.func10, Tryd.ntmps10
  go_wp2_with (first
    | (go_at_call 14; refine (isHalf_no _ _ (by omega)).mono ?_; rintro e w' ⟨rfl, rfl⟩)
    | (go_at_call 24; refine (whole_none o a b ha0 ha hb0 hb _ (by omega)).mono ?_; rintro e w' ⟨rfl, rfl⟩))
  go_ret
  exact ⟨rfl, rfl⟩
end Go.Proofs.YtmfmakkiefgogaaDoor
