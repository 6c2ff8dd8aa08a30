/-
  Layer 5: the document's Full, of any operation and any two numbers of 64 bits. No condition.
-/
import Derived.Test.YtmfmakkiefgogaaDoorB6
namespace Go.Proofs.YtmfmakkiefgogaaDoor
open Go.RowKit
set_option linter.unusedVariables false

set_option maxRecDepth 10000 in
set_option maxHeartbeats 1600000 in
theorem full_0f (a b : Int) (ha0 : 0 ≤ a) (ha : a < 18446744073709551616) (hb0 : 0 ≤ b) (hb : b < 18446744073709551616) (w : World) (hm : minus a = false) :
    Calls Tryd.prog 25 #[.int .i64 0, .int .u64 a, .int .u64 b] w fun e w' => e = .returned (.int .u64 (whole 0 a b)) ∧ Below w.heap.size w w' := by
  have MA : ∀ w, Calls Tryd.prog 28 #[.int .u64 a] w fun e w' => e = .returned (.bool false) ∧ w' = w := by rw [← hm]; exact minus_any a
  have MB := minus_any b
  clear hm
  go_enter Tryd.func25, Tryd.ntmps25
  go_wp2_with (first
    | (go_at_call 28; with_reducible refine (MA _).mono ?_; rintro e w' ⟨rfl, hw⟩; subst hw)
    | (go_at_call 28; with_reducible refine (MB _).mono ?_; rintro e w' ⟨rfl, hw⟩; subst hw)
    | (go_at_call 48; with_reducible refine (divide_s a b ha0 ha hb0 hb _).mono ?_; rintro e w1 ⟨rfl, hb1⟩)
    | (go_at_call 48; with_reducible refine (divide_u a b ha0 ha hb0 hb _).mono ?_; rintro e w2 ⟨rfl, hb2⟩)
  )
  go_ret
  exact ⟨rfl, bt hb1 hb2⟩

set_option maxRecDepth 10000 in
set_option maxHeartbeats 1600000 in
theorem full_0t (a b : Int) (ha0 : 0 ≤ a) (ha : a < 18446744073709551616) (hb0 : 0 ≤ b) (hb : b < 18446744073709551616) (w : World) (hm : minus a = true) :
    Calls Tryd.prog 25 #[.int .i64 0, .int .u64 a, .int .u64 b] w fun e w' => e = .returned (.int .u64 (whole 0 a b)) ∧ Below w.heap.size w w' := by
  have MA : ∀ w, Calls Tryd.prog 28 #[.int .u64 a] w fun e w' => e = .returned (.bool true) ∧ w' = w := by rw [← hm]; exact minus_any a
  have MB := minus_any b
  clear hm
  go_enter Tryd.func25, Tryd.ntmps25
  go_wp2_with (first
    | (go_at_call 28; with_reducible refine (MA _).mono ?_; rintro e w' ⟨rfl, hw⟩; subst hw)
    | (go_at_call 28; with_reducible refine (MB _).mono ?_; rintro e w' ⟨rfl, hw⟩; subst hw)
    | (go_at_call 48; with_reducible refine (divide_s a b ha0 ha hb0 hb _).mono ?_; rintro e w1 ⟨rfl, hb1⟩)
    | (go_at_call 48; with_reducible refine (divide_u a b ha0 ha hb0 hb _).mono ?_; rintro e w2 ⟨rfl, hb2⟩)
  )
  go_ret
  exact ⟨rfl, bt hb1 hb2⟩

set_option maxRecDepth 10000 in
set_option maxHeartbeats 1600000 in
theorem full_1f (a b : Int) (ha0 : 0 ≤ a) (ha : a < 18446744073709551616) (hb0 : 0 ≤ b) (hb : b < 18446744073709551616) (w : World) (hm : minus a = false) :
    Calls Tryd.prog 25 #[.int .i64 1, .int .u64 a, .int .u64 b] w fun e w' => e = .returned (.int .u64 (whole 1 a b)) ∧ Below w.heap.size w w' := by
  have MA : ∀ w, Calls Tryd.prog 28 #[.int .u64 a] w fun e w' => e = .returned (.bool false) ∧ w' = w := by rw [← hm]; exact minus_any a
  have MB := minus_any b
  clear hm
  go_enter Tryd.func25, Tryd.ntmps25
  go_wp2_with (first
    | (go_at_call 28; with_reducible refine (MA _).mono ?_; rintro e w' ⟨rfl, hw⟩; subst hw)
    | (go_at_call 28; with_reducible refine (MB _).mono ?_; rintro e w' ⟨rfl, hw⟩; subst hw)
    | (go_at_call 48; with_reducible refine (divide_s a b ha0 ha hb0 hb _).mono ?_; rintro e w1 ⟨rfl, hb1⟩)
    | (go_at_call 48; with_reducible refine (divide_u a b ha0 ha hb0 hb _).mono ?_; rintro e w2 ⟨rfl, hb2⟩)
  )
  go_ret
  exact ⟨rfl, bt hb1 hb2⟩

set_option maxRecDepth 10000 in
set_option maxHeartbeats 1600000 in
theorem full_1t (a b : Int) (ha0 : 0 ≤ a) (ha : a < 18446744073709551616) (hb0 : 0 ≤ b) (hb : b < 18446744073709551616) (w : World) (hm : minus a = true) :
    Calls Tryd.prog 25 #[.int .i64 1, .int .u64 a, .int .u64 b] w fun e w' => e = .returned (.int .u64 (whole 1 a b)) ∧ Below w.heap.size w w' := by
  have MA : ∀ w, Calls Tryd.prog 28 #[.int .u64 a] w fun e w' => e = .returned (.bool true) ∧ w' = w := by rw [← hm]; exact minus_any a
  have MB := minus_any b
  clear hm
  go_enter Tryd.func25, Tryd.ntmps25
  go_wp2_with (first
    | (go_at_call 28; with_reducible refine (MA _).mono ?_; rintro e w' ⟨rfl, hw⟩; subst hw)
    | (go_at_call 28; with_reducible refine (MB _).mono ?_; rintro e w' ⟨rfl, hw⟩; subst hw)
    | (go_at_call 48; with_reducible refine (divide_s a b ha0 ha hb0 hb _).mono ?_; rintro e w1 ⟨rfl, hb1⟩)
    | (go_at_call 48; with_reducible refine (divide_u a b ha0 ha hb0 hb _).mono ?_; rintro e w2 ⟨rfl, hb2⟩)
  )
  go_ret
  exact ⟨rfl, bt hb1 hb2⟩

set_option maxRecDepth 10000 in
set_option maxHeartbeats 1600000 in
theorem full_4f (a b : Int) (ha0 : 0 ≤ a) (ha : a < 18446744073709551616) (hb0 : 0 ≤ b) (hb : b < 18446744073709551616) (w : World) (hm : minus a = false) :
    Calls Tryd.prog 25 #[.int .i64 4, .int .u64 a, .int .u64 b] w fun e w' => e = .returned (.int .u64 (whole 4 a b)) ∧ Below w.heap.size w w' := by
  have MA : ∀ w, Calls Tryd.prog 28 #[.int .u64 a] w fun e w' => e = .returned (.bool false) ∧ w' = w := by rw [← hm]; exact minus_any a
  have MB := minus_any b
  clear hm
  go_enter Tryd.func25, Tryd.ntmps25
  go_wp2_with (first
    | (go_at_call 28; with_reducible refine (MA _).mono ?_; rintro e w' ⟨rfl, hw⟩; subst hw)
    | (go_at_call 28; with_reducible refine (MB _).mono ?_; rintro e w' ⟨rfl, hw⟩; subst hw)
    | (go_at_call 48; with_reducible refine (divide_s a b ha0 ha hb0 hb _).mono ?_; rintro e w1 ⟨rfl, hb1⟩)
    | (go_at_call 48; with_reducible refine (divide_u a b ha0 ha hb0 hb _).mono ?_; rintro e w2 ⟨rfl, hb2⟩)
    | (go_at_call 49; with_reducible refine (yes_any _ _).mono ?_; rintro e w' ⟨rfl, hw⟩; subst hw)
  )
  go_ret
  exact ⟨rfl, bt hb1 hb2⟩

set_option maxRecDepth 10000 in
set_option maxHeartbeats 1600000 in
theorem full_4t (a b : Int) (ha0 : 0 ≤ a) (ha : a < 18446744073709551616) (hb0 : 0 ≤ b) (hb : b < 18446744073709551616) (w : World) (hm : minus a = true) :
    Calls Tryd.prog 25 #[.int .i64 4, .int .u64 a, .int .u64 b] w fun e w' => e = .returned (.int .u64 (whole 4 a b)) ∧ Below w.heap.size w w' := by
  have MA : ∀ w, Calls Tryd.prog 28 #[.int .u64 a] w fun e w' => e = .returned (.bool true) ∧ w' = w := by rw [← hm]; exact minus_any a
  have MB := minus_any b
  clear hm
  go_enter Tryd.func25, Tryd.ntmps25
  go_wp2_with (first
    | (go_at_call 28; with_reducible refine (MA _).mono ?_; rintro e w' ⟨rfl, hw⟩; subst hw)
    | (go_at_call 28; with_reducible refine (MB _).mono ?_; rintro e w' ⟨rfl, hw⟩; subst hw)
    | (go_at_call 48; with_reducible refine (divide_s a b ha0 ha hb0 hb _).mono ?_; rintro e w1 ⟨rfl, hb1⟩)
    | (go_at_call 48; with_reducible refine (divide_u a b ha0 ha hb0 hb _).mono ?_; rintro e w2 ⟨rfl, hb2⟩)
    | (go_at_call 49; with_reducible refine (yes_any _ _).mono ?_; rintro e w' ⟨rfl, hw⟩; subst hw)
  )
  go_ret
  exact ⟨rfl, bt hb1 hb2⟩

set_option maxRecDepth 10000 in
set_option maxHeartbeats 1600000 in
theorem full_10f (a b : Int) (ha0 : 0 ≤ a) (ha : a < 18446744073709551616) (hb0 : 0 ≤ b) (hb : b < 18446744073709551616) (w : World) (hm : minus a = false) :
    Calls Tryd.prog 25 #[.int .i64 10, .int .u64 a, .int .u64 b] w fun e w' => e = .returned (.int .u64 (whole 10 a b)) ∧ Below w.heap.size w w' := by
  have MA : ∀ w, Calls Tryd.prog 28 #[.int .u64 a] w fun e w' => e = .returned (.bool false) ∧ w' = w := by rw [← hm]; exact minus_any a
  have MB := minus_any b
  clear hm
  go_enter Tryd.func25, Tryd.ntmps25
  go_wp2_with (first
    | (go_at_call 28; with_reducible refine (MA _).mono ?_; rintro e w' ⟨rfl, hw⟩; subst hw)
    | (go_at_call 28; with_reducible refine (MB _).mono ?_; rintro e w' ⟨rfl, hw⟩; subst hw)
    | (go_at_call 48; with_reducible refine (divide_s a b ha0 ha hb0 hb _).mono ?_; rintro e w1 ⟨rfl, hb1⟩)
    | (go_at_call 48; with_reducible refine (divide_u a b ha0 ha hb0 hb _).mono ?_; rintro e w2 ⟨rfl, hb2⟩)
    | (go_at_call 51; with_reducible refine (wide_int a b ha0 ha hb0 hb _).mono ?_; rintro e w' ⟨rfl, hw⟩; subst hw)
  )
  go_ret
  exact ⟨rfl, bt hb1 hb2⟩

set_option maxRecDepth 10000 in
set_option maxHeartbeats 1600000 in
theorem full_10t (a b : Int) (ha0 : 0 ≤ a) (ha : a < 18446744073709551616) (hb0 : 0 ≤ b) (hb : b < 18446744073709551616) (w : World) (hm : minus a = true) :
    Calls Tryd.prog 25 #[.int .i64 10, .int .u64 a, .int .u64 b] w fun e w' => e = .returned (.int .u64 (whole 10 a b)) ∧ Below w.heap.size w w' := by
  have MA : ∀ w, Calls Tryd.prog 28 #[.int .u64 a] w fun e w' => e = .returned (.bool true) ∧ w' = w := by rw [← hm]; exact minus_any a
  have MB := minus_any b
  clear hm
  go_enter Tryd.func25, Tryd.ntmps25
  go_wp2_with (first
    | (go_at_call 28; with_reducible refine (MA _).mono ?_; rintro e w' ⟨rfl, hw⟩; subst hw)
    | (go_at_call 28; with_reducible refine (MB _).mono ?_; rintro e w' ⟨rfl, hw⟩; subst hw)
    | (go_at_call 48; with_reducible refine (divide_s a b ha0 ha hb0 hb _).mono ?_; rintro e w1 ⟨rfl, hb1⟩)
    | (go_at_call 48; with_reducible refine (divide_u a b ha0 ha hb0 hb _).mono ?_; rintro e w2 ⟨rfl, hb2⟩)
    | (go_at_call 51; with_reducible refine (wide_int a b ha0 ha hb0 hb _).mono ?_; rintro e w' ⟨rfl, hw⟩; subst hw)
  )
  go_ret
  exact ⟨rfl, bt hb1 hb2⟩

set_option maxRecDepth 10000 in
set_option maxHeartbeats 1600000 in
theorem full_14f (a b : Int) (ha0 : 0 ≤ a) (ha : a < 18446744073709551616) (hb0 : 0 ≤ b) (hb : b < 18446744073709551616) (w : World) (hm : minus a = false) :
    Calls Tryd.prog 25 #[.int .i64 14, .int .u64 a, .int .u64 b] w fun e w' => e = .returned (.int .u64 (whole 14 a b)) ∧ Below w.heap.size w w' := by
  have MA : ∀ w, Calls Tryd.prog 28 #[.int .u64 a] w fun e w' => e = .returned (.bool false) ∧ w' = w := by rw [← hm]; exact minus_any a
  have MB := minus_any b
  clear hm
  go_enter Tryd.func25, Tryd.ntmps25
  go_wp2_with (first
    | (go_at_call 28; with_reducible refine (MA _).mono ?_; rintro e w' ⟨rfl, hw⟩; subst hw)
    | (go_at_call 28; with_reducible refine (MB _).mono ?_; rintro e w' ⟨rfl, hw⟩; subst hw)
    | (go_at_call 48; with_reducible refine (divide_s a b ha0 ha hb0 hb _).mono ?_; rintro e w1 ⟨rfl, hb1⟩)
    | (go_at_call 48; with_reducible refine (divide_u a b ha0 ha hb0 hb _).mono ?_; rintro e w2 ⟨rfl, hb2⟩)
  )
  go_ret
  exact ⟨rfl, bt hb1 hb2⟩

set_option maxRecDepth 10000 in
set_option maxHeartbeats 1600000 in
theorem full_14t (a b : Int) (ha0 : 0 ≤ a) (ha : a < 18446744073709551616) (hb0 : 0 ≤ b) (hb : b < 18446744073709551616) (w : World) (hm : minus a = true) :
    Calls Tryd.prog 25 #[.int .i64 14, .int .u64 a, .int .u64 b] w fun e w' => e = .returned (.int .u64 (whole 14 a b)) ∧ Below w.heap.size w w' := by
  have MA : ∀ w, Calls Tryd.prog 28 #[.int .u64 a] w fun e w' => e = .returned (.bool true) ∧ w' = w := by rw [← hm]; exact minus_any a
  have MB := minus_any b
  clear hm
  go_enter Tryd.func25, Tryd.ntmps25
  go_wp2_with (first
    | (go_at_call 28; with_reducible refine (MA _).mono ?_; rintro e w' ⟨rfl, hw⟩; subst hw)
    | (go_at_call 28; with_reducible refine (MB _).mono ?_; rintro e w' ⟨rfl, hw⟩; subst hw)
    | (go_at_call 48; with_reducible refine (divide_s a b ha0 ha hb0 hb _).mono ?_; rintro e w1 ⟨rfl, hb1⟩)
    | (go_at_call 48; with_reducible refine (divide_u a b ha0 ha hb0 hb _).mono ?_; rintro e w2 ⟨rfl, hb2⟩)
  )
  go_ret
  exact ⟨rfl, bt hb1 hb2⟩

set_option maxRecDepth 10000 in
set_option maxHeartbeats 1600000 in
theorem full_15f (a b : Int) (ha0 : 0 ≤ a) (ha : a < 18446744073709551616) (hb0 : 0 ≤ b) (hb : b < 18446744073709551616) (w : World) (hm : minus a = false) :
    Calls Tryd.prog 25 #[.int .i64 15, .int .u64 a, .int .u64 b] w fun e w' => e = .returned (.int .u64 (whole 15 a b)) ∧ Below w.heap.size w w' := by
  have MA : ∀ w, Calls Tryd.prog 28 #[.int .u64 a] w fun e w' => e = .returned (.bool false) ∧ w' = w := by rw [← hm]; exact minus_any a
  have MB := minus_any b
  clear hm
  go_enter Tryd.func25, Tryd.ntmps25
  go_wp2_with (first
    | (go_at_call 28; with_reducible refine (MA _).mono ?_; rintro e w' ⟨rfl, hw⟩; subst hw)
    | (go_at_call 28; with_reducible refine (MB _).mono ?_; rintro e w' ⟨rfl, hw⟩; subst hw)
    | (go_at_call 48; with_reducible refine (divide_s a b ha0 ha hb0 hb _).mono ?_; rintro e w1 ⟨rfl, hb1⟩)
    | (go_at_call 48; with_reducible refine (divide_u a b ha0 ha hb0 hb _).mono ?_; rintro e w2 ⟨rfl, hb2⟩)
  )
  go_ret
  exact ⟨rfl, bt hb1 hb2⟩

set_option maxRecDepth 10000 in
set_option maxHeartbeats 1600000 in
theorem full_15t (a b : Int) (ha0 : 0 ≤ a) (ha : a < 18446744073709551616) (hb0 : 0 ≤ b) (hb : b < 18446744073709551616) (w : World) (hm : minus a = true) :
    Calls Tryd.prog 25 #[.int .i64 15, .int .u64 a, .int .u64 b] w fun e w' => e = .returned (.int .u64 (whole 15 a b)) ∧ Below w.heap.size w w' := by
  have MA : ∀ w, Calls Tryd.prog 28 #[.int .u64 a] w fun e w' => e = .returned (.bool true) ∧ w' = w := by rw [← hm]; exact minus_any a
  have MB := minus_any b
  clear hm
  go_enter Tryd.func25, Tryd.ntmps25
  go_wp2_with (first
    | (go_at_call 28; with_reducible refine (MA _).mono ?_; rintro e w' ⟨rfl, hw⟩; subst hw)
    | (go_at_call 28; with_reducible refine (MB _).mono ?_; rintro e w' ⟨rfl, hw⟩; subst hw)
    | (go_at_call 48; with_reducible refine (divide_s a b ha0 ha hb0 hb _).mono ?_; rintro e w1 ⟨rfl, hb1⟩)
    | (go_at_call 48; with_reducible refine (divide_u a b ha0 ha hb0 hb _).mono ?_; rintro e w2 ⟨rfl, hb2⟩)
  )
  go_ret
  exact ⟨rfl, bt hb1 hb2⟩

set_option maxRecDepth 10000 in
set_option maxHeartbeats 1600000 in
theorem full_16f (a b : Int) (ha0 : 0 ≤ a) (ha : a < 18446744073709551616) (hb0 : 0 ≤ b) (hb : b < 18446744073709551616) (w : World) (hm : minus a = false) :
    Calls Tryd.prog 25 #[.int .i64 16, .int .u64 a, .int .u64 b] w fun e w' => e = .returned (.int .u64 (whole 16 a b)) ∧ Below w.heap.size w w' := by
  have MA : ∀ w, Calls Tryd.prog 28 #[.int .u64 a] w fun e w' => e = .returned (.bool false) ∧ w' = w := by rw [← hm]; exact minus_any a
  have MB := minus_any b
  clear hm
  go_enter Tryd.func25, Tryd.ntmps25
  go_wp2_with (first
    | (go_at_call 28; with_reducible refine (MA _).mono ?_; rintro e w' ⟨rfl, hw⟩; subst hw)
    | (go_at_call 28; with_reducible refine (MB _).mono ?_; rintro e w' ⟨rfl, hw⟩; subst hw)
    | (go_at_call 48; with_reducible refine (divide_s a b ha0 ha hb0 hb _).mono ?_; rintro e w1 ⟨rfl, hb1⟩)
    | (go_at_call 48; with_reducible refine (divide_u a b ha0 ha hb0 hb _).mono ?_; rintro e w2 ⟨rfl, hb2⟩)
  )
  go_ret
  exact ⟨rfl, bt hb1 hb2⟩

set_option maxRecDepth 10000 in
set_option maxHeartbeats 1600000 in
theorem full_16t (a b : Int) (ha0 : 0 ≤ a) (ha : a < 18446744073709551616) (hb0 : 0 ≤ b) (hb : b < 18446744073709551616) (w : World) (hm : minus a = true) :
    Calls Tryd.prog 25 #[.int .i64 16, .int .u64 a, .int .u64 b] w fun e w' => e = .returned (.int .u64 (whole 16 a b)) ∧ Below w.heap.size w w' := by
  have MA : ∀ w, Calls Tryd.prog 28 #[.int .u64 a] w fun e w' => e = .returned (.bool true) ∧ w' = w := by rw [← hm]; exact minus_any a
  have MB := minus_any b
  clear hm
  go_enter Tryd.func25, Tryd.ntmps25
  go_wp2_with (first
    | (go_at_call 28; with_reducible refine (MA _).mono ?_; rintro e w' ⟨rfl, hw⟩; subst hw)
    | (go_at_call 28; with_reducible refine (MB _).mono ?_; rintro e w' ⟨rfl, hw⟩; subst hw)
    | (go_at_call 48; with_reducible refine (divide_s a b ha0 ha hb0 hb _).mono ?_; rintro e w1 ⟨rfl, hb1⟩)
    | (go_at_call 48; with_reducible refine (divide_u a b ha0 ha hb0 hb _).mono ?_; rintro e w2 ⟨rfl, hb2⟩)
  )
  go_ret
  exact ⟨rfl, bt hb1 hb2⟩

set_option maxRecDepth 10000 in
set_option maxHeartbeats 1600000 in
theorem full_17f (a b : Int) (ha0 : 0 ≤ a) (ha : a < 18446744073709551616) (hb0 : 0 ≤ b) (hb : b < 18446744073709551616) (w : World) (hm : minus a = false) :
    Calls Tryd.prog 25 #[.int .i64 17, .int .u64 a, .int .u64 b] w fun e w' => e = .returned (.int .u64 (whole 17 a b)) ∧ Below w.heap.size w w' := by
  have MA : ∀ w, Calls Tryd.prog 28 #[.int .u64 a] w fun e w' => e = .returned (.bool false) ∧ w' = w := by rw [← hm]; exact minus_any a
  have MB := minus_any b
  clear hm
  go_enter Tryd.func25, Tryd.ntmps25
  go_wp2_with (first
    | (go_at_call 28; with_reducible refine (MA _).mono ?_; rintro e w' ⟨rfl, hw⟩; subst hw)
    | (go_at_call 28; with_reducible refine (MB _).mono ?_; rintro e w' ⟨rfl, hw⟩; subst hw)
    | (go_at_call 48; with_reducible refine (divide_s a b ha0 ha hb0 hb _).mono ?_; rintro e w1 ⟨rfl, hb1⟩)
    | (go_at_call 48; with_reducible refine (divide_u a b ha0 ha hb0 hb _).mono ?_; rintro e w2 ⟨rfl, hb2⟩)
  )
  go_ret
  exact ⟨rfl, bt hb1 hb2⟩

set_option maxRecDepth 10000 in
set_option maxHeartbeats 1600000 in
theorem full_17t (a b : Int) (ha0 : 0 ≤ a) (ha : a < 18446744073709551616) (hb0 : 0 ≤ b) (hb : b < 18446744073709551616) (w : World) (hm : minus a = true) :
    Calls Tryd.prog 25 #[.int .i64 17, .int .u64 a, .int .u64 b] w fun e w' => e = .returned (.int .u64 (whole 17 a b)) ∧ Below w.heap.size w w' := by
  have MA : ∀ w, Calls Tryd.prog 28 #[.int .u64 a] w fun e w' => e = .returned (.bool true) ∧ w' = w := by rw [← hm]; exact minus_any a
  have MB := minus_any b
  clear hm
  go_enter Tryd.func25, Tryd.ntmps25
  go_wp2_with (first
    | (go_at_call 28; with_reducible refine (MA _).mono ?_; rintro e w' ⟨rfl, hw⟩; subst hw)
    | (go_at_call 28; with_reducible refine (MB _).mono ?_; rintro e w' ⟨rfl, hw⟩; subst hw)
    | (go_at_call 48; with_reducible refine (divide_s a b ha0 ha hb0 hb _).mono ?_; rintro e w1 ⟨rfl, hb1⟩)
    | (go_at_call 48; with_reducible refine (divide_u a b ha0 ha hb0 hb _).mono ?_; rintro e w2 ⟨rfl, hb2⟩)
  )
  go_ret
  exact ⟨rfl, bt hb1 hb2⟩

set_option maxRecDepth 10000 in
set_option maxHeartbeats 1600000 in
theorem full_2f (a b : Int) (ha0 : 0 ≤ a) (ha : a < 18446744073709551616) (hb0 : 0 ≤ b) (hb : b < 18446744073709551616) (w : World) (hm : minus a = false) :
    Calls Tryd.prog 25 #[.int .i64 2, .int .u64 a, .int .u64 b] w fun e w' => e = .returned (.int .u64 (whole 2 a b)) ∧ Below w.heap.size w w' := by
  have MA : ∀ w, Calls Tryd.prog 28 #[.int .u64 a] w fun e w' => e = .returned (.bool false) ∧ w' = w := by rw [← hm]; exact minus_any a
  have MB := minus_any b
  clear hm
  go_enter Tryd.func25, Tryd.ntmps25
  go_wp2_with (first
    | (go_at_call 28; with_reducible refine (MA _).mono ?_; rintro e w' ⟨rfl, hw⟩; subst hw)
    | (go_at_call 28; with_reducible refine (MB _).mono ?_; rintro e w' ⟨rfl, hw⟩; subst hw)
    | (go_at_call 48; with_reducible refine (divide_s a b ha0 ha hb0 hb _).mono ?_; rintro e w1 ⟨rfl, hb1⟩)
    | (go_at_call 48; with_reducible refine (divide_u a b ha0 ha hb0 hb _).mono ?_; rintro e w2 ⟨rfl, hb2⟩)
    | (go_at_call 27; with_reducible refine (shift_up_int _ _ ha0 ha (by omega) (by omega) _).mono ?_; rintro e w3 ⟨rfl, hb3⟩)
  )
  go_ret
  exact ⟨rfl, bt (bt hb1 hb2) hb3⟩

set_option maxRecDepth 10000 in
set_option maxHeartbeats 1600000 in
theorem full_2t (a b : Int) (ha0 : 0 ≤ a) (ha : a < 18446744073709551616) (hb0 : 0 ≤ b) (hb : b < 18446744073709551616) (w : World) (hm : minus a = true) :
    Calls Tryd.prog 25 #[.int .i64 2, .int .u64 a, .int .u64 b] w fun e w' => e = .returned (.int .u64 (whole 2 a b)) ∧ Below w.heap.size w w' := by
  have MA : ∀ w, Calls Tryd.prog 28 #[.int .u64 a] w fun e w' => e = .returned (.bool true) ∧ w' = w := by rw [← hm]; exact minus_any a
  have MB := minus_any b
  clear hm
  go_enter Tryd.func25, Tryd.ntmps25
  go_wp2_with (first
    | (go_at_call 28; with_reducible refine (MA _).mono ?_; rintro e w' ⟨rfl, hw⟩; subst hw)
    | (go_at_call 28; with_reducible refine (MB _).mono ?_; rintro e w' ⟨rfl, hw⟩; subst hw)
    | (go_at_call 48; with_reducible refine (divide_s a b ha0 ha hb0 hb _).mono ?_; rintro e w1 ⟨rfl, hb1⟩)
    | (go_at_call 48; with_reducible refine (divide_u a b ha0 ha hb0 hb _).mono ?_; rintro e w2 ⟨rfl, hb2⟩)
    | (go_at_call 27; with_reducible refine (shift_up_int _ _ ha0 ha (by omega) (by omega) _).mono ?_; rintro e w3 ⟨rfl, hb3⟩)
  )
  go_ret
  exact ⟨rfl, bt (bt hb1 hb2) hb3⟩

set_option maxRecDepth 10000 in
set_option maxHeartbeats 1600000 in
theorem full_6f (a b : Int) (ha0 : 0 ≤ a) (ha : a < 18446744073709551616) (hb0 : 0 ≤ b) (hb : b < 18446744073709551616) (w : World) (hm : minus a = false) :
    Calls Tryd.prog 25 #[.int .i64 6, .int .u64 a, .int .u64 b] w fun e w' => e = .returned (.int .u64 (whole 6 a b)) ∧ Below w.heap.size w w' := by
  have MA : ∀ w, Calls Tryd.prog 28 #[.int .u64 a] w fun e w' => e = .returned (.bool false) ∧ w' = w := by rw [← hm]; exact minus_any a
  have MB := minus_any b
  clear hm
  go_enter Tryd.func25, Tryd.ntmps25
  go_wp2_with (first
    | (go_at_call 28; with_reducible refine (MA _).mono ?_; rintro e w' ⟨rfl, hw⟩; subst hw)
    | (go_at_call 28; with_reducible refine (MB _).mono ?_; rintro e w' ⟨rfl, hw⟩; subst hw)
    | (go_at_call 48; with_reducible refine (divide_s a b ha0 ha hb0 hb _).mono ?_; rintro e w1 ⟨rfl, hb1⟩)
    | (go_at_call 48; with_reducible refine (divide_u a b ha0 ha hb0 hb _).mono ?_; rintro e w2 ⟨rfl, hb2⟩)
    | (go_at_call 27; with_reducible refine (shift_down_int _ _ ha0 ha (by omega) (by omega) _).mono ?_; rintro e w3 ⟨rfl, hb3⟩)
  )
  go_ret
  exact ⟨rfl, bt (bt hb1 hb2) hb3⟩

set_option maxRecDepth 10000 in
set_option maxHeartbeats 1600000 in
theorem full_6t (a b : Int) (ha0 : 0 ≤ a) (ha : a < 18446744073709551616) (hb0 : 0 ≤ b) (hb : b < 18446744073709551616) (w : World) (hm : minus a = true) :
    Calls Tryd.prog 25 #[.int .i64 6, .int .u64 a, .int .u64 b] w fun e w' => e = .returned (.int .u64 (whole 6 a b)) ∧ Below w.heap.size w w' := by
  have MA : ∀ w, Calls Tryd.prog 28 #[.int .u64 a] w fun e w' => e = .returned (.bool true) ∧ w' = w := by rw [← hm]; exact minus_any a
  have MB := minus_any b
  clear hm
  go_enter Tryd.func25, Tryd.ntmps25
  go_wp2_with (first
    | (go_at_call 28; with_reducible refine (MA _).mono ?_; rintro e w' ⟨rfl, hw⟩; subst hw)
    | (go_at_call 28; with_reducible refine (MB _).mono ?_; rintro e w' ⟨rfl, hw⟩; subst hw)
    | (go_at_call 48; with_reducible refine (divide_s a b ha0 ha hb0 hb _).mono ?_; rintro e w1 ⟨rfl, hb1⟩)
    | (go_at_call 48; with_reducible refine (divide_u a b ha0 ha hb0 hb _).mono ?_; rintro e w2 ⟨rfl, hb2⟩)
    | (go_at_call 27; with_reducible refine (shift_down_int _ _ ha0 ha (by omega) (by omega) _).mono ?_; rintro e w3 ⟨rfl, hb3⟩)
  )
  go_ret
  exact ⟨rfl, bt (bt hb1 hb2) hb3⟩

set_option maxRecDepth 10000 in
set_option maxHeartbeats 1600000 in
theorem full_5f (a b : Int) (ha0 : 0 ≤ a) (ha : a < 18446744073709551616) (hb0 : 0 ≤ b) (hb : b < 18446744073709551616) (w : World) (hm : minus a = false) :
    Calls Tryd.prog 25 #[.int .i64 5, .int .u64 a, .int .u64 b] w fun e w' => e = .returned (.int .u64 (whole 5 a b)) ∧ Below w.heap.size w w' := by
  have MA : ∀ w, Calls Tryd.prog 28 #[.int .u64 a] w fun e w' => e = .returned (.bool false) ∧ w' = w := by rw [← hm]; exact minus_any a
  have MB := minus_any b
  clear hm
  go_enter Tryd.func25, Tryd.ntmps25
  go_wp2_with (first
    | (go_at_call 28; with_reducible refine (MA _).mono ?_; rintro e w' ⟨rfl, hw⟩; subst hw)
    | (go_at_call 28; with_reducible refine (MB _).mono ?_; rintro e w' ⟨rfl, hw⟩; subst hw)
    | (go_at_call 48; with_reducible refine (divide_s a b ha0 ha hb0 hb _).mono ?_; rintro e w1 ⟨rfl, hb1⟩)
    | (go_at_call 48; with_reducible refine (divide_u a b ha0 ha hb0 hb _).mono ?_; rintro e w2 ⟨rfl, hb2⟩)
    | (go_at_call 50; with_reducible refine (both_int a b ha0 ha hb0 hb _).1.mono ?_; rintro e w3 ⟨rfl, hb3⟩)
  )
  go_ret
  exact ⟨rfl, bt (bt hb1 hb2) hb3⟩

set_option maxRecDepth 10000 in
set_option maxHeartbeats 1600000 in
theorem full_5t (a b : Int) (ha0 : 0 ≤ a) (ha : a < 18446744073709551616) (hb0 : 0 ≤ b) (hb : b < 18446744073709551616) (w : World) (hm : minus a = true) :
    Calls Tryd.prog 25 #[.int .i64 5, .int .u64 a, .int .u64 b] w fun e w' => e = .returned (.int .u64 (whole 5 a b)) ∧ Below w.heap.size w w' := by
  have MA : ∀ w, Calls Tryd.prog 28 #[.int .u64 a] w fun e w' => e = .returned (.bool true) ∧ w' = w := by rw [← hm]; exact minus_any a
  have MB := minus_any b
  clear hm
  go_enter Tryd.func25, Tryd.ntmps25
  go_wp2_with (first
    | (go_at_call 28; with_reducible refine (MA _).mono ?_; rintro e w' ⟨rfl, hw⟩; subst hw)
    | (go_at_call 28; with_reducible refine (MB _).mono ?_; rintro e w' ⟨rfl, hw⟩; subst hw)
    | (go_at_call 48; with_reducible refine (divide_s a b ha0 ha hb0 hb _).mono ?_; rintro e w1 ⟨rfl, hb1⟩)
    | (go_at_call 48; with_reducible refine (divide_u a b ha0 ha hb0 hb _).mono ?_; rintro e w2 ⟨rfl, hb2⟩)
    | (go_at_call 50; with_reducible refine (both_int a b ha0 ha hb0 hb _).1.mono ?_; rintro e w3 ⟨rfl, hb3⟩)
  )
  go_ret
  exact ⟨rfl, bt (bt hb1 hb2) hb3⟩

set_option maxRecDepth 10000 in
set_option maxHeartbeats 1600000 in
theorem full_8f (a b : Int) (ha0 : 0 ≤ a) (ha : a < 18446744073709551616) (hb0 : 0 ≤ b) (hb : b < 18446744073709551616) (w : World) (hm : minus a = false) :
    Calls Tryd.prog 25 #[.int .i64 8, .int .u64 a, .int .u64 b] w fun e w' => e = .returned (.int .u64 (whole 8 a b)) ∧ Below w.heap.size w w' := by
  have MA : ∀ w, Calls Tryd.prog 28 #[.int .u64 a] w fun e w' => e = .returned (.bool false) ∧ w' = w := by rw [← hm]; exact minus_any a
  have MB := minus_any b
  clear hm
  go_enter Tryd.func25, Tryd.ntmps25
  go_wp2_with (first
    | (go_at_call 28; with_reducible refine (MA _).mono ?_; rintro e w' ⟨rfl, hw⟩; subst hw)
    | (go_at_call 28; with_reducible refine (MB _).mono ?_; rintro e w' ⟨rfl, hw⟩; subst hw)
    | (go_at_call 48; with_reducible refine (divide_s a b ha0 ha hb0 hb _).mono ?_; rintro e w1 ⟨rfl, hb1⟩)
    | (go_at_call 48; with_reducible refine (divide_u a b ha0 ha hb0 hb _).mono ?_; rintro e w2 ⟨rfl, hb2⟩)
    | (go_at_call 50; with_reducible refine (both_int a b ha0 ha hb0 hb _).2.1.mono ?_; rintro e w3 ⟨rfl, hb3⟩)
  )
  go_ret
  exact ⟨rfl, bt (bt hb1 hb2) hb3⟩

set_option maxRecDepth 10000 in
set_option maxHeartbeats 1600000 in
theorem full_8t (a b : Int) (ha0 : 0 ≤ a) (ha : a < 18446744073709551616) (hb0 : 0 ≤ b) (hb : b < 18446744073709551616) (w : World) (hm : minus a = true) :
    Calls Tryd.prog 25 #[.int .i64 8, .int .u64 a, .int .u64 b] w fun e w' => e = .returned (.int .u64 (whole 8 a b)) ∧ Below w.heap.size w w' := by
  have MA : ∀ w, Calls Tryd.prog 28 #[.int .u64 a] w fun e w' => e = .returned (.bool true) ∧ w' = w := by rw [← hm]; exact minus_any a
  have MB := minus_any b
  clear hm
  go_enter Tryd.func25, Tryd.ntmps25
  go_wp2_with (first
    | (go_at_call 28; with_reducible refine (MA _).mono ?_; rintro e w' ⟨rfl, hw⟩; subst hw)
    | (go_at_call 28; with_reducible refine (MB _).mono ?_; rintro e w' ⟨rfl, hw⟩; subst hw)
    | (go_at_call 48; with_reducible refine (divide_s a b ha0 ha hb0 hb _).mono ?_; rintro e w1 ⟨rfl, hb1⟩)
    | (go_at_call 48; with_reducible refine (divide_u a b ha0 ha hb0 hb _).mono ?_; rintro e w2 ⟨rfl, hb2⟩)
    | (go_at_call 50; with_reducible refine (both_int a b ha0 ha hb0 hb _).2.1.mono ?_; rintro e w3 ⟨rfl, hb3⟩)
  )
  go_ret
  exact ⟨rfl, bt (bt hb1 hb2) hb3⟩

set_option maxRecDepth 10000 in
set_option maxHeartbeats 1600000 in
theorem full_9f (a b : Int) (ha0 : 0 ≤ a) (ha : a < 18446744073709551616) (hb0 : 0 ≤ b) (hb : b < 18446744073709551616) (w : World) (hm : minus a = false) :
    Calls Tryd.prog 25 #[.int .i64 9, .int .u64 a, .int .u64 b] w fun e w' => e = .returned (.int .u64 (whole 9 a b)) ∧ Below w.heap.size w w' := by
  have MA : ∀ w, Calls Tryd.prog 28 #[.int .u64 a] w fun e w' => e = .returned (.bool false) ∧ w' = w := by rw [← hm]; exact minus_any a
  have MB := minus_any b
  clear hm
  go_enter Tryd.func25, Tryd.ntmps25
  go_wp2_with (first
    | (go_at_call 28; with_reducible refine (MA _).mono ?_; rintro e w' ⟨rfl, hw⟩; subst hw)
    | (go_at_call 28; with_reducible refine (MB _).mono ?_; rintro e w' ⟨rfl, hw⟩; subst hw)
    | (go_at_call 48; with_reducible refine (divide_s a b ha0 ha hb0 hb _).mono ?_; rintro e w1 ⟨rfl, hb1⟩)
    | (go_at_call 48; with_reducible refine (divide_u a b ha0 ha hb0 hb _).mono ?_; rintro e w2 ⟨rfl, hb2⟩)
    | (go_at_call 50; with_reducible refine (both_int a b ha0 ha hb0 hb _).2.2.mono ?_; rintro e w3 ⟨rfl, hb3⟩)
  )
  go_ret
  exact ⟨rfl, bt (bt hb1 hb2) hb3⟩

set_option maxRecDepth 10000 in
set_option maxHeartbeats 1600000 in
theorem full_9t (a b : Int) (ha0 : 0 ≤ a) (ha : a < 18446744073709551616) (hb0 : 0 ≤ b) (hb : b < 18446744073709551616) (w : World) (hm : minus a = true) :
    Calls Tryd.prog 25 #[.int .i64 9, .int .u64 a, .int .u64 b] w fun e w' => e = .returned (.int .u64 (whole 9 a b)) ∧ Below w.heap.size w w' := by
  have MA : ∀ w, Calls Tryd.prog 28 #[.int .u64 a] w fun e w' => e = .returned (.bool true) ∧ w' = w := by rw [← hm]; exact minus_any a
  have MB := minus_any b
  clear hm
  go_enter Tryd.func25, Tryd.ntmps25
  go_wp2_with (first
    | (go_at_call 28; with_reducible refine (MA _).mono ?_; rintro e w' ⟨rfl, hw⟩; subst hw)
    | (go_at_call 28; with_reducible refine (MB _).mono ?_; rintro e w' ⟨rfl, hw⟩; subst hw)
    | (go_at_call 48; with_reducible refine (divide_s a b ha0 ha hb0 hb _).mono ?_; rintro e w1 ⟨rfl, hb1⟩)
    | (go_at_call 48; with_reducible refine (divide_u a b ha0 ha hb0 hb _).mono ?_; rintro e w2 ⟨rfl, hb2⟩)
    | (go_at_call 50; with_reducible refine (both_int a b ha0 ha hb0 hb _).2.2.mono ?_; rintro e w3 ⟨rfl, hb3⟩)
  )
  go_ret
  exact ⟨rfl, bt (bt hb1 hb2) hb3⟩

set_option maxRecDepth 10000 in
set_option maxHeartbeats 1600000 in
theorem full_11f (a b : Int) (ha0 : 0 ≤ a) (ha : a < 18446744073709551616) (hb0 : 0 ≤ b) (hb : b < 18446744073709551616) (w : World) (hm : minus a = false) :
    Calls Tryd.prog 25 #[.int .i64 11, .int .u64 a, .int .u64 b] w fun e w' => e = .returned (.int .u64 (whole 11 a b)) ∧ Below w.heap.size w w' := by
  have MA : ∀ w, Calls Tryd.prog 28 #[.int .u64 a] w fun e w' => e = .returned (.bool false) ∧ w' = w := by rw [← hm]; exact minus_any a
  have MB := minus_any b
  clear hm
  go_enter Tryd.func25, Tryd.ntmps25
  go_wp2_with (first
    | (go_at_call 28; with_reducible refine (MA _).mono ?_; rintro e w' ⟨rfl, hw⟩; subst hw)
    | (go_at_call 28; with_reducible refine (MB _).mono ?_; rintro e w' ⟨rfl, hw⟩; subst hw)
    | (go_at_call 48; with_reducible refine (divide_s a b ha0 ha hb0 hb _).mono ?_; rintro e w1 ⟨rfl, hb1⟩)
    | (go_at_call 48; with_reducible refine (divide_u a b ha0 ha hb0 hb _).mono ?_; rintro e w2 ⟨rfl, hb2⟩)
    | (go_at_call 52; with_reducible refine (high_ss a b ha0 ha hb0 hb _).mono ?_; rintro e w' ⟨rfl, hw⟩; subst hw)
  )
  go_ret
  exact ⟨rfl, bt hb1 hb2⟩

set_option maxRecDepth 10000 in
set_option maxHeartbeats 1600000 in
theorem full_11t (a b : Int) (ha0 : 0 ≤ a) (ha : a < 18446744073709551616) (hb0 : 0 ≤ b) (hb : b < 18446744073709551616) (w : World) (hm : minus a = true) :
    Calls Tryd.prog 25 #[.int .i64 11, .int .u64 a, .int .u64 b] w fun e w' => e = .returned (.int .u64 (whole 11 a b)) ∧ Below w.heap.size w w' := by
  have MA : ∀ w, Calls Tryd.prog 28 #[.int .u64 a] w fun e w' => e = .returned (.bool true) ∧ w' = w := by rw [← hm]; exact minus_any a
  have MB := minus_any b
  clear hm
  go_enter Tryd.func25, Tryd.ntmps25
  go_wp2_with (first
    | (go_at_call 28; with_reducible refine (MA _).mono ?_; rintro e w' ⟨rfl, hw⟩; subst hw)
    | (go_at_call 28; with_reducible refine (MB _).mono ?_; rintro e w' ⟨rfl, hw⟩; subst hw)
    | (go_at_call 48; with_reducible refine (divide_s a b ha0 ha hb0 hb _).mono ?_; rintro e w1 ⟨rfl, hb1⟩)
    | (go_at_call 48; with_reducible refine (divide_u a b ha0 ha hb0 hb _).mono ?_; rintro e w2 ⟨rfl, hb2⟩)
    | (go_at_call 52; with_reducible refine (high_ss a b ha0 ha hb0 hb _).mono ?_; rintro e w' ⟨rfl, hw⟩; subst hw)
  )
  go_ret
  exact ⟨rfl, bt hb1 hb2⟩

set_option maxRecDepth 10000 in
set_option maxHeartbeats 1600000 in
theorem full_12f (a b : Int) (ha0 : 0 ≤ a) (ha : a < 18446744073709551616) (hb0 : 0 ≤ b) (hb : b < 18446744073709551616) (w : World) (hm : minus a = false) :
    Calls Tryd.prog 25 #[.int .i64 12, .int .u64 a, .int .u64 b] w fun e w' => e = .returned (.int .u64 (whole 12 a b)) ∧ Below w.heap.size w w' := by
  have MA : ∀ w, Calls Tryd.prog 28 #[.int .u64 a] w fun e w' => e = .returned (.bool false) ∧ w' = w := by rw [← hm]; exact minus_any a
  have MB := minus_any b
  clear hm
  go_enter Tryd.func25, Tryd.ntmps25
  go_wp2_with (first
    | (go_at_call 28; with_reducible refine (MA _).mono ?_; rintro e w' ⟨rfl, hw⟩; subst hw)
    | (go_at_call 28; with_reducible refine (MB _).mono ?_; rintro e w' ⟨rfl, hw⟩; subst hw)
    | (go_at_call 48; with_reducible refine (divide_s a b ha0 ha hb0 hb _).mono ?_; rintro e w1 ⟨rfl, hb1⟩)
    | (go_at_call 48; with_reducible refine (divide_u a b ha0 ha hb0 hb _).mono ?_; rintro e w2 ⟨rfl, hb2⟩)
    | (go_at_call 52; with_reducible refine (high_su a b ha0 ha hb0 hb _).mono ?_; rintro e w' ⟨rfl, hw⟩; subst hw)
  )
  go_ret
  exact ⟨rfl, bt hb1 hb2⟩

set_option maxRecDepth 10000 in
set_option maxHeartbeats 1600000 in
theorem full_12t (a b : Int) (ha0 : 0 ≤ a) (ha : a < 18446744073709551616) (hb0 : 0 ≤ b) (hb : b < 18446744073709551616) (w : World) (hm : minus a = true) :
    Calls Tryd.prog 25 #[.int .i64 12, .int .u64 a, .int .u64 b] w fun e w' => e = .returned (.int .u64 (whole 12 a b)) ∧ Below w.heap.size w w' := by
  have MA : ∀ w, Calls Tryd.prog 28 #[.int .u64 a] w fun e w' => e = .returned (.bool true) ∧ w' = w := by rw [← hm]; exact minus_any a
  have MB := minus_any b
  clear hm
  go_enter Tryd.func25, Tryd.ntmps25
  go_wp2_with (first
    | (go_at_call 28; with_reducible refine (MA _).mono ?_; rintro e w' ⟨rfl, hw⟩; subst hw)
    | (go_at_call 28; with_reducible refine (MB _).mono ?_; rintro e w' ⟨rfl, hw⟩; subst hw)
    | (go_at_call 48; with_reducible refine (divide_s a b ha0 ha hb0 hb _).mono ?_; rintro e w1 ⟨rfl, hb1⟩)
    | (go_at_call 48; with_reducible refine (divide_u a b ha0 ha hb0 hb _).mono ?_; rintro e w2 ⟨rfl, hb2⟩)
    | (go_at_call 52; with_reducible refine (high_su a b ha0 ha hb0 hb _).mono ?_; rintro e w' ⟨rfl, hw⟩; subst hw)
  )
  go_ret
  exact ⟨rfl, bt hb1 hb2⟩

set_option maxRecDepth 10000 in
set_option maxHeartbeats 1600000 in
theorem full_13f (a b : Int) (ha0 : 0 ≤ a) (ha : a < 18446744073709551616) (hb0 : 0 ≤ b) (hb : b < 18446744073709551616) (w : World) (hm : minus a = false) :
    Calls Tryd.prog 25 #[.int .i64 13, .int .u64 a, .int .u64 b] w fun e w' => e = .returned (.int .u64 (whole 13 a b)) ∧ Below w.heap.size w w' := by
  have MA : ∀ w, Calls Tryd.prog 28 #[.int .u64 a] w fun e w' => e = .returned (.bool false) ∧ w' = w := by rw [← hm]; exact minus_any a
  have MB := minus_any b
  clear hm
  go_enter Tryd.func25, Tryd.ntmps25
  go_wp2_with (first
    | (go_at_call 28; with_reducible refine (MA _).mono ?_; rintro e w' ⟨rfl, hw⟩; subst hw)
    | (go_at_call 28; with_reducible refine (MB _).mono ?_; rintro e w' ⟨rfl, hw⟩; subst hw)
    | (go_at_call 48; with_reducible refine (divide_s a b ha0 ha hb0 hb _).mono ?_; rintro e w1 ⟨rfl, hb1⟩)
    | (go_at_call 48; with_reducible refine (divide_u a b ha0 ha hb0 hb _).mono ?_; rintro e w2 ⟨rfl, hb2⟩)
    | (go_at_call 52; with_reducible refine (high_uu a b ha0 ha hb0 hb _).mono ?_; rintro e w' ⟨rfl, hw⟩; subst hw)
  )
  go_ret
  exact ⟨rfl, bt hb1 hb2⟩

set_option maxRecDepth 10000 in
set_option maxHeartbeats 1600000 in
theorem full_13t (a b : Int) (ha0 : 0 ≤ a) (ha : a < 18446744073709551616) (hb0 : 0 ≤ b) (hb : b < 18446744073709551616) (w : World) (hm : minus a = true) :
    Calls Tryd.prog 25 #[.int .i64 13, .int .u64 a, .int .u64 b] w fun e w' => e = .returned (.int .u64 (whole 13 a b)) ∧ Below w.heap.size w w' := by
  have MA : ∀ w, Calls Tryd.prog 28 #[.int .u64 a] w fun e w' => e = .returned (.bool true) ∧ w' = w := by rw [← hm]; exact minus_any a
  have MB := minus_any b
  clear hm
  go_enter Tryd.func25, Tryd.ntmps25
  go_wp2_with (first
    | (go_at_call 28; with_reducible refine (MA _).mono ?_; rintro e w' ⟨rfl, hw⟩; subst hw)
    | (go_at_call 28; with_reducible refine (MB _).mono ?_; rintro e w' ⟨rfl, hw⟩; subst hw)
    | (go_at_call 48; with_reducible refine (divide_s a b ha0 ha hb0 hb _).mono ?_; rintro e w1 ⟨rfl, hb1⟩)
    | (go_at_call 48; with_reducible refine (divide_u a b ha0 ha hb0 hb _).mono ?_; rintro e w2 ⟨rfl, hb2⟩)
    | (go_at_call 52; with_reducible refine (high_uu a b ha0 ha hb0 hb _).mono ?_; rintro e w' ⟨rfl, hw⟩; subst hw)
  )
  go_ret
  exact ⟨rfl, bt hb1 hb2⟩

theorem sra_plain (a b : Int) (ha0 : 0 ≤ a) (ha : a < 9223372036854775808) : whole 7 a b = a / 2 ^ (b % 64).toNat := by
  show IntKind.u64.wrap (wrap64 a / 2 ^ (b % 64).toNat) = _
  have h1 : wrap64 a = a := by unfold wrap64; omega
  rw [h1, IntKind.wrap_u64]
  have h2 := Int.ediv_nonneg ha0 (Int.le_of_lt (pow_pos' (b % 64).toNat))
  have h3 := Int.ediv_le_self (2 ^ (b % 64).toNat) ha0
  omega

set_option maxRecDepth 10000 in
set_option maxHeartbeats 1600000 in
theorem full_7f (a b : Int) (ha0 : 0 ≤ a) (ha : a < 18446744073709551616) (hb0 : 0 ≤ b) (hb : b < 18446744073709551616) (w : World) (hm : minus a = false) :
    Calls Tryd.prog 25 #[.int .i64 7, .int .u64 a, .int .u64 b] w fun e w' => e = .returned (.int .u64 (whole 7 a b)) ∧ Below w.heap.size w w' := by
  have MA : ∀ w, Calls Tryd.prog 28 #[.int .u64 a] w fun e w' => e = .returned (.bool false) ∧ w' = w := by rw [← hm]; exact minus_any a
  have H : Hid (_) := sra_plain a b ha0 (by have := of_decide_eq_false hm; omega)
  clear hm
  go_enter Tryd.func25, Tryd.ntmps25
  go_wp2_with (first
    | (go_at_call 28; with_reducible refine (MA _).mono ?_; rintro e w' ⟨rfl, hw⟩; subst hw)
    | (go_at_call 48; with_reducible refine (divide_s a b ha0 ha hb0 hb _).mono ?_; rintro e w1 ⟨rfl, hb1⟩)
    | (go_at_call 48; with_reducible refine (divide_u a b ha0 ha hb0 hb _).mono ?_; rintro e w2 ⟨rfl, hb2⟩)
    | (go_at_call 27; with_reducible refine (shift_down_int _ _ ha0 ha (by omega) (by omega) _).mono ?_; rintro e w3 ⟨rfl, hb3⟩))
  go_ret
  exact ⟨ret_int H.out.symm, bt (bt hb1 hb2) hb3⟩

set_option maxRecDepth 10000 in
set_option maxHeartbeats 1600000 in
theorem full_7t (a b : Int) (ha0 : 0 ≤ a) (ha : a < 18446744073709551616) (hb0 : 0 ≤ b) (hb : b < 18446744073709551616) (w : World) (hm : minus a = true) :
    Calls Tryd.prog 25 #[.int .i64 7, .int .u64 a, .int .u64 b] w fun e w' => e = .returned (.int .u64 (whole 7 a b)) ∧ Below w.heap.size w w' := by
  have MA : ∀ w, Calls Tryd.prog 28 #[.int .u64 a] w fun e w' => e = .returned (.bool true) ∧ w' = w := by rw [← hm]; exact minus_any a
  have hg : 9223372036854775808 ≤ a := of_decide_eq_true hm
  clear hm
  go_enter Tryd.func25, Tryd.ntmps25
  go_wp2_with (first
    | (go_at_call 28; with_reducible refine (MA _).mono ?_; rintro e w' ⟨rfl, hw⟩; subst hw)
    | (go_at_call 48; with_reducible refine (divide_s a b ha0 ha hb0 hb _).mono ?_; rintro e w1 ⟨rfl, hb1⟩)
    | (go_at_call 48; with_reducible refine (divide_u a b ha0 ha hb0 hb _).mono ?_; rintro e w2 ⟨rfl, hb2⟩)
    | (go_at_call 27; with_reducible refine (shift_sign_int _ _ hg ha (by omega) (by omega) _).mono ?_; rintro e w3 ⟨rfl, hb3⟩))
  go_ret
  exact ⟨rfl, bt (bt hb1 hb2) hb3⟩

set_option maxRecDepth 10000 in
set_option maxHeartbeats 1600000 in
theorem full_3 (a b : Int) (ha0 : 0 ≤ a) (ha : a < 18446744073709551616) (hb0 : 0 ≤ b) (hb : b < 18446744073709551616) (w : World) :
    Calls Tryd.prog 25 #[.int .i64 3, .int .u64 a, .int .u64 b] w fun e w' => e = .returned (.int .u64 (whole 3 a b)) ∧ Below w.heap.size w w' := by
  have MA := minus_any a
  have MB := minus_any b
  have H : Hid (whole 3 a b = one ((minus a && !minus b) || (minus a == minus b && decide (a < b)))) := by
    show one (decide (wrap64 a < wrap64 b)) = _
    congr 1
    rw [Bool.eq_iff_iff]
    rcases signs a ha0 ha with ⟨m1, s1, e1, l1⟩ | ⟨m1, s1, e1, l1⟩ <;> rcases signs b hb0 hb with ⟨m2, s2, e2, l2⟩ | ⟨m2, s2, e2, l2⟩ <;> rw [m1, m2, s1, s2, e1, e2] <;> simp <;> omega
  by_cases hab : a < b
  all_goals
    cases hma : minus a <;> cases hmb : minus b
    all_goals
      rw [hma] at MA
      rw [hmb] at MB
      have H1 : Hid (_) := hma
      have H2 : Hid (_) := hmb
      clear hma hmb
      go_enter Tryd.func25, Tryd.ntmps25
      go_wp2_with (first
        | (go_at_call 28; with_reducible refine (MA _).mono ?_; rintro e w' ⟨rfl, hw⟩; subst hw)
        | (go_at_call 28; with_reducible refine (MB _).mono ?_; rintro e w' ⟨rfl, hw⟩; subst hw)
        | (go_at_call 48; with_reducible refine (divide_s a b ha0 ha hb0 hb _).mono ?_; rintro e w1 ⟨rfl, hb1⟩)
        | (go_at_call 48; with_reducible refine (divide_u a b ha0 ha hb0 hb _).mono ?_; rintro e w2 ⟨rfl, hb2⟩)
        | (go_at_call 49; with_reducible refine (yes_any _ _).mono ?_; rintro e w' ⟨rfl, hw⟩; subst hw))
      go_ret
      refine ⟨ret_int ?_, bt hb1 hb2⟩
      rw [H.out, H1.out, H2.out]
      simp [hab]

theorem full_any (o : Nat) (a b : Int) (ha0 : 0 ≤ a) (ha : a < 18446744073709551616) (hb0 : 0 ≤ b) (hb : b < 18446744073709551616) (w : World) (ho : o < 18) :
    Calls Tryd.prog 25 #[.int .i64 o, .int .u64 a, .int .u64 b] w fun e w' => e = .returned (.int .u64 (whole o a b)) ∧ Below w.heap.size w w' := by
  cases hm : minus a
  · match o, ho with
    | 0, _ => exact full_0f a b ha0 ha hb0 hb w hm
    | 1, _ => exact full_1f a b ha0 ha hb0 hb w hm
    | 2, _ => exact full_2f a b ha0 ha hb0 hb w hm
    | 3, _ => exact full_3 a b ha0 ha hb0 hb w
    | 4, _ => exact full_4f a b ha0 ha hb0 hb w hm
    | 5, _ => exact full_5f a b ha0 ha hb0 hb w hm
    | 6, _ => exact full_6f a b ha0 ha hb0 hb w hm
    | 7, _ => exact full_7f a b ha0 ha hb0 hb w hm
    | 8, _ => exact full_8f a b ha0 ha hb0 hb w hm
    | 9, _ => exact full_9f a b ha0 ha hb0 hb w hm
    | 10, _ => exact full_10f a b ha0 ha hb0 hb w hm
    | 11, _ => exact full_11f a b ha0 ha hb0 hb w hm
    | 12, _ => exact full_12f a b ha0 ha hb0 hb w hm
    | 13, _ => exact full_13f a b ha0 ha hb0 hb w hm
    | 14, _ => exact full_14f a b ha0 ha hb0 hb w hm
    | 15, _ => exact full_15f a b ha0 ha hb0 hb w hm
    | 16, _ => exact full_16f a b ha0 ha hb0 hb w hm
    | 17, _ => exact full_17f a b ha0 ha hb0 hb w hm
    | k + 18, h => exact absurd h (by omega)
  · match o, ho with
    | 0, _ => exact full_0t a b ha0 ha hb0 hb w hm
    | 1, _ => exact full_1t a b ha0 ha hb0 hb w hm
    | 2, _ => exact full_2t a b ha0 ha hb0 hb w hm
    | 3, _ => exact full_3 a b ha0 ha hb0 hb w
    | 4, _ => exact full_4t a b ha0 ha hb0 hb w hm
    | 5, _ => exact full_5t a b ha0 ha hb0 hb w hm
    | 6, _ => exact full_6t a b ha0 ha hb0 hb w hm
    | 7, _ => exact full_7t a b ha0 ha hb0 hb w hm
    | 8, _ => exact full_8t a b ha0 ha hb0 hb w hm
    | 9, _ => exact full_9t a b ha0 ha hb0 hb w hm
    | 10, _ => exact full_10t a b ha0 ha hb0 hb w hm
    | 11, _ => exact full_11t a b ha0 ha hb0 hb w hm
    | 12, _ => exact full_12t a b ha0 ha hb0 hb w hm
    | 13, _ => exact full_13t a b ha0 ha hb0 hb w hm
    | 14, _ => exact full_14t a b ha0 ha hb0 hb w hm
    | 15, _ => exact full_15t a b ha0 ha hb0 hb w hm
    | 16, _ => exact full_16t a b ha0 ha hb0 hb w hm
    | 17, _ => exact full_17t a b ha0 ha hb0 hb w hm
    | k + 18, h => exact absurd h (by omega)
end Go.Proofs.YtmfmakkiefgogaaDoor
