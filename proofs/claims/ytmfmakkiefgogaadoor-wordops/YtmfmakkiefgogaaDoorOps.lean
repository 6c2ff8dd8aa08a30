/-
  Layer 5: the document's Do, of any operation and any two numbers of 64 bits: it answers what the program's Do answers; and the walk of WordOps. Conditions of the latter: the names' variable holds the names.
-/
import Derived.Test.YtmfmakkiefgogaaDoorB7
import Derived.Test.YtmfmakkiefgogaaDoorHalves
namespace Go.Proofs.YtmfmakkiefgogaaDoor
open Go.RowKit
set_option linter.unusedVariables false

theorem ext_mod (a : Int) : ext a 32 % 4294967296 = a % 4294967296 := by rw [ext_is]; split <;> omega
theorem wrap_range (a : Int) : 0 ≤ IntKind.u64.wrap a ∧ IntKind.u64.wrap a < 18446744073709551616 := by rw [IntKind.wrap_u64]; omega
theorem qs_range (a b : Int) : 0 ≤ qs a b ∧ qs a b < 18446744073709551616 := by
  unfold qs; split
  · omega
  · exact wrap_range _
theorem qu_range (a b : Int) (ha0 : 0 ≤ a) (ha : a < 18446744073709551616) (hb0 : 0 ≤ b) : 0 ≤ qu a b := by
  unfold qu; split
  · omega
  · exact Int.ediv_nonneg ha0 hb0
theorem rs_nonneg (a b : Int) (ha0 : 0 ≤ a) : 0 ≤ rs a b := by
  unfold rs; split
  · exact ha0
  · exact (wrap_range _).1
theorem ru_nonneg (a b : Int) (ha0 : 0 ≤ a) : 0 ≤ ru a b := by
  unfold ru; split
  · exact ha0
  · exact Int.emod_nonneg _ (by omega)

set_option maxRecDepth 10000 in
set_option maxHeartbeats 1600000 in
theorem ref_low (o : Nat) (a b : Int) (ha0 : 0 ≤ a) (ha : a < 18446744073709551616) (hb0 : 0 ≤ b) (hb : b < 18446744073709551616) (w : World) (ho : o < 18) :
    Calls Tryd.prog 11 #[.int .i64 o, .int .u64 a, .int .u64 b] w fun e w' => e = .returned (.int .u64 (op o a b)) ∧ Below w.heap.size w w' := by
  have H : Hid (op o a b = whole o a b) := if_neg (by omega)
  have F := full_any o a b ha0 ha hb0 hb w ho
  go_enter Tryd.func11, Tryd.ntmps11
  go_wp2_with (go_at_call 25; with_reducible refine F.mono ?_; rintro e w1 ⟨rfl, hb1⟩)
  go_ret
  exact ⟨ret_int H.out.symm, hb1⟩

set_option maxRecDepth 10000 in
set_option maxHeartbeats 1600000 in
theorem ref_18 (a b : Int) (ha0 : 0 ≤ a) (ha : a < 18446744073709551616) (hb0 : 0 ≤ b) (hb : b < 18446744073709551616) (w : World) :
    Calls Tryd.prog 11 #[.int .i64 18, .int .u64 a, .int .u64 b] w fun e w' => e = .returned (.int .u64 (op 18 a b)) ∧ Below w.heap.size w w' := by
  have hx := ext_range a
  have hy := ext_range b
  have ex := ext_mod a
  have ey := ext_mod b
  have H : Hid (op 18 a b = ext (IntKind.u64.wrap (ext a 32 + ext b 32)) 32) := half_low 18 (by omega) (by omega) ex.symm ey.symm
  have LA := low_any a ha0
  have LB := low_any b hb0
  clear ex ey
  generalize ext a 32 = x at *
  generalize ext b 32 = y at *
  go_enter Tryd.func11, Tryd.ntmps11
  go_wp2_with (first
    | (go_at_call 26; with_reducible refine (LA _).mono ?_; rintro e w' ⟨rfl, hw⟩; subst hw)
    | (go_at_call 26; with_reducible refine (LB _).mono ?_; rintro e w' ⟨rfl, hw⟩; subst hw)
    | (go_at_call 26; with_reducible refine (low_any _ (wrap_range _).1 _).mono ?_; rintro e w' ⟨rfl, hw⟩; subst hw))
  go_ret
  exact ⟨ret_int H.out.symm, Below.refl _ _⟩

set_option maxRecDepth 10000 in
set_option maxHeartbeats 1600000 in
theorem ref_19 (a b : Int) (ha0 : 0 ≤ a) (ha : a < 18446744073709551616) (hb0 : 0 ≤ b) (hb : b < 18446744073709551616) (w : World) :
    Calls Tryd.prog 11 #[.int .i64 19, .int .u64 a, .int .u64 b] w fun e w' => e = .returned (.int .u64 (op 19 a b)) ∧ Below w.heap.size w w' := by
  have hx := ext_range a
  have hy := ext_range b
  have ex := ext_mod a
  have ey := ext_mod b
  have H : Hid (op 19 a b = ext (IntKind.u64.wrap (ext a 32 - ext b 32)) 32) := half_low 19 (by omega) (by omega) ex.symm ey.symm
  have LA := low_any a ha0
  have LB := low_any b hb0
  clear ex ey
  generalize ext a 32 = x at *
  generalize ext b 32 = y at *
  go_enter Tryd.func11, Tryd.ntmps11
  go_wp2_with (first
    | (go_at_call 26; with_reducible refine (LA _).mono ?_; rintro e w' ⟨rfl, hw⟩; subst hw)
    | (go_at_call 26; with_reducible refine (LB _).mono ?_; rintro e w' ⟨rfl, hw⟩; subst hw)
    | (go_at_call 26; with_reducible refine (low_any _ (wrap_range _).1 _).mono ?_; rintro e w' ⟨rfl, hw⟩; subst hw))
  go_ret
  exact ⟨ret_int H.out.symm, Below.refl _ _⟩

set_option maxRecDepth 10000 in
set_option maxHeartbeats 1600000 in
theorem ref_20 (a b : Int) (ha0 : 0 ≤ a) (ha : a < 18446744073709551616) (hb0 : 0 ≤ b) (hb : b < 18446744073709551616) (w : World) :
    Calls Tryd.prog 11 #[.int .i64 20, .int .u64 a, .int .u64 b] w fun e w' => e = .returned (.int .u64 (op 20 a b)) ∧ Below w.heap.size w w' := by
  have hx := ext_range a
  have hy := ext_range b
  have ex := ext_mod a
  have ey := ext_mod b
  have H : Hid (op 20 a b = ext (IntKind.u64.wrap (a % 4294967296 * 2 ^ (b % 32).toNat)) 32) := half_low 20 (by omega) (by omega) (a' := a % 4294967296) (b' := b) (by omega) rfl
  have LA := low_any a ha0
  have LB := low_any b hb0
  clear ex ey
  generalize ext a 32 = x at *
  generalize ext b 32 = y at *
  go_enter Tryd.func11, Tryd.ntmps11
  go_wp2_with (first
    | (go_at_call 26; with_reducible refine (LA _).mono ?_; rintro e w' ⟨rfl, hw⟩; subst hw)
    | (go_at_call 26; with_reducible refine (LB _).mono ?_; rintro e w' ⟨rfl, hw⟩; subst hw)
    | (go_at_call 27; with_reducible refine (shift_up_int _ _ (by omega) (by omega) (by omega) (by omega) _).mono ?_; rintro e w3 ⟨rfl, hb3⟩)
    | (go_at_call 26; with_reducible refine (low_any _ (wrap_range _).1 _).mono ?_; rintro e w' ⟨rfl, hw⟩; subst hw))
  go_ret
  exact ⟨ret_int H.out.symm, hb3⟩

set_option maxRecDepth 10000 in
set_option maxHeartbeats 1600000 in
theorem ref_21 (a b : Int) (ha0 : 0 ≤ a) (ha : a < 18446744073709551616) (hb0 : 0 ≤ b) (hb : b < 18446744073709551616) (w : World) :
    Calls Tryd.prog 11 #[.int .i64 21, .int .u64 a, .int .u64 b] w fun e w' => e = .returned (.int .u64 (op 21 a b)) ∧ Below w.heap.size w w' := by
  have hx := ext_range a
  have hy := ext_range b
  have ex := ext_mod a
  have ey := ext_mod b
  have H : Hid (op 21 a b = ext (a % 4294967296 / 2 ^ (b % 32).toNat) 32) := rfl
  have LA := low_any a ha0
  have LB := low_any b hb0
  clear ex ey
  generalize ext a 32 = x at *
  generalize ext b 32 = y at *
  go_enter Tryd.func11, Tryd.ntmps11
  go_wp2_with (first
    | (go_at_call 26; with_reducible refine (LA _).mono ?_; rintro e w' ⟨rfl, hw⟩; subst hw)
    | (go_at_call 26; with_reducible refine (LB _).mono ?_; rintro e w' ⟨rfl, hw⟩; subst hw)
    | (go_at_call 27; with_reducible refine (shift_down_int _ _ (by omega) (by omega) (by omega) (by omega) _).mono ?_; rintro e w3 ⟨rfl, hb3⟩)
    | (go_at_call 26; with_reducible refine (low_any _ (Int.ediv_nonneg (by omega) (Int.le_of_lt (pow_pos' _))) _).mono ?_; rintro e w' ⟨rfl, hw⟩; subst hw))
  go_ret
  exact ⟨ret_int H.out.symm, hb3⟩

theorem sra_plain32 (x b : Int) (ha0 : 0 ≤ x) (ha : x < 9223372036854775808) : IntKind.u64.wrap (wrap64 x / 2 ^ (b % 32).toNat) = x / 2 ^ (b % 32).toNat := by
  have h1 : wrap64 x = x := by unfold wrap64; omega
  rw [h1, IntKind.wrap_u64]
  have h2 := Int.ediv_nonneg ha0 (Int.le_of_lt (pow_pos' (b % 32).toNat))
  have h3 := Int.ediv_le_self (2 ^ (b % 32).toNat) ha0
  omega

set_option maxRecDepth 10000 in
set_option maxHeartbeats 1600000 in
theorem ref_22f (a b : Int) (ha0 : 0 ≤ a) (ha : a < 18446744073709551616) (hb0 : 0 ≤ b) (hb : b < 18446744073709551616) (w : World) (hm : minus (ext a 32) = false) :
    Calls Tryd.prog 11 #[.int .i64 22, .int .u64 a, .int .u64 b] w fun e w' => e = .returned (.int .u64 (op 22 a b)) ∧ Below w.heap.size w w' := by
  have hx := ext_range a
  have hy := ext_range b
  have ex := ext_mod a
  have ey := ext_mod b
  have MX : ∀ w, Calls Tryd.prog 28 #[.int .u64 (ext a 32)] w fun e w' => e = .returned (.bool false) ∧ w' = w := by rw [← hm]; exact minus_any _
  have H : Hid (op 22 a b = ext (ext a 32 / 2 ^ (b % 32).toNat) 32) := by show ext (IntKind.u64.wrap (wrap64 (ext a 32) / 2 ^ (b % 32).toNat)) 32 = _; rw [sra_plain32 _ _ hx.1 (by have := of_decide_eq_false hm; omega)]
  have LA := low_any a ha0
  have LB := low_any b hb0
  clear ex ey hm
  generalize ext a 32 = x at *
  generalize ext b 32 = y at *
  go_enter Tryd.func11, Tryd.ntmps11
  go_wp2_with (first
    | (go_at_call 26; with_reducible refine (LA _).mono ?_; rintro e w' ⟨rfl, hw⟩; subst hw)
    | (go_at_call 26; with_reducible refine (LB _).mono ?_; rintro e w' ⟨rfl, hw⟩; subst hw)
    | (go_at_call 28; with_reducible refine (MX _).mono ?_; rintro e w' ⟨rfl, hw⟩; subst hw)
    | (go_at_call 27; with_reducible refine (shift_down_int _ _ hx.1 hx.2 (by omega) (by omega) _).mono ?_; rintro e w3 ⟨rfl, hb3⟩)
    | (go_at_call 26; with_reducible refine (low_any _ (Int.ediv_nonneg hx.1 (Int.le_of_lt (pow_pos' _))) _).mono ?_; rintro e w' ⟨rfl, hw⟩; subst hw))
  go_ret
  exact ⟨ret_int H.out.symm, hb3⟩

set_option maxRecDepth 10000 in
set_option maxHeartbeats 1600000 in
theorem ref_22t (a b : Int) (ha0 : 0 ≤ a) (ha : a < 18446744073709551616) (hb0 : 0 ≤ b) (hb : b < 18446744073709551616) (w : World) (hm : minus (ext a 32) = true) :
    Calls Tryd.prog 11 #[.int .i64 22, .int .u64 a, .int .u64 b] w fun e w' => e = .returned (.int .u64 (op 22 a b)) ∧ Below w.heap.size w w' := by
  have hx := ext_range a
  have hy := ext_range b
  have ex := ext_mod a
  have ey := ext_mod b
  have MX : ∀ w, Calls Tryd.prog 28 #[.int .u64 (ext a 32)] w fun e w' => e = .returned (.bool true) ∧ w' = w := by rw [← hm]; exact minus_any _
  have hg : 9223372036854775808 ≤ ext a 32 := of_decide_eq_true hm
  clear hm
  have H : Hid (op 22 a b = ext (IntKind.u64.wrap (wrap64 (ext a 32) / 2 ^ (b % 32).toNat)) 32) := rfl
  have LA := low_any a ha0
  have LB := low_any b hb0
  clear ex ey
  generalize ext a 32 = x at *
  generalize ext b 32 = y at *
  go_enter Tryd.func11, Tryd.ntmps11
  go_wp2_with (first
    | (go_at_call 26; with_reducible refine (LA _).mono ?_; rintro e w' ⟨rfl, hw⟩; subst hw)
    | (go_at_call 26; with_reducible refine (LB _).mono ?_; rintro e w' ⟨rfl, hw⟩; subst hw)
    | (go_at_call 28; with_reducible refine (MX _).mono ?_; rintro e w' ⟨rfl, hw⟩; subst hw)
    | (go_at_call 27; with_reducible refine (shift_sign_int _ _ hg hx.2 (by omega) (by omega) _).mono ?_; rintro e w3 ⟨rfl, hb3⟩)
    | (go_at_call 26; with_reducible refine (low_any _ (wrap_range _).1 _).mono ?_; rintro e w' ⟨rfl, hw⟩; subst hw))
  go_ret
  exact ⟨ret_int H.out.symm, hb3⟩

set_option maxRecDepth 10000 in
set_option maxHeartbeats 1600000 in
theorem ref_23 (a b : Int) (ha0 : 0 ≤ a) (ha : a < 18446744073709551616) (hb0 : 0 ≤ b) (hb : b < 18446744073709551616) (w : World) :
    Calls Tryd.prog 11 #[.int .i64 23, .int .u64 a, .int .u64 b] w fun e w' => e = .returned (.int .u64 (op 23 a b)) ∧ Below w.heap.size w w' := by
  have hx := ext_range a
  have hy := ext_range b
  have ex := ext_mod a
  have ey := ext_mod b
  have H : Hid (op 23 a b = ext (IntKind.u64.wrap (ext a 32 * ext b 32)) 32) := half_low 23 (by omega) (by omega) ex.symm ey.symm
  have LA := low_any a ha0
  have LB := low_any b hb0
  clear ex ey
  generalize ext a 32 = x at *
  generalize ext b 32 = y at *
  go_enter Tryd.func11, Tryd.ntmps11
  go_wp2_with (first
    | (go_at_call 26; with_reducible refine (LA _).mono ?_; rintro e w' ⟨rfl, hw⟩; subst hw)
    | (go_at_call 26; with_reducible refine (LB _).mono ?_; rintro e w' ⟨rfl, hw⟩; subst hw)
    | (go_at_call 26; with_reducible refine (low_any _ (wrap_range _).1 _).mono ?_; rintro e w' ⟨rfl, hw⟩; subst hw))
  go_ret
  exact ⟨ret_int H.out.symm, Below.refl _ _⟩

set_option maxRecDepth 10000 in
set_option maxHeartbeats 1600000 in
theorem ref_24 (a b : Int) (ha0 : 0 ≤ a) (ha : a < 18446744073709551616) (hb0 : 0 ≤ b) (hb : b < 18446744073709551616) (w : World) :
    Calls Tryd.prog 11 #[.int .i64 24, .int .u64 a, .int .u64 b] w fun e w' => e = .returned (.int .u64 (op 24 a b)) ∧ Below w.heap.size w w' := by
  have hx := ext_range a
  have hy := ext_range b
  have ex := ext_mod a
  have ey := ext_mod b
  have F : ∀ w, Calls Tryd.prog 25 #[.int .i64 14, .int .u64 (ext a 32), .int .u64 (ext b 32)] w fun e w' => e = .returned (.int .u64 (qs (ext a 32) (ext b 32))) ∧ Below w.heap.size w w' := fun w => full_any 14 _ _ hx.1 hx.2 hy.1 hy.2 w (by omega)
  have H : Hid (op 24 a b = ext (qs (ext a 32) (ext b 32)) 32) := rfl
  have LA := low_any a ha0
  have LB := low_any b hb0
  clear ex ey
  generalize ext a 32 = x at *
  generalize ext b 32 = y at *
  go_enter Tryd.func11, Tryd.ntmps11
  go_wp2_with (first
    | (go_at_call 26; with_reducible refine (LA _).mono ?_; rintro e w' ⟨rfl, hw⟩; subst hw)
    | (go_at_call 26; with_reducible refine (LB _).mono ?_; rintro e w' ⟨rfl, hw⟩; subst hw)
    | (go_at_call 25; with_reducible refine (F _).mono ?_; rintro e w3 ⟨rfl, hb3⟩)
    | (go_at_call 26; with_reducible refine (low_any _ (qs_range _ _).1 _).mono ?_; rintro e w' ⟨rfl, hw⟩; subst hw))
  go_ret
  exact ⟨ret_int H.out.symm, hb3⟩

set_option maxRecDepth 10000 in
set_option maxHeartbeats 1600000 in
theorem ref_25 (a b : Int) (ha0 : 0 ≤ a) (ha : a < 18446744073709551616) (hb0 : 0 ≤ b) (hb : b < 18446744073709551616) (w : World) :
    Calls Tryd.prog 11 #[.int .i64 25, .int .u64 a, .int .u64 b] w fun e w' => e = .returned (.int .u64 (op 25 a b)) ∧ Below w.heap.size w w' := by
  have hx := ext_range a
  have hy := ext_range b
  have ex := ext_mod a
  have ey := ext_mod b
  have F : ∀ w, Calls Tryd.prog 25 #[.int .i64 15, .int .u64 (a % 4294967296), .int .u64 (b % 4294967296)] w fun e w' => e = .returned (.int .u64 (qu (a % 4294967296) (b % 4294967296))) ∧ Below w.heap.size w w' := fun w => full_any 15 _ _ (by omega) (by omega) (by omega) (by omega) w (by omega)
  have H : Hid (op 25 a b = ext (qu (a % 4294967296) (b % 4294967296)) 32) := rfl
  have LA := low_any a ha0
  have LB := low_any b hb0
  clear ex ey
  generalize ext a 32 = x at *
  generalize ext b 32 = y at *
  go_enter Tryd.func11, Tryd.ntmps11
  go_wp2_with (first
    | (go_at_call 26; with_reducible refine (LA _).mono ?_; rintro e w' ⟨rfl, hw⟩; subst hw)
    | (go_at_call 26; with_reducible refine (LB _).mono ?_; rintro e w' ⟨rfl, hw⟩; subst hw)
    | (go_at_call 25; with_reducible refine (F _).mono ?_; rintro e w3 ⟨rfl, hb3⟩)
    | (go_at_call 26; with_reducible refine (low_any _ (qu_range _ _ (by omega) (by omega) (by omega)) _).mono ?_; rintro e w' ⟨rfl, hw⟩; subst hw))
  go_ret
  exact ⟨ret_int H.out.symm, hb3⟩

set_option maxRecDepth 10000 in
set_option maxHeartbeats 1600000 in
theorem ref_26 (a b : Int) (ha0 : 0 ≤ a) (ha : a < 18446744073709551616) (hb0 : 0 ≤ b) (hb : b < 18446744073709551616) (w : World) :
    Calls Tryd.prog 11 #[.int .i64 26, .int .u64 a, .int .u64 b] w fun e w' => e = .returned (.int .u64 (op 26 a b)) ∧ Below w.heap.size w w' := by
  have hx := ext_range a
  have hy := ext_range b
  have ex := ext_mod a
  have ey := ext_mod b
  have F : ∀ w, Calls Tryd.prog 25 #[.int .i64 16, .int .u64 (ext a 32), .int .u64 (ext b 32)] w fun e w' => e = .returned (.int .u64 (rs (ext a 32) (ext b 32))) ∧ Below w.heap.size w w' := fun w => full_any 16 _ _ hx.1 hx.2 hy.1 hy.2 w (by omega)
  have H : Hid (op 26 a b = ext (rs (ext a 32) (ext b 32)) 32) := rfl
  have LA := low_any a ha0
  have LB := low_any b hb0
  clear ex ey
  generalize ext a 32 = x at *
  generalize ext b 32 = y at *
  go_enter Tryd.func11, Tryd.ntmps11
  go_wp2_with (first
    | (go_at_call 26; with_reducible refine (LA _).mono ?_; rintro e w' ⟨rfl, hw⟩; subst hw)
    | (go_at_call 26; with_reducible refine (LB _).mono ?_; rintro e w' ⟨rfl, hw⟩; subst hw)
    | (go_at_call 25; with_reducible refine (F _).mono ?_; rintro e w3 ⟨rfl, hb3⟩)
    | (go_at_call 26; with_reducible refine (low_any _ (rs_nonneg _ _ hx.1) _).mono ?_; rintro e w' ⟨rfl, hw⟩; subst hw))
  go_ret
  exact ⟨ret_int H.out.symm, hb3⟩

set_option maxRecDepth 10000 in
set_option maxHeartbeats 1600000 in
theorem ref_27 (a b : Int) (ha0 : 0 ≤ a) (ha : a < 18446744073709551616) (hb0 : 0 ≤ b) (hb : b < 18446744073709551616) (w : World) :
    Calls Tryd.prog 11 #[.int .i64 27, .int .u64 a, .int .u64 b] w fun e w' => e = .returned (.int .u64 (op 27 a b)) ∧ Below w.heap.size w w' := by
  have hx := ext_range a
  have hy := ext_range b
  have ex := ext_mod a
  have ey := ext_mod b
  have F : ∀ w, Calls Tryd.prog 25 #[.int .i64 17, .int .u64 (a % 4294967296), .int .u64 (b % 4294967296)] w fun e w' => e = .returned (.int .u64 (ru (a % 4294967296) (b % 4294967296))) ∧ Below w.heap.size w w' := fun w => full_any 17 _ _ (by omega) (by omega) (by omega) (by omega) w (by omega)
  have H : Hid (op 27 a b = ext (ru (a % 4294967296) (b % 4294967296)) 32) := rfl
  have LA := low_any a ha0
  have LB := low_any b hb0
  clear ex ey
  generalize ext a 32 = x at *
  generalize ext b 32 = y at *
  go_enter Tryd.func11, Tryd.ntmps11
  go_wp2_with (first
    | (go_at_call 26; with_reducible refine (LA _).mono ?_; rintro e w' ⟨rfl, hw⟩; subst hw)
    | (go_at_call 26; with_reducible refine (LB _).mono ?_; rintro e w' ⟨rfl, hw⟩; subst hw)
    | (go_at_call 25; with_reducible refine (F _).mono ?_; rintro e w3 ⟨rfl, hb3⟩)
    | (go_at_call 26; with_reducible refine (low_any _ (ru_nonneg _ _ (by omega)) _).mono ?_; rintro e w' ⟨rfl, hw⟩; subst hw))
  go_ret
  exact ⟨ret_int H.out.symm, hb3⟩

theorem ref_any (o : Nat) (a b : Int) (ha0 : 0 ≤ a) (ha : a < 18446744073709551616) (hb0 : 0 ≤ b) (hb : b < 18446744073709551616) (w : World) (ho : o < 28) :
    Calls Tryd.prog 11 #[.int .i64 o, .int .u64 a, .int .u64 b] w fun e w' => e = .returned (.int .u64 (op o a b)) ∧ Below w.heap.size w w' := by
  by_cases h : o < 18
  · exact ref_low o a b ha0 ha hb0 hb w h
  · obtain ⟨k, rfl⟩ := Nat.exists_eq_add_of_le (show 18 ≤ o by omega)
    match k, ho with
    | 0, _ => exact ref_18 a b ha0 ha hb0 hb w
    | 1, _ => exact ref_19 a b ha0 ha hb0 hb w
    | 2, _ => exact ref_20 a b ha0 ha hb0 hb w
    | 3, _ => exact ref_21 a b ha0 ha hb0 hb w
    | 4, _ =>
      cases hm : minus (ext a 32)
      · exact ref_22f a b ha0 ha hb0 hb w hm
      · exact ref_22t a b ha0 ha hb0 hb w hm
    | 5, _ => exact ref_23 a b ha0 ha hb0 hb w
    | 6, _ => exact ref_24 a b ha0 ha hb0 hb w
    | 7, _ => exact ref_25 a b ha0 ha hb0 hb w
    | 8, _ => exact ref_26 a b ha0 ha hb0 hb w
    | 9, _ => exact ref_27 a b ha0 ha hb0 hb w
    | k + 10, h => exact absurd h (by omega)

set_option maxRecDepth 10000 in
set_option maxHeartbeats 1600000 in
theorem ops_any (a b : Int) (ha0 : 0 ≤ a) (ha : a < 18446744073709551616) (hb0 : 0 ≤ b) (hb : b < 18446744073709551616) (w : World) (h : ∀ i, i < 28 → w.cell? ⟨0, i, none⟩ = some (.string (nameAt i))) :
    Calls Tryd.prog 3 #[.int .u64 a, .int .u64 b] w fun e w' => e = .returned (.bool true) ∧ Below w.heap.size w w' := by
  have SP := speaks_any w h
  clear h
  have D1 : Hid (∀ k : Nat, k < 28 → ∃ x : Int, (∀ w, Calls Tryd.prog 10 #[.int .i64 k, .int .u64 a, .int .u64 b] w fun e w' => e = .returned (.int .u64 x) ∧ w' = w) ∧ (∀ w, Calls Tryd.prog 11 #[.int .i64 k, .int .u64 a, .int .u64 b] w fun e w' => e = .returned (.int .u64 x) ∧ Below w.heap.size w w')) := by
    intro k hk
    exact ⟨op k a b, fun w => do_any k a b ha0 ha hb0 hb w hk, fun w => ref_any k a b ha0 ha hb0 hb w hk⟩
  go_enter Tryd.func3, Tryd.ntmps3
  go_wp2_with (go_at_call 9; with_reducible refine SP.mono ?_; rintro e w' ⟨rfl, rfl⟩)
  clear SP
  go_loopw [5] (fun i wr => ∃ k : Nat, k ≤ 28 ∧ i = .int .i64 k ∧ Below w'.heap.size w' wr) (fun i _ => 28 - (intOf i).toNat)
  case atStart => exact ⟨0, by omega, rfl, Below.refl _ _⟩
  case round =>
    obtain ⟨k, hk, rfl, hbr⟩ := hrel
    by_cases hlt : k < 28
    · obtain ⟨x, E1, E2⟩ := D1.out k hlt
      go_wp2_with (first
        | (go_at_call 10; with_reducible refine (E1 _).mono ?_; rintro e w' ⟨rfl, hw⟩; subst hw)
        | (go_at_call 11; with_reducible refine (E2 _).mono ?_; rintro e w' ⟨rfl, hb2⟩))
      go_roundw
      case rel => exact ⟨k + 1, by omega, by go_num, bt hbr hb2⟩
      case measure => simp [intOf]; omega
    · go_wp2
      go_ret
      exact ⟨rfl, hbr⟩
end Go.Proofs.YtmfmakkiefgogaaDoor
