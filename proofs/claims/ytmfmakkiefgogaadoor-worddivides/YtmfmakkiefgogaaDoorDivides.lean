/-
  Layer 5: the walk of WordDivides: quotient times divisor, and the rest, are what was divided. Conditions: the names' variable holds the names.
-/
import Derived.Test.YtmfmakkiefgogaaDoorSpeaks
namespace Go.Proofs.YtmfmakkiefgogaaDoor
open Go.RowKit
set_option linter.unusedVariables false

def absU (a : Int) : Int := if wrap64 a < 0 then IntKind.u64.wrap (-a) else a

set_option maxHeartbeats 400000 in
theorem abs_any (a : Int) (w : World) :
    Calls Tryd.prog 16 #[.int .u64 a] w fun e w' => e = .returned (.int .u64 (absU a)) ∧ w' = w := by
  by_cases h : wrap64 a < 0
  · have H : Hid (absU a = _) := if_pos h
    go_enter Tryd.func16, Tryd.ntmps16
    go_wp2
    go_ret
    exact ⟨ret_int H.out.symm, rfl⟩
  · have H : Hid (absU a = _) := if_neg h
    go_enter Tryd.func16, Tryd.ntmps16
    go_wp2
    go_ret
    exact ⟨ret_int H.out.symm, rfl⟩

theorem wrap64_low {a : Int} (h0 : 0 ≤ a) (h : a < 9223372036854775808) : wrap64 a = a := by unfold wrap64; omega
theorem wrap64_high {a : Int} (h : 9223372036854775808 ≤ a) (h1 : a < 18446744073709551616) : wrap64 a = a - 18446744073709551616 := by unfold wrap64; omega
theorem wrap64_mod {a : Int} : (wrap64 a - a) % 18446744073709551616 = 0 := by unfold wrap64; omega

theorem rs_range (a b : Int) (ha0 : 0 ≤ a) (ha : a < 18446744073709551616) : 0 ≤ rs a b ∧ rs a b < 18446744073709551616 := by
  unfold rs
  split
  · exact ⟨ha0, ha⟩
  · rw [IntKind.wrap_u64]; omega
theorem absU_range (a : Int) (h : 0 ≤ a ∧ a < 18446744073709551616) : 0 ≤ absU a ∧ absU a < 18446744073709551616 := by
  unfold absU
  split
  · rw [IntKind.wrap_u64]; omega
  · exact h

/-- Quotient times divisor, and the rest. -/
theorem qr_signed (a b : Int) (ha0 : 0 ≤ a) (ha : a < 18446744073709551616) (hb0 : 0 < b) (hb : b < 18446744073709551616) :
    IntKind.u64.wrap (IntKind.u64.wrap (qs a b * b) + rs a b) = a := by
  unfold qs rs
  rw [if_neg (by omega), if_neg (by omega)]
  simp only [IntKind.wrap_u64]
  have e := Int.mul_tdiv_add_tmod (wrap64 a) (wrap64 b)
  have ea : wrap64 a % 18446744073709551616 = a := by unfold wrap64; omega
  have eb : wrap64 b % 18446744073709551616 = b := by unfold wrap64; omega
  generalize (wrap64 a).tdiv (wrap64 b) = t at *
  generalize (wrap64 a).tmod (wrap64 b) = u at *
  have et : wrap64 t % 18446744073709551616 = t % 18446744073709551616 := by unfold wrap64; omega
  rw [et]
  have e1 : t % 18446744073709551616 * b % 18446744073709551616 = wrap64 b * t % 18446744073709551616 := by
    conv => lhs; rw [← eb]
    rw [← Int.mul_emod, Int.mul_comm]
  rw [e1, ← Int.add_emod, e, ea]

theorem qr_unsigned (a b : Int) (ha0 : 0 ≤ a) (ha : a < 18446744073709551616) (hb0 : 0 < b) (hb : b < 18446744073709551616) :
    IntKind.u64.wrap (IntKind.u64.wrap (qu a b * b) + ru a b) = a ∧ ru a b < b := by
  unfold qu ru
  rw [if_neg (by omega), if_neg (by omega)]
  have h1 := Int.ediv_mul_add_emod a b
  have h2 := Int.emod_lt_of_pos a hb0
  have h3 := Int.emod_nonneg a (show b ≠ 0 by omega)
  have h4 : 0 ≤ a / b := Int.ediv_nonneg ha0 (by omega)
  have h5 : 0 ≤ a / b * b := Int.mul_nonneg h4 (by omega)
  simp only [IntKind.wrap_u64]
  exact ⟨by omega, h2⟩

/-- The rest's sign, and its size. -/
theorem rest_signed (a b : Int) (ha0 : 0 ≤ a) (ha : a < 18446744073709551616) (hb0 : 0 < b) (hb : b < 18446744073709551616) (hr : rs a b ≠ 0) :
    (wrap64 (rs a b) < 0 ↔ wrap64 a < 0) ∧ absU (rs a b) < absU b := by
  have hs : wrap64 b ≠ 0 := sgn_ne b (by omega) hb (by omega)
  have hrs : rs a b = IntKind.u64.wrap ((wrap64 a).tmod (wrap64 b)) := if_neg (by omega)
  have hsa : -9223372036854775808 ≤ wrap64 a ∧ wrap64 a < 9223372036854775808 := by unfold wrap64; omega
  have hsb : -9223372036854775808 ≤ wrap64 b ∧ wrap64 b < 9223372036854775808 := by unfold wrap64; omega
  have eb : (0 ≤ wrap64 b → b = wrap64 b) ∧ (wrap64 b < 0 → b = wrap64 b + 18446744073709551616) := by unfold wrap64; omega
  have habs : ((wrap64 a).tmod (wrap64 b)).natAbs < (wrap64 b).natAbs := by
    rw [Int.natAbs_tmod]
    exact Nat.mod_lt _ (by omega)
  have hsg : (0 ≤ wrap64 a → 0 ≤ (wrap64 a).tmod (wrap64 b)) ∧ (wrap64 a < 0 → (wrap64 a).tmod (wrap64 b) ≤ 0) := by
    refine ⟨fun h => Int.tmod_nonneg _ h, fun h => ?_⟩
    have := Int.tmod_nonneg (wrap64 b) (show 0 ≤ -wrap64 a by omega)
    rw [Int.neg_tmod] at this
    omega
  rw [hrs] at hr ⊢
  generalize (wrap64 a).tmod (wrap64 b) = u at *
  obtain ⟨sb, hsbe⟩ : ∃ sb, sb = wrap64 b := ⟨_, rfl⟩
  rw [← hsbe] at hs hsb eb habs
  generalize wrap64 a = sa at *
  have hu : IntKind.u64.wrap u = if 0 ≤ u then u else u + 18446744073709551616 := by
    rw [IntKind.wrap_u64]; split <;> omega
  have hwu : wrap64 (IntKind.u64.wrap u) = u := by rw [hu]; unfold wrap64; split <;> omega
  have hu0 : u ≠ 0 := by intro h; rw [h] at hr; exact hr rfl
  refine ⟨by rw [hwu]; omega, ?_⟩
  unfold absU
  rw [hwu]
  rw [← hsbe]
  simp only [IntKind.wrap_u64]
  split <;> split <;> omega

set_option maxRecDepth 10000 in
set_option maxHeartbeats 1600000 in
theorem divides_zero (a : Int) (ha0 : 0 ≤ a) (ha : a < 18446744073709551616) (w : World) (h : ∀ i, i < 28 → w.cell? ⟨0, i, none⟩ = some (.string (nameAt i))) :
    Calls Tryd.prog 5 #[.int .u64 a, .int .u64 0] w fun e w' => e = .returned (.bool true) ∧ w' = w := by
  have SP := speaks_any w h
  clear h
  have D14 : Calls Tryd.prog 10 #[.int .i64 14, .int .u64 a, .int .u64 0] w fun e w' => e = .returned (.int .u64 18446744073709551615) ∧ w' = w := do_any 14 a 0 ha0 ha (by omega) (by omega) w (by omega)
  have D15 : Calls Tryd.prog 10 #[.int .i64 15, .int .u64 a, .int .u64 0] w fun e w' => e = .returned (.int .u64 18446744073709551615) ∧ w' = w := do_any 15 a 0 ha0 ha (by omega) (by omega) w (by omega)
  have D16 : Calls Tryd.prog 10 #[.int .i64 16, .int .u64 a, .int .u64 0] w fun e w' => e = .returned (.int .u64 a) ∧ w' = w := do_any 16 a 0 ha0 ha (by omega) (by omega) w (by omega)
  have D17 : Calls Tryd.prog 10 #[.int .i64 17, .int .u64 a, .int .u64 0] w fun e w' => e = .returned (.int .u64 a) ∧ w' = w := do_any 17 a 0 ha0 ha (by omega) (by omega) w (by omega)
  go_enter Tryd.func5, Tryd.ntmps5
  go_wp2_with (first
    | (go_at_call 9; with_reducible refine SP.mono ?_; rintro e w' ⟨rfl, rfl⟩)
    | (go_at_call 10; with_reducible refine D14.mono ?_; rintro e w' ⟨rfl, rfl⟩)
    | (go_at_call 10; with_reducible refine D15.mono ?_; rintro e w' ⟨rfl, rfl⟩)
    | (go_at_call 10; with_reducible refine D16.mono ?_; rintro e w' ⟨rfl, rfl⟩)
    | (go_at_call 10; with_reducible refine D17.mono ?_; rintro e w' ⟨rfl, rfl⟩))
  go_ret
  exact ⟨rfl, rfl⟩

set_option maxRecDepth 10000 in
set_option maxHeartbeats 1600000 in
theorem divides_any (a b : Int) (ha0 : 0 ≤ a) (ha : a < 18446744073709551616) (hb0 : 0 < b) (hb : b < 18446744073709551616) (w : World) (h : ∀ i, i < 28 → w.cell? ⟨0, i, none⟩ = some (.string (nameAt i))) :
    Calls Tryd.prog 5 #[.int .u64 a, .int .u64 b] w fun e w' => e = .returned (.bool true) ∧ w' = w := by
  have SP := speaks_any w h
  clear h
  have D14 : Calls Tryd.prog 10 #[.int .i64 14, .int .u64 a, .int .u64 b] w fun e w' => e = .returned (.int .u64 (qs a b)) ∧ w' = w := do_any 14 a b ha0 ha (by omega) (by omega) w (by omega)
  have D15 : Calls Tryd.prog 10 #[.int .i64 15, .int .u64 a, .int .u64 b] w fun e w' => e = .returned (.int .u64 (qu a b)) ∧ w' = w := do_any 15 a b ha0 ha (by omega) (by omega) w (by omega)
  have D16 : Calls Tryd.prog 10 #[.int .i64 16, .int .u64 a, .int .u64 b] w fun e w' => e = .returned (.int .u64 (rs a b)) ∧ w' = w := do_any 16 a b ha0 ha (by omega) (by omega) w (by omega)
  have D17 : Calls Tryd.prog 10 #[.int .i64 17, .int .u64 a, .int .u64 b] w fun e w' => e = .returned (.int .u64 (ru a b)) ∧ w' = w := do_any 17 a b ha0 ha (by omega) (by omega) w (by omega)
  have A1 : Calls Tryd.prog 16 #[.int .u64 (rs a b)] w fun e w' => e = .returned (.int .u64 (absU (rs a b))) ∧ w' = w := abs_any (rs a b) w
  have A2 : Calls Tryd.prog 16 #[.int .u64 b] w fun e w' => e = .returned (.int .u64 (absU b)) ∧ w' = w := abs_any b w
  have M1 := qr_signed a b ha0 ha hb0 hb
  have M2 := qr_unsigned a b ha0 ha hb0 hb
  have M3 := rest_signed a b ha0 ha hb0 hb
  have R1 : 0 ≤ absU (rs a b) ∧ absU (rs a b) < 18446744073709551616 := absU_range _ (rs_range a b ha0 ha)
  have R2 : 0 ≤ absU b ∧ absU b < 18446744073709551616 := absU_range _ ⟨by omega, hb⟩
  have D4 : ∀ x y : Int, 0 ≤ x ∧ x < 18446744073709551616 → 0 ≤ y ∧ y < 18446744073709551616 → x < y → Calls Tryd.prog 10 #[.int .i64 4, .int .u64 x, .int .u64 y] w fun e w' => e = .returned (.int .u64 1) ∧ w' = w := by
    intro x y hx hy hl
    have h := do_any 4 x y hx.1 hx.2 hy.1 hy.2 w (by omega)
    have e : op 4 x y = 1 := by show one (decide (x < y)) = 1; rw [decide_eq_true hl]; rfl
    rw [e] at h
    exact h
  have D5 : rs a b ≠ 0 → Calls Tryd.prog 10 #[.int .i64 4, .int .u64 (absU (rs a b)), .int .u64 (absU b)] w fun e w' => e = .returned (.int .u64 1) ∧ w' = w := fun hr => D4 _ _ R1 R2 (M3 hr).2
  generalize absU (rs a b) = ar at *
  generalize absU b = ab at *
  generalize qs a b = q at *
  generalize qu a b = p at *
  generalize rs a b = r at *
  generalize ru a b = s at *
  obtain ⟨M2, M2'⟩ := M2
  clear D4 R1 R2
  have hb' : b ≠ 0 := by omega
  by_cases hr : r = 0
  · subst hr
    clear D5 M3
    rw [Int.add_zero] at M1
    go_enter Tryd.func5, Tryd.ntmps5
    go_wp2_with (first
      | (go_at_call 9; with_reducible refine SP.mono ?_; rintro e w' ⟨rfl, rfl⟩)
      | (go_at_call 10; with_reducible refine D14.mono ?_; rintro e w' ⟨rfl, rfl⟩)
      | (go_at_call 10; with_reducible refine D15.mono ?_; rintro e w' ⟨rfl, rfl⟩)
      | (go_at_call 10; with_reducible refine D16.mono ?_; rintro e w' ⟨rfl, rfl⟩)
      | (go_at_call 10; with_reducible refine D17.mono ?_; rintro e w' ⟨rfl, rfl⟩))
    go_ret
    exact ⟨rfl, rfl⟩
  · have D5' := D5 hr
    have M3' := (M3 hr).1
    clear D5 M3
    by_cases hs : wrap64 a < 0
    all_goals
      have hs' := hs
      rw [← M3'] at hs'
      clear M3'
      go_enter Tryd.func5, Tryd.ntmps5
      go_wp2_with (first
        | (go_at_call 9; with_reducible refine SP.mono ?_; rintro e w' ⟨rfl, rfl⟩)
        | (go_at_call 10; with_reducible refine D14.mono ?_; rintro e w' ⟨rfl, rfl⟩)
        | (go_at_call 10; with_reducible refine D15.mono ?_; rintro e w' ⟨rfl, rfl⟩)
        | (go_at_call 10; with_reducible refine D16.mono ?_; rintro e w' ⟨rfl, rfl⟩)
        | (go_at_call 10; with_reducible refine D17.mono ?_; rintro e w' ⟨rfl, rfl⟩)
        | (go_at_call 16; with_reducible refine A1.mono ?_; rintro e w' ⟨rfl, rfl⟩)
        | (go_at_call 16; with_reducible refine A2.mono ?_; rintro e w' ⟨rfl, rfl⟩)
        | (go_at_call 10; with_reducible refine D5'.mono ?_; rintro e w' ⟨rfl, rfl⟩))
      go_ret
      exact ⟨rfl, rfl⟩
end Go.Proofs.YtmfmakkiefgogaaDoor
