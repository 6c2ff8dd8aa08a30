/-
  Layer 5: the document's Divide and High. No condition.
-/
import Derived.Test.YtmfmakkiefgogaaDoorB4
import Derived.BigQuiet
namespace Go.Proofs.YtmfmakkiefgogaaDoor
open Go.RowKit
set_option linter.unusedVariables false

theorem below_drewN {B : Nat} {a w : World} (h : Below B a w) (n : Nat) : Below B a (w.drewN n) := ⟨h.os, h.tape, h.output, h.size, h.block⟩

theorem u_of_i (x : Int) : IntKind.u64.wrap (wrap64 x) = x % 18446744073709551616 := by rw [IntKind.wrap_u64]; unfold wrap64; omega

theorem signs (a : Int) (ha0 : 0 ≤ a) (ha : a < 18446744073709551616) : (minus a = false ∧ wrap64 a = rabs a ∧ rabs a = a ∧ a < 9223372036854775808) ∨ (minus a = true ∧ wrap64 a = -(rabs a) ∧ rabs a = 18446744073709551616 - a ∧ 9223372036854775808 ≤ a) := by
  by_cases h : 9223372036854775808 ≤ a
  · right
    have hm : minus a = true := decide_eq_true h
    have hr : rabs a = 18446744073709551616 - a := by
      unfold rabs; rw [hm, if_pos rfl, IntKind.wrap_u64]; omega
    refine ⟨hm, ?_, hr, h⟩
    rw [hr]; unfold wrap64; omega
  · left
    have hm : minus a = false := decide_eq_false h
    have hr : rabs a = a := by unfold rabs; rw [hm]; rfl
    refine ⟨hm, ?_, hr, by omega⟩
    rw [hr]; unfold wrap64; omega

theorem div_small (A B : Int) (hA : 0 ≤ A) (hB : 1 ≤ B) : 0 ≤ A / B ∧ A / B ≤ A ∧ 0 ≤ A % B ∧ A % B ≤ A ∧ A.tdiv B = A / B ∧ A.tmod B = A % B :=
  ⟨Int.ediv_nonneg hA (by omega), Int.ediv_le_self _ hA, Int.emod_nonneg _ (by omega), by
    have h1 := Int.ediv_mul_add_emod A B
    have h2 : 0 ≤ A / B * B := Int.mul_nonneg (Int.ediv_nonneg hA (by omega)) (by omega)
    omega, Int.tdiv_eq_ediv_of_nonneg hA, Int.tmod_eq_emod_of_nonneg hA⟩

/-- Quotient and rest of signed numbers, by those of their absolute values. -/
theorem qr_abs (a b : Int) (ha0 : 0 ≤ a) (ha : a < 18446744073709551616) (hb0 : 0 < b) (hb : b < 18446744073709551616) :
    qs a b = (if minus a == minus b then rabs a / rabs b else IntKind.u64.wrap (-(rabs a / rabs b))) ∧ rs a b = (if minus a then IntKind.u64.wrap (-(rabs a % rabs b)) else rabs a % rabs b) ∧ 0 ≤ rabs a ∧ rabs a ≤ 9223372036854775808 ∧ 1 ≤ rabs b ∧ rabs b ≤ 9223372036854775808 := by
  have hq : qs a b = ((wrap64 a).tdiv (wrap64 b)) % 18446744073709551616 := by unfold qs; rw [if_neg (by omega), u_of_i]
  have hr : rs a b = ((wrap64 a).tmod (wrap64 b)) % 18446744073709551616 := by unfold rs; rw [if_neg (by omega), IntKind.wrap_u64]
  rw [hq, hr]
  rcases signs a ha0 ha with ⟨m1, s1, e1, l1⟩ | ⟨m1, s1, e1, l1⟩ <;> rcases signs b (by omega) hb with ⟨m2, s2, e2, l2⟩ | ⟨m2, s2, e2, l2⟩
  all_goals
    rw [s1, s2, m1, m2]
    have hA : 0 ≤ rabs a ∧ rabs a ≤ 9223372036854775808 := by omega
    have hB : 1 ≤ rabs b ∧ rabs b ≤ 9223372036854775808 := by omega
    obtain ⟨d1, d2, d3, d4, d5, d6⟩ := div_small (rabs a) (rabs b) hA.1 hB.1
    clear e1 e2 hq hr s1 s2 m1 m2
    refine ⟨?_, ?_, hA.1, hA.2, hB.1, hB.2⟩
    all_goals
      simp only [Int.neg_tdiv, Int.tdiv_neg, Int.neg_tmod, Int.tmod_neg, d5, d6, IntKind.wrap_u64, beq_self_eq_true, if_true, Int.neg_neg] <;>
        (generalize rabs a / rabs b = Q at *
         generalize rabs a % rabs b = R at *
         first
           | omega
           | (simp; done)
           | (simp; omega))

theorem add_mul_div (x c : Int) : (x + 18446744073709551616 * c) / 18446744073709551616 = x / 18446744073709551616 + c := Int.add_mul_ediv_left x c (by decide)

theorem up_ss (a b : Int) (ha0 : 0 ≤ a) (ha : a < 18446744073709551616) (hb0 : 0 ≤ b) (hb : b < 18446744073709551616) : whole 11 a b = wrap64 a * wrap64 b / 18446744073709551616 % 18446744073709551616 := by
  show IntKind.u64.wrap (IntKind.u64.wrap (upr a b - ifn a b) - ifn b a) = _
  unfold upr ifn
  rcases signs a ha0 ha with ⟨m1, s1, e1, l1⟩ | ⟨m1, s1, e1, l1⟩ <;> rcases signs b hb0 hb with ⟨m2, s2, e2, l2⟩ | ⟨m2, s2, e2, l2⟩
  · rw [if_neg (by omega), if_neg (by omega), s1, s2, e1, e2]
    simp only [IntKind.wrap_u64]; omega
  · rw [if_neg (by omega), if_pos (by omega), s1, s2, e1, e2]
    have : a * -(18446744073709551616 - b) = a * b + 18446744073709551616 * -a := by rw [Int.neg_sub, Int.mul_sub, Int.mul_comm a 18446744073709551616, Int.mul_neg]; omega
    rw [this, add_mul_div]
    simp only [IntKind.wrap_u64]; omega
  · rw [if_pos (by omega), if_neg (by omega), s1, s2, e1, e2]
    have : -(18446744073709551616 - a) * b = a * b + 18446744073709551616 * -b := by rw [Int.neg_sub, Int.sub_mul, Int.mul_neg]; omega
    rw [this, add_mul_div]
    simp only [IntKind.wrap_u64]; omega
  · rw [if_pos (by omega), if_pos (by omega), s1, s2, e1, e2]
    have : -(18446744073709551616 - a) * -(18446744073709551616 - b) = a * b + 18446744073709551616 * (18446744073709551616 - a - b) := by
      rw [Int.neg_sub, Int.neg_sub, Int.sub_mul, Int.mul_sub, Int.mul_sub, Int.mul_sub, Int.mul_sub, Int.mul_comm a 18446744073709551616]; omega
    rw [this, add_mul_div]
    simp only [IntKind.wrap_u64]; omega

theorem up_su (a b : Int) (ha0 : 0 ≤ a) (ha : a < 18446744073709551616) (hb0 : 0 ≤ b) (hb : b < 18446744073709551616) : whole 12 a b = wrap64 a * b / 18446744073709551616 % 18446744073709551616 := by
  show IntKind.u64.wrap (upr a b - ifn a b) = _
  unfold upr ifn
  rcases signs a ha0 ha with ⟨m1, s1, e1, l1⟩ | ⟨m1, s1, e1, l1⟩
  · rw [if_neg (by omega), s1, e1]
    simp only [IntKind.wrap_u64]; omega
  · rw [if_pos (by omega), s1, e1]
    have : -(18446744073709551616 - a) * b = a * b + 18446744073709551616 * -b := by rw [Int.neg_sub, Int.sub_mul, Int.mul_neg]; omega
    rw [this, add_mul_div]
    simp only [IntKind.wrap_u64]; omega

/-- The upper half of the opposite. -/
theorem upr_neg (A B : Int) (hA : 0 ≤ A) (hA1 : A < 18446744073709551616) (hB : 0 ≤ B) (hB1 : B < 18446744073709551616) :
    (IntKind.u64.wrap (A * B) = 0 → -(A * B) / 18446744073709551616 % 18446744073709551616 = IntKind.u64.wrap (-(upr A B))) ∧ (IntKind.u64.wrap (A * B) ≠ 0 → -(A * B) / 18446744073709551616 % 18446744073709551616 = 18446744073709551615 - upr A B) ∧ A * B / 18446744073709551616 % 18446744073709551616 = upr A B ∧ 0 ≤ upr A B ∧ upr A B < 18446744073709551615 := by
  unfold upr
  have h0 : 0 ≤ A * B := Int.mul_nonneg hA hB
  have h1 : A * B ≤ 18446744073709551615 * 18446744073709551615 := Int.mul_le_mul (by omega) (by omega) hB (by omega)
  generalize A * B = X at *
  simp only [IntKind.wrap_u64]
  omega

set_option maxRecDepth 10000 in
set_option maxHeartbeats 800000 in
theorem divide_u (a b : Int) (ha0 : 0 ≤ a) (ha : a < 18446744073709551616) (hb0 : 0 ≤ b) (hb : b < 18446744073709551616) (w : World) :
    Calls Tryd.prog 48 #[.int .u64 a, .int .u64 b, .bool false] w fun e w' => e = .returned (.tuple #[.int .u64 (qu a b), .int .u64 (ru a b)]) ∧ Below w.heap.size w w' := by
  by_cases h : b = 0
  · subst h
    go_enter Tryd.func48, Tryd.ntmps48
    go_wp2
    go_ret2
    exact ⟨rfl, Below.refl _ _⟩
  · have H1 : Hid (qu a b = _) := if_neg h
    have H2 : Hid (ru a b = _) := if_neg h
    have hb1 : 1 ≤ b := by omega
    go_enter Tryd.func48, Tryd.ntmps48
    go_wp2
    go_region
    go_wp2
    go_ret2
    refine ⟨?_, (Below.refl _ _).drew⟩
    rw [H1.out, H2.out]; rfl

set_option maxRecDepth 10000 in
set_option maxHeartbeats 800000 in
theorem divide_s (a b : Int) (ha0 : 0 ≤ a) (ha : a < 18446744073709551616) (hb0 : 0 ≤ b) (hb : b < 18446744073709551616) (w : World) :
    Calls Tryd.prog 48 #[.int .u64 a, .int .u64 b, .bool true] w fun e w' => e = .returned (.tuple #[.int .u64 (qs a b), .int .u64 (rs a b)]) ∧ Below w.heap.size w w' := by
  by_cases h : b = 0
  · subst h
    go_enter Tryd.func48, Tryd.ntmps48
    go_wp2
    go_ret2
    exact ⟨rfl, Below.refl _ _⟩
  · obtain ⟨h1, h2, h3, h4, h5, h6⟩ := qr_abs a b ha0 ha (by omega) hb
    have MA := minus_any a
    have MB := minus_any b
    have RA := rabs_any a
    have RB := rabs_any b
    obtain ⟨Q, hQ⟩ : ∃ Q, Q = qs a b := ⟨_, rfl⟩
    obtain ⟨R, hR⟩ : ∃ R, R = rs a b := ⟨_, rfl⟩
    rw [← hQ] at h1
    rw [← hR] at h2
    rw [← hQ, ← hR]
    clear hQ hR
    generalize rabs a = A at *
    generalize rabs b = B at *
    have hB0 : B ≠ 0 := by omega
    cases hma : minus a <;> cases hmb : minus b
    all_goals
      rw [hma] at MA h1 h2
      rw [hmb] at MB h1
      have H1 : Hid (_) := h1
      have H2 : Hid (_) := h2
      clear hma hmb h1 h2
      go_enter Tryd.func48, Tryd.ntmps48
      go_wp2
      go_quiet (first
        | (go_at_call 62; with_reducible refine Calls.quiet_of_same (RA _))
        | (go_at_call 62; with_reducible refine Calls.quiet_of_same (RB _)))
      go_wp2_with (first
        | (go_at_call 28; with_reducible refine (MA _).mono ?_; rintro e w' ⟨rfl, hw⟩; subst hw)
        | (go_at_call 28; with_reducible refine (MB _).mono ?_; rintro e w' ⟨rfl, hw⟩; subst hw))
      go_ret2
      refine ⟨?_, below_drewN (Below.refl _ _) _⟩
      have G1 := H1.out
      have G2 := H2.out
      simp at G1 G2
      rw [G1, G2]
      rfl

theorem wide_int (a b : Int) (ha0 : 0 ≤ a) (ha : a < 18446744073709551616) (hb0 : 0 ≤ b) (hb : b < 18446744073709551616) (w : World) :
    Calls Tryd.prog 51 #[.int .u64 a, .int .u64 b] w fun e w' => e = .returned (.tuple #[.int .u64 (upr a b), .int .u64 (IntKind.u64.wrap (a * b))]) ∧ w' = w := by
  obtain ⟨n, rfl⟩ := Int.eq_ofNat_of_zero_le ha0
  obtain ⟨m, rfl⟩ := Int.eq_ofNat_of_zero_le hb0
  exact wide_any n m (by omega) (by omega) w

set_option maxRecDepth 10000 in
set_option maxHeartbeats 800000 in
theorem high_uu (a b : Int) (ha0 : 0 ≤ a) (ha : a < 18446744073709551616) (hb0 : 0 ≤ b) (hb : b < 18446744073709551616) (w : World) :
    Calls Tryd.prog 52 #[.int .u64 a, .int .u64 b, .bool false, .bool false] w fun e w' => e = .returned (.int .u64 (whole 13 a b)) ∧ w' = w := by
  have W1 := wide_int a b ha0 ha hb0 hb w
  go_enter Tryd.func52, Tryd.ntmps52
  go_wp2_with (go_at_call 51; with_reducible refine W1.mono ?_; rintro e w' ⟨rfl, rfl⟩)
  go_ret
  exact ⟨rfl, rfl⟩

set_option maxRecDepth 10000 in
set_option maxHeartbeats 800000 in
theorem high_su (a b : Int) (ha0 : 0 ≤ a) (ha : a < 18446744073709551616) (hb0 : 0 ≤ b) (hb : b < 18446744073709551616) (w : World) :
    Calls Tryd.prog 52 #[.int .u64 a, .int .u64 b, .bool true, .bool false] w fun e w' => e = .returned (.int .u64 (whole 12 a b)) ∧ w' = w := by
  have HU : Hid (_) := up_su a b ha0 ha hb0 hb
  have SA := signs a ha0 ha
  have MA := minus_any a w
  have RA := rabs_any a w
  have hA : 0 ≤ rabs a ∧ rabs a < 18446744073709551616 := by rcases SA with ⟨_, _, e, _⟩ | ⟨_, _, e, _⟩ <;> rw [e] <;> omega
  have W1 := wide_int (rabs a) b hA.1 hA.2 hb0 hb w
  have HN : Hid (_) := upr_neg (rabs a) b hA.1 hA.2 hb0 hb
  have hu := HN.out.2.2.2
  rcases SA with ⟨m1, s1, e1, l1⟩ | ⟨m1, s1, e1, l1⟩
  · have H : Hid (whole 12 a b = upr (rabs a) b) := by
      show _ = _
      rw [HU.out, s1]; exact HN.out.2.2.1
    rw [m1] at MA
    clear m1 s1 e1 l1 hA
    generalize upr (rabs a) b = h at *
    generalize IntKind.u64.wrap (rabs a * b) = l at *
    generalize rabs a = A at *
    go_enter Tryd.func52, Tryd.ntmps52
    go_wp2_with (first
      | (go_at_call 28; with_reducible refine MA.mono ?_; rintro e w' ⟨rfl, rfl⟩)
      | (go_at_call 62; with_reducible refine RA.mono ?_; rintro e w' ⟨rfl, rfl⟩)
      | (go_at_call 51; with_reducible refine W1.mono ?_; rintro e w' ⟨rfl, rfl⟩))
    go_ret
    exact ⟨ret_int H.out.symm, rfl⟩
  · have H : Hid ((IntKind.u64.wrap (rabs a * b) = 0 → whole 12 a b = IntKind.u64.wrap (-(upr (rabs a) b))) ∧ (IntKind.u64.wrap (rabs a * b) ≠ 0 → whole 12 a b = 18446744073709551615 - upr (rabs a) b)) := by
      show _ ∧ _
      rw [HU.out, s1, Int.neg_mul]; exact ⟨HN.out.1, HN.out.2.1⟩
    rw [m1] at MA
    clear m1 s1 e1 l1 hA HN
    generalize upr (rabs a) b = h at *
    generalize IntKind.u64.wrap (rabs a * b) = l at *
    generalize rabs a = A at *
    by_cases hl : l = 0
    · have H1 : Hid (_) := H.out.1 hl
      subst hl
      clear H
      go_enter Tryd.func52, Tryd.ntmps52
      go_wp2_with (first
        | (go_at_call 28; with_reducible refine MA.mono ?_; rintro e w' ⟨rfl, rfl⟩)
        | (go_at_call 62; with_reducible refine RA.mono ?_; rintro e w' ⟨rfl, rfl⟩)
        | (go_at_call 51; with_reducible refine W1.mono ?_; rintro e w' ⟨rfl, rfl⟩))
      go_ret
      exact ⟨ret_int H1.out.symm, rfl⟩
    · have H1 : Hid (_) := H.out.2 hl
      clear H
      go_enter Tryd.func52, Tryd.ntmps52
      go_wp2_with (first
        | (go_at_call 28; with_reducible refine MA.mono ?_; rintro e w' ⟨rfl, rfl⟩)
        | (go_at_call 62; with_reducible refine RA.mono ?_; rintro e w' ⟨rfl, rfl⟩)
        | (go_at_call 51; with_reducible refine W1.mono ?_; rintro e w' ⟨rfl, rfl⟩))
      go_ret
      exact ⟨ret_int H1.out.symm, rfl⟩

set_option maxRecDepth 10000 in
set_option maxHeartbeats 1600000 in
theorem high_ss (a b : Int) (ha0 : 0 ≤ a) (ha : a < 18446744073709551616) (hb0 : 0 ≤ b) (hb : b < 18446744073709551616) (w : World) :
    Calls Tryd.prog 52 #[.int .u64 a, .int .u64 b, .bool true, .bool true] w fun e w' => e = .returned (.int .u64 (whole 11 a b)) ∧ w' = w := by
  have HU : Hid (_) := up_ss a b ha0 ha hb0 hb
  have SA := signs a ha0 ha
  have SB := signs b hb0 hb
  have MA := minus_any a w
  have RA := rabs_any a w
  have MB := minus_any b w
  have RB := rabs_any b w
  have hA : 0 ≤ rabs a ∧ rabs a < 18446744073709551616 := by rcases SA with ⟨_, _, e, _⟩ | ⟨_, _, e, _⟩ <;> rw [e] <;> omega
  have hB : 0 ≤ rabs b ∧ rabs b < 18446744073709551616 := by rcases SB with ⟨_, _, e, _⟩ | ⟨_, _, e, _⟩ <;> rw [e] <;> omega
  have W1 := wide_int (rabs a) (rabs b) hA.1 hA.2 hB.1 hB.2 w
  have HN : Hid (_) := upr_neg (rabs a) (rabs b) hA.1 hA.2 hB.1 hB.2
  have hu := HN.out.2.2.2
  have HH : Hid ((minus a = minus b → whole 11 a b = upr (rabs a) (rabs b)) ∧ (minus a ≠ minus b → (IntKind.u64.wrap (rabs a * rabs b) = 0 → whole 11 a b = IntKind.u64.wrap (-(upr (rabs a) (rabs b)))) ∧ (IntKind.u64.wrap (rabs a * rabs b) ≠ 0 → whole 11 a b = 18446744073709551615 - upr (rabs a) (rabs b)))) := by
    show _ ∧ _
    rw [HU.out]
    rcases SA with ⟨m1, s1, e1, l1⟩ | ⟨m1, s1, e1, l1⟩ <;> rcases SB with ⟨m2, s2, e2, l2⟩ | ⟨m2, s2, e2, l2⟩ <;> rw [s1, s2, m1, m2]
    · exact ⟨fun _ => HN.out.2.2.1, fun h => absurd rfl h⟩
    · exact ⟨fun h => absurd h (by decide), fun _ => by rw [Int.mul_neg]; exact ⟨HN.out.1, HN.out.2.1⟩⟩
    · exact ⟨fun h => absurd h (by decide), fun _ => by rw [Int.neg_mul]; exact ⟨HN.out.1, HN.out.2.1⟩⟩
    · exact ⟨fun _ => by rw [Int.neg_mul_neg]; exact HN.out.2.2.1, fun h => absurd rfl h⟩
  clear HN HU hA hB SA SB
  generalize upr (rabs a) (rabs b) = h at *
  generalize IntKind.u64.wrap (rabs a * rabs b) = l at *
  generalize rabs a = A at *
  generalize rabs b = B at *
  by_cases hl : l = 0
  all_goals
    cases hma : minus a <;> cases hmb : minus b
    all_goals
      rw [hma] at MA
      rw [hmb] at MB
      have H1 : Hid (_) := hma
      have H2 : Hid (_) := hmb
      clear hma hmb
      try subst hl
      go_enter Tryd.func52, Tryd.ntmps52
      go_wp2_with (first
        | (go_at_call 28; with_reducible refine MA.mono ?_; rintro e w' ⟨rfl, rfl⟩)
        | (go_at_call 28; with_reducible refine MB.mono ?_; rintro e w' ⟨rfl, rfl⟩)
        | (go_at_call 62; with_reducible refine RA.mono ?_; rintro e w' ⟨rfl, rfl⟩)
        | (go_at_call 62; with_reducible refine RB.mono ?_; rintro e w' ⟨rfl, rfl⟩)
        | (go_at_call 51; with_reducible refine W1.mono ?_; rintro e w' ⟨rfl, rfl⟩))
      go_ret
      have hh := HH.out
      rw [H1.out, H2.out] at hh
      first
        | exact ⟨ret_int (hh.1 rfl).symm, rfl⟩
        | exact ⟨ret_int ((hh.2 (by decide)).1 rfl).symm, rfl⟩
        | exact ⟨ret_int ((hh.2 (by decide)).2 (by assumption)).symm, rfl⟩
        | exact ⟨ret_int ((hh.2 (by decide)).1 trivial).symm, rfl⟩
end Go.Proofs.YtmfmakkiefgogaaDoor
