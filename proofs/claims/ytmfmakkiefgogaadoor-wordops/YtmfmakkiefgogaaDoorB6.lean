/-
  Layer 5: the document's Shift and Both as the program's operations. No condition.
-/
import Derived.Test.YtmfmakkiefgogaaDoorB5
namespace Go.Proofs.YtmfmakkiefgogaaDoor
open Go.RowKit
set_option linter.unusedVariables false

theorem shift_up_int (a : Int) (n : Int) (ha0 : 0 ≤ a) (ha : a < 18446744073709551616) (hn0 : 0 ≤ n) (hn : n < 64) (w : World) :
    Calls Tryd.prog 27 #[.int .u64 a, .int .i64 n, .bool true, .int .i64 0] w fun e w' => e = .returned (.int .u64 (IntKind.u64.wrap (a * 2 ^ n.toNat))) ∧ Below w.heap.size w w' := by
  obtain ⟨x, rfl⟩ := Int.eq_ofNat_of_zero_le ha0
  obtain ⟨m, rfl⟩ := Int.eq_ofNat_of_zero_le hn0
  have h := shift_any x m true false (by omega) (by omega) w
  have e : ((hv (shiftBit x m true false) 64 0 : Nat) : Int) = IntKind.u64.wrap ((x : Int) * 2 ^ (m : Int).toNat) := by
    rw [shift_up, IntKind.wrap_u64, Int.toNat_natCast]
    have : (((x * 2 ^ m : Nat)) : Int) = (x : Int) * 2 ^ m := by rw [Int.natCast_mul, Int.natCast_pow]; rfl
    rw [← this]; rfl
  rw [e] at h
  exact h

theorem shift_down_int (a : Int) (n : Int) (ha0 : 0 ≤ a) (ha : a < 18446744073709551616) (hn0 : 0 ≤ n) (hn : n < 64) (w : World) :
    Calls Tryd.prog 27 #[.int .u64 a, .int .i64 n, .bool false, .int .i64 0] w fun e w' => e = .returned (.int .u64 (a / 2 ^ n.toNat)) ∧ Below w.heap.size w w' := by
  obtain ⟨x, rfl⟩ := Int.eq_ofNat_of_zero_le ha0
  obtain ⟨m, rfl⟩ := Int.eq_ofNat_of_zero_le hn0
  have h := shift_any x m false false (by omega) (by omega) w
  have e : ((hv (shiftBit x m false false) 64 0 : Nat) : Int) = (x : Int) / 2 ^ (m : Int).toNat := by
    rw [shift_down x m (by omega), Int.toNat_natCast, Int.natCast_ediv, Int.natCast_pow]; rfl
  rw [e] at h
  exact h

theorem shift_sign_int (a : Int) (n : Int) (ha0 : 9223372036854775808 ≤ a) (ha : a < 18446744073709551616) (hn0 : 0 ≤ n) (hn : n < 64) (w : World) :
    Calls Tryd.prog 27 #[.int .u64 a, .int .i64 n, .bool false, .int .i64 1] w fun e w' => e = .returned (.int .u64 (IntKind.u64.wrap (wrap64 a / 2 ^ n.toNat))) ∧ Below w.heap.size w w' := by
  obtain ⟨x, rfl⟩ := Int.eq_ofNat_of_zero_le (show 0 ≤ a by omega)
  obtain ⟨m, rfl⟩ := Int.eq_ofNat_of_zero_le hn0
  have h := shift_any x m false true (by omega) (by omega) w
  have e : ((hv (shiftBit x m false true) 64 0 : Nat) : Int) = IntKind.u64.wrap (wrap64 (x : Int) / 2 ^ (m : Int).toNat) := by
    rw [shift_sign x m (by omega) (by omega), Int.toNat_natCast, IntKind.wrap_u64]
    have hw : wrap64 (x : Int) = x - 18446744073709551616 := by unfold wrap64; omega
    have hp : 0 < 2 ^ m := Nat.two_pow_pos m
    obtain ⟨P, hP⟩ : ∃ P : Nat, P = 2 ^ m := ⟨_, rfl⟩
    have e2 : (2 : Int) ^ m = (P : Int) := by rw [hP, Int.natCast_pow]; rfl
    rw [← hP] at hp ⊢
    rw [e2, hw, Int.natCast_ediv]
    have hX : ((2 ^ 64 * (P - 1) + x : Nat) : Int) = ((x : Int) - 18446744073709551616) + (P : Int) * 18446744073709551616 := by
      have : (2 : Nat) ^ 64 = 18446744073709551616 := by decide
      rw [this]
      have : 18446744073709551616 * (P - 1) = 18446744073709551616 * P - 18446744073709551616 := by omega
      omega
    rw [hX, Int.add_mul_ediv_left _ _ (by omega)]
    clear hX e2 hP
    have q1 : -18446744073709551616 ≤ ((x : Int) - 18446744073709551616) / P := by
      apply Int.le_ediv_of_mul_le (by omega)
      have h8 : 0 ≤ 18446744073709551616 * ((P : Int) - 1) := Int.mul_nonneg (by omega) (by omega)
      omega
    have q2 : ((x : Int) - 18446744073709551616) / P < 0 := Int.ediv_neg_of_neg_of_pos (by omega) (by omega)
    omega
  rw [e] at h
  exact h

theorem both_int (a b : Int) (ha0 : 0 ≤ a) (ha : a < 18446744073709551616) (hb0 : 0 ≤ b) (hb : b < 18446744073709551616) (w : World) :
    (Calls Tryd.prog 50 #[.int .u64 a, .int .u64 b, .int .i64 0] w fun e w' => e = .returned (.int .u64 (bits .xor .u64 a b)) ∧ Below w.heap.size w w') ∧
    (Calls Tryd.prog 50 #[.int .u64 a, .int .u64 b, .int .i64 1] w fun e w' => e = .returned (.int .u64 (bits .or .u64 a b)) ∧ Below w.heap.size w w') ∧
    (Calls Tryd.prog 50 #[.int .u64 a, .int .u64 b, .int .i64 2] w fun e w' => e = .returned (.int .u64 (bits .and .u64 a b)) ∧ Below w.heap.size w w') := by
  obtain ⟨x, rfl⟩ := Int.eq_ofNat_of_zero_le ha0
  obtain ⟨y, rfl⟩ := Int.eq_ofNat_of_zero_le hb0
  have h0 := both_0 x y (by omega) (by omega) w
  have h1 := both_1 x y (by omega) (by omega) w
  have h2 := both_2 x y (by omega) (by omega) w
  rw [both_xor x y (by omega) (by omega), ← u64_xor_nat x y (by omega) (by omega)] at h0
  rw [both_or x y (by omega) (by omega), ← u64_or_nat x y (by omega) (by omega)] at h1
  rw [both_and x y (by omega) (by omega), ← u64_and_nat x y (by omega) (by omega)] at h2
  exact ⟨h0, h1, h2⟩

theorem bt {a b c : World} (h : Below a.heap.size a b) (k : Below b.heap.size b c) : Below a.heap.size a c := h.trans (k.mono h.size)
end Go.Proofs.YtmfmakkiefgogaaDoor
