/-
  Layer 6: the document's Bits and signed. No condition.
-/
import Derived.Test.YtmfmakkiefgogaaDoorIK1
namespace Go.Proofs.YtmfmakkiefgogaaDoor
open Go.RowKit
set_option linter.unusedVariables false

theorem p2 (k n : Nat) (h : k < n) (hn : n ≤ 21) : 2 ^ (k + 1) = 2 * 2 ^ k ∧ 2 ^ (k + 1) ≤ 2097152 := by
  refine ⟨by rw [Nat.pow_succ, Nat.mul_comm], ?_⟩
  have : (2 : Nat) ^ (k + 1) ≤ 2 ^ 21 := Nat.pow_le_pow_right (by omega) (by omega)
  omega

set_option maxHeartbeats 800000 in
theorem bits_any (x f n : Nat) (hx : x < 4294967296) (hf : f ≤ 31) (hn : n ≤ 20) (w : World) :
    Calls Tryd.prog 35 #[.int .u32 x, .int .i64 f, .int .i64 n] w fun e w' => e = .returned (.int .u32 ((x / 2 ^ f % 2 ^ n : Nat) : Int)) ∧ w' = w := by
  go_enter Tryd.func35, Tryd.ntmps35
  go_wp2
  go_loop [7, 8] (fun v i => ∃ k p : Nat, k ≤ n ∧ i = .int .i64 k ∧ v = .int .u32 (p : Int) ∧ Hid (p = 2 ^ k) ∧ 1 ≤ p ∧ p ≤ 1048576) (fun _ i => n - (intOf i).toNat)
  case atStart => exact ⟨0, 1, by omega, rfl, rfl, rfl, by omega, by omega⟩
  case round =>
    obtain ⟨k, p, hk, rfl, rfl, HP, hp1, hp2⟩ := hrel
    by_cases hlt : k < n
    · have hpp : p * 2 ≤ 1048576 := by
        rw [HP.out, ← Nat.pow_succ]
        have : (2 : Nat) ^ (k + 1) ≤ 2 ^ 20 := Nat.pow_le_pow_right (by omega) (by omega)
        omega
      go_wp2
      go_round
      case rel => exact ⟨k + 1, p * 2, by omega, by go_num, by go_num, by show _ = _; rw [HP.out, Nat.pow_succ], by omega, hpp⟩
      case measure => simp [intOf]; omega
    · obtain rfl : k = n := by omega
      go_wp2
      go_loop [0, 9] (fun v i => ∃ j y : Nat, j ≤ f ∧ i = .int .i64 j ∧ v = .int .u32 (y : Int) ∧ Hid (y = x / 2 ^ j) ∧ y < 4294967296) (fun _ i => f - (intOf i).toNat)
      case atStart => exact ⟨0, x, by omega, rfl, rfl, by show _ = _; simp, hx⟩
      case round =>
        obtain ⟨j, y, hj, rfl, rfl, HY, hy⟩ := hrel
        by_cases hlt2 : j < f
        · go_wp2
          go_round
          case rel => exact ⟨j + 1, y / 2, by omega, by go_num, by go_num, by show _ = _; rw [HY.out, Nat.div_div_eq_div_mul, ← Nat.pow_succ], by omega⟩
          case measure => simp [intOf]; omega
        · obtain rfl : j = f := by omega
          go_wp2
          go_ret
          refine ⟨ret_int ?_, rfl⟩
          have e : (x : Int) / 2 ^ j % 2 ^ k = ((x / 2 ^ j % 2 ^ k : Nat) : Int) := by rw [Int.natCast_emod, Int.natCast_ediv, Int.natCast_pow, Int.natCast_pow]; rfl
          rw [e, ← HY.out, ← HP.out]; rfl

/-- A number of so many bits, signed. -/
def sgnF (n b : Nat) : Int := if 2 ^ b / 2 ≤ n then (n : Int) - ((2 ^ b : Nat) : Int) else n

set_option maxHeartbeats 800000 in
theorem sgn_any (n b : Nat) (hn : n < 4294967296) (hb : b ≤ 21) (w : World) :
    Calls Tryd.prog 60 #[.int .u32 n, .int .i64 b] w fun e w' => e = .returned (.int .i64 (sgnF n b)) ∧ w' = w := by
  go_enter Tryd.func60, Tryd.ntmps60
  go_wp2
  go_loop [5, 6] (fun v i => ∃ k p : Nat, k ≤ b ∧ i = .int .i64 k ∧ v = .int .i64 (p : Int) ∧ Hid (p = 2 ^ k) ∧ 1 ≤ p ∧ p ≤ 2097152) (fun _ i => b - (intOf i).toNat)
  case atStart => exact ⟨0, 1, by omega, rfl, rfl, rfl, by omega, by omega⟩
  case round =>
    obtain ⟨k, p, hk, rfl, rfl, HP, hp1, hp2⟩ := hrel
    by_cases hlt : k < b
    · have hpp : p * 2 ≤ 2097152 := by
        rw [HP.out, ← Nat.pow_succ]
        have : (2 : Nat) ^ (k + 1) ≤ 2 ^ 21 := Nat.pow_le_pow_right (by omega) (by omega)
        omega
      go_wp2
      go_round
      case rel => exact ⟨k + 1, p * 2, by omega, by go_num, by go_num, by show _ = _; rw [HP.out, Nat.pow_succ], by omega, hpp⟩
      case measure => simp [intOf]; omega
    · obtain rfl : k = b := by omega
      by_cases hs : p / 2 ≤ n
      · have H : Hid (sgnF n k = (n : Int) - (p : Int)) := by show _ = _; unfold sgnF; rw [← HP.out, if_pos hs]
        go_wp2
        go_ret
        refine ⟨ret_int ?_, rfl⟩
        rw [H.out]
      · have H : Hid (sgnF n k = (n : Int)) := by show _ = _; unfold sgnF; rw [← HP.out, if_neg hs]
        go_wp2
        go_ret
        exact ⟨ret_int H.out.symm, rfl⟩
end Go.Proofs.YtmfmakkiefgogaaDoor
