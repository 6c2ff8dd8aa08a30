/-
  Layer 5: the walk of WordHalves. Conditions: the names' variable holds the names.
-/
import Derived.Test.YtmfmakkiefgogaaDoorSpeaks
namespace Go.Proofs.YtmfmakkiefgogaaDoor
open Go.RowKit
set_option linter.unusedVariables false

theorem ext_low {m n : Int} (h : m % 4294967296 = n % 4294967296) : ext m 32 = ext n 32 := by rw [ext_is, ext_is, h]

theorem mul_low {a a' b b' : Int} (ha : a % 4294967296 = a' % 4294967296) (hb : b % 4294967296 = b' % 4294967296) : IntKind.u64.wrap (a * b) % 4294967296 = IntKind.u64.wrap (a' * b') % 4294967296 := by
  rw [IntKind.wrap_u64, IntKind.wrap_u64, Int.emod_emod_of_dvd _ (by decide), Int.emod_emod_of_dvd _ (by decide), Int.mul_emod, ha, hb, ← Int.mul_emod]

/-- An operation of 32 bits hangs on the low halves alone. -/
theorem half_low (o : Nat) (h0 : 18 ≤ o) (h1 : o < 28) {a a' b b' : Int} (ha : a % 4294967296 = a' % 4294967296) (hb : b % 4294967296 = b' % 4294967296) : op o a b = op o a' b' := by
  unfold op
  rw [if_pos ⟨h0, h1⟩, if_pos ⟨h0, h1⟩]
  have e32 : b % 32 = b' % 32 := by omega
  have ea := ext_low ha
  have eb := ext_low hb
  obtain ⟨k, rfl⟩ := Nat.exists_eq_add_of_le h0
  match k, h1 with
  | 0, _ => exact ext_low (by show IntKind.u64.wrap (a + b) % _ = IntKind.u64.wrap (a' + b') % _; rw [IntKind.wrap_u64, IntKind.wrap_u64]; omega)
  | 1, _ => exact ext_low (by show IntKind.u64.wrap (a - b) % _ = IntKind.u64.wrap (a' - b') % _; rw [IntKind.wrap_u64, IntKind.wrap_u64]; omega)
  | 2, _ => exact ext_low (by
      show IntKind.u64.wrap (a * 2 ^ (b % 32).toNat) % _ = IntKind.u64.wrap (a' * 2 ^ (b' % 32).toNat) % _
      rw [e32]
      exact mul_low ha rfl)
  | 3, _ => show ext (a % 4294967296 / 2 ^ (b % 32).toNat) 32 = ext (a' % 4294967296 / 2 ^ (b' % 32).toNat) 32; rw [ha, e32]
  | 4, _ => show ext (IntKind.u64.wrap (wrap64 (ext a 32) / 2 ^ (b % 32).toNat)) 32 = ext (IntKind.u64.wrap (wrap64 (ext a' 32) / 2 ^ (b' % 32).toNat)) 32; rw [ea, e32]
  | 5, _ => exact ext_low (mul_low ha hb)
  | 6, _ => show ext (qs (ext a 32) (ext b 32)) 32 = ext (qs (ext a' 32) (ext b' 32)) 32; rw [ea, eb]
  | 7, _ => show ext (qu (a % 4294967296) (b % 4294967296)) 32 = ext (qu (a' % 4294967296) (b' % 4294967296)) 32; rw [ha, hb]
  | 8, _ => show ext (rs (ext a 32) (ext b 32)) 32 = ext (rs (ext a' 32) (ext b' 32)) 32; rw [ea, eb]
  | 9, _ => show ext (ru (a % 4294967296) (b % 4294967296)) 32 = ext (ru (a' % 4294967296) (b' % 4294967296)) 32; rw [ha, hb]
  | k + 10, h => exact absurd h (by omega)

/-- The low half of one number beneath that of another one. -/
theorem mix (a c : Int) (ha0 : 0 ≤ a) (ha : a < 18446744073709551616) (hc0 : 0 ≤ c) :
    0 ≤ bits .or .u64 (bits .and .u64 a 4294967295) (IntKind.u64.wrap (c * 4294967296)) ∧ bits .or .u64 (bits .and .u64 a 4294967295) (IntKind.u64.wrap (c * 4294967296)) < 18446744073709551616 ∧
    a % 4294967296 = bits .or .u64 (bits .and .u64 a 4294967295) (IntKind.u64.wrap (c * 4294967296)) % 4294967296 := by
  obtain ⟨n, rfl⟩ := Int.eq_ofNat_of_zero_le ha0
  obtain ⟨m, rfl⟩ := Int.eq_ofNat_of_zero_le hc0
  have h1 : bits .and .u64 (n : Int) 4294967295 = ((n % 4294967296 : Nat) : Int) := by
    have := u64_and_nat n 4294967295 (by omega) (by omega)
    rw [show n &&& 4294967295 = n % 4294967296 from Nat.and_two_pow_sub_one_eq_mod n 32] at this
    exact this
  have h2 : IntKind.u64.wrap ((m : Int) * 4294967296) = (((m % 4294967296) * 4294967296 : Nat) : Int) := by rw [IntKind.wrap_u64]; omega
  have h3 : (n % 4294967296) ||| ((m % 4294967296) * 4294967296) = (m % 4294967296) * 4294967296 + n % 4294967296 := by
    rw [Nat.or_comm, Nat.mul_comm]
    exact (Nat.two_pow_add_eq_or_of_lt (i := 32) (Nat.mod_lt _ (by omega)) (m % 4294967296)).symm
  rw [h1, h2, u64_or_nat _ _ (by omega) (by omega), h3]
  omega

theorem ext_again (n : Int) : IntKind.u64.wrap (wrap64 (wrap32 (ext n 32 % 4294967296))) = ext n 32 := by
  rw [ext_is, IntKind.wrap_u64]
  unfold wrap64 wrap32
  split <;> omega

set_option maxRecDepth 10000 in
set_option maxHeartbeats 1600000 in
theorem halves_any (a b c : Int) (ha0 : 0 ≤ a) (ha : a < 18446744073709551616) (hb0 : 0 ≤ b) (hb : b < 18446744073709551616) (hc0 : 0 ≤ c) (hc : c < 18446744073709551616) (w : World) (h : ∀ i, i < 28 → w.cell? ⟨0, i, none⟩ = some (.string (nameAt i))) :
    Calls Tryd.prog 6 #[.int .u64 a, .int .u64 b, .int .u64 c] w fun e w' => e = .returned (.bool true) ∧ w' = w := by
  have SP := speaks_any w h
  clear h
  have DD : Hid (∀ k : Nat, 18 ≤ k → k < 28 → ∃ x : Int, IntKind.u64.wrap (wrap64 (wrap32 (x % 4294967296))) = x ∧ (Calls Tryd.prog 10 #[.int .i64 k, .int .u64 a, .int .u64 b] w fun e w' => e = .returned (.int .u64 x) ∧ w' = w) ∧
      (Calls Tryd.prog 10 #[.int .i64 k, .int .u64 (bits .or .u64 (bits .and .u64 a 4294967295) (IntKind.u64.wrap (c * 4294967296))), .int .u64 (bits .or .u64 (bits .and .u64 b 4294967295) (IntKind.u64.wrap (c * 4294967296)))] w fun e w' => e = .returned (.int .u64 x) ∧ w' = w)) := by
    intro k h0 h1
    obtain ⟨p1, p2, p3⟩ := mix a c ha0 ha hc0
    obtain ⟨q1, q2, q3⟩ := mix b c hb0 hb hc0
    refine ⟨op k a b, ?_, do_any k a b ha0 ha hb0 hb w h1, ?_⟩
    · unfold op; rw [if_pos ⟨h0, h1⟩]; exact ext_again _
    · rw [half_low k h0 h1 p3 q3]; exact do_any k _ _ p1 p2 q1 q2 w h1
  go_enter Tryd.func6, Tryd.ntmps6
  go_wp2_with (go_at_call 9; with_reducible refine SP.mono ?_; rintro e w' ⟨rfl, rfl⟩)
  go_loop [7] (fun i => ∃ k : Nat, 18 ≤ k ∧ k ≤ 28 ∧ i = .int .i64 k) (fun i => 28 - (intOf i).toNat)
  case atStart => exact ⟨18, by omega, by omega, rfl⟩
  case round =>
    obtain ⟨k, hk0, hk, rfl⟩ := hrel
    by_cases hlt : k < 28
    · obtain ⟨x, hx, D1, D2⟩ := DD.out k hk0 hlt
      go_wp2_with (first
        | (go_at_call 10; with_reducible refine D1.mono ?_; rintro e w' ⟨rfl, rfl⟩)
        | (go_at_call 10; with_reducible refine D2.mono ?_; rintro e w' ⟨rfl, rfl⟩))
      go_round
      case rel => exact ⟨k + 1, by omega, by omega, by go_num⟩
      case measure => simp [intOf]; omega
    · go_wp2
      go_ret
      exact ⟨rfl, rfl⟩
end Go.Proofs.YtmfmakkiefgogaaDoor
