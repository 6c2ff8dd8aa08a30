/-
  Layer 5: the walk of WordShifts. Conditions: the names' variable holds the names.
-/
import Derived.Test.YtmfmakkiefgogaaDoorSpeaks
namespace Go.Proofs.YtmfmakkiefgogaaDoor
open Go.RowKit
set_option linter.unusedVariables false

theorem xor_or_and (x y : Nat) : (x ||| y) ^^^ (x &&& y) = x ^^^ y := by
  apply Nat.eq_of_testBit_eq
  intro i
  simp only [Nat.testBit_xor, Nat.testBit_or, Nat.testBit_and]
  cases x.testBit i <;> cases y.testBit i <;> rfl

theorem bits_u64_range (o : BinOp) (ho : o = .or ∨ o = .and ∨ o = .xor) (a b : Int) (ha0 : 0 ≤ a) (ha : a < 18446744073709551616) (hb0 : 0 ≤ b) (hb : b < 18446744073709551616) : 0 ≤ bits o .u64 a b ∧ bits o .u64 a b < 18446744073709551616 := by
  obtain ⟨n, rfl⟩ := Int.eq_ofNat_of_zero_le ha0
  obtain ⟨m, rfl⟩ := Int.eq_ofNat_of_zero_le hb0
  have hn : n < 2 ^ 64 := by omega
  have hm : m < 2 ^ 64 := by omega
  have h1 := Nat.or_lt_two_pow hn hm
  have h2 := Nat.and_lt_two_pow n hm
  have h3 := Nat.xor_lt_two_pow hn hm
  rcases ho with rfl | rfl | rfl
  · rw [u64_or_nat n m (by omega) (by omega)]; omega
  · rw [u64_and_nat n m (by omega) (by omega)]; omega
  · rw [u64_xor_nat n m (by omega) (by omega)]; omega

theorem xor_of (a b : Int) (ha0 : 0 ≤ a) (ha : a < 18446744073709551616) (hb0 : 0 ≤ b) (hb : b < 18446744073709551616) : bits .xor .u64 (bits .or .u64 a b) (bits .and .u64 a b) = bits .xor .u64 a b := by
  obtain ⟨n, rfl⟩ := Int.eq_ofNat_of_zero_le ha0
  obtain ⟨m, rfl⟩ := Int.eq_ofNat_of_zero_le hb0
  have hn : n < 2 ^ 64 := by omega
  have hm : m < 2 ^ 64 := by omega
  have h1 := Nat.or_lt_two_pow hn hm
  have h2 := Nat.and_lt_two_pow n hm
  rw [u64_or_nat n m (by omega) (by omega), u64_and_nat n m (by omega) (by omega), u64_xor_nat _ _ (by omega) (by omega), u64_xor_nat n m (by omega) (by omega), xor_or_and]

/-- What comes down by sra, moved up again, and the bits that were lost. -/
theorem sra_back (a : Int) (k : Nat) (hk : k < 64) (ha0 : 0 ≤ a) (ha : a < 18446744073709551616) :
    bits .or .u64 (IntKind.u64.wrap (IntKind.u64.wrap (wrap64 a / 2 ^ k) * 2 ^ k)) (bits .and .u64 a (IntKind.u64.wrap (IntKind.u64.wrap (2 ^ k) - 1))) = a ∧ (wrap64 (IntKind.u64.wrap (wrap64 a / 2 ^ k)) < 0 ↔ wrap64 a < 0) := by
  have es := pow_split k (by omega)
  have hp := pow_pos' k
  have hq := pow_pos' (64 - k)
  have hq2 : (2 : Int) ≤ 2 ^ (64 - k) := by
    have := pow_half (64 - k) (by omega)
    have := pow_pos' (64 - k - 1)
    omega
  obtain ⟨n, rfl⟩ := Int.eq_ofNat_of_zero_le ha0
  have e2 : ((2 ^ k : Nat) : Int) = (2 : Int) ^ k := Int.natCast_pow 2 k
  obtain ⟨P, hP⟩ : ∃ P : Nat, P = 2 ^ k := ⟨_, rfl⟩
  obtain ⟨Q, hQ⟩ : ∃ Q : Int, Q = 2 ^ (64 - k) := ⟨_, rfl⟩
  have hand : n &&& (P - 1) = n % P := by rw [hP]; exact Nat.and_two_pow_sub_one_eq_mod n k
  have hor : ∀ y, (P * y) ||| (n % P) = P * y + n % P := by
    intro y
    rw [hP]
    exact (Nat.two_pow_add_eq_or_of_lt (Nat.mod_lt _ (by omega)) y).symm
  rw [← hP] at e2
  rw [← e2] at es hp ⊢
  rw [← hQ] at es hq hq2
  clear hQ
  have hP1 : 1 ≤ P := by omega
  have hPM : (P : Int) * 2 ≤ 18446744073709551616 := by
    rw [← es]; exact Int.mul_le_mul_of_nonneg_left hq2 (by omega)
  have sa : wrap64 (n : Int) = n ∨ wrap64 (n : Int) = n - 18446744073709551616 := by unfold wrap64; omega
  have sr : -9223372036854775808 ≤ wrap64 (n : Int) ∧ wrap64 (n : Int) ≤ 9223372036854775807 := by unfold wrap64; omega
  obtain ⟨z, hz⟩ : ∃ z, z = wrap64 (n : Int) := ⟨_, rfl⟩
  rw [← hz] at sa sr ⊢
  have d1 := Int.ediv_mul_add_emod z P
  have d2 := Int.emod_lt_of_pos z hp
  have d3 := Int.emod_nonneg z (show (P : Int) ≠ 0 by omega)
  obtain ⟨d, hd⟩ : ∃ d, d = z / (P : Int) := ⟨_, rfl⟩
  rw [← hd] at d1 ⊢
  have hmod : z % (P : Int) = ((n % P : Nat) : Int) := by
    rw [Int.natCast_emod]
    rcases sa with h | h
    · rw [h]
    · rw [h, ← es, Int.sub_mul_emod_self_left]
  rw [hmod] at d1 d2 d3
  have hnd := Nat.div_add_mod n P
  clear hP es hz hmod
  have hdn : (0 ≤ z → 0 ≤ d ∧ d ≤ z) ∧ (z < 0 → d < 0 ∧ z ≤ d) := by
    refine ⟨fun h => ?_, fun h => ?_⟩
    · rw [hd]
      exact ⟨Int.ediv_nonneg h (by omega), Int.ediv_le_self _ h⟩
    · refine ⟨?_, ?_⟩
      · by_cases h0 : 0 ≤ d
        · have h7 : 0 ≤ d * (P : Int) := Int.mul_nonneg h0 (by omega)
          omega
        · omega
      · rw [hd]
        apply Int.le_ediv_of_mul_le hp
        have h8 : 0 ≤ (-z) * ((P : Int) - 1) := Int.mul_nonneg (by omega) (by omega)
        rw [Int.mul_sub, Int.mul_one, Int.neg_mul] at h8
        omega
  have hwd : wrap64 (IntKind.u64.wrap d) = d := by rw [IntKind.wrap_u64]; unfold wrap64; omega
  refine ⟨?_, by rw [hwd]; omega⟩
  have h1 : IntKind.u64.wrap (IntKind.u64.wrap (P : Int) - 1) = ((P - 1 : Nat) : Int) := by
    rw [IntKind.wrap_u64, IntKind.wrap_u64]; omega
  have h2 : IntKind.u64.wrap (IntKind.u64.wrap d * (P : Int)) = ((P * (n / P) : Nat) : Int) := by
    rw [IntKind.wrap_u64, IntKind.wrap_u64, Int.mul_emod, Int.emod_emod_of_dvd _ (Int.dvd_refl _), ← Int.mul_emod]
    have : P * (n / P) ≤ n := by omega
    omega
  rw [h1, h2, u64_and_nat n (P - 1) (by omega) (by omega), hand, u64_or_nat _ _ (by omega) (by omega), hor]
  omega

set_option maxRecDepth 10000 in
set_option maxHeartbeats 1600000 in
theorem shifts_any (a b : Int) (ha0 : 0 ≤ a) (ha : a < 18446744073709551616) (hb0 : 0 ≤ b) (hb : b < 18446744073709551616) (w : World) (h : ∀ i, i < 28 → w.cell? ⟨0, i, none⟩ = some (.string (nameAt i))) :
    Calls Tryd.prog 7 #[.int .u64 a, .int .u64 b] w fun e w' => e = .returned (.bool true) ∧ w' = w := by
  have SP := speaks_any w h
  clear h
  have D2 : Calls Tryd.prog 10 #[.int .i64 2, .int .u64 a, .int .u64 b] w fun e w' => e = .returned (.int .u64 (IntKind.u64.wrap (a * 2 ^ (b % 64).toNat))) ∧ w' = w := do_any 2 a b ha0 ha hb0 hb w (by omega)
  have D2' : Calls Tryd.prog 10 #[.int .i64 2, .int .u64 a, .int .u64 (IntKind.u64.wrap (b + 64))] w fun e w' => e = .returned (.int .u64 (IntKind.u64.wrap (a * 2 ^ (b % 64).toNat))) ∧ w' = w := by
    have h := do_any 2 a (IntKind.u64.wrap (b + 64)) ha0 ha (by rw [IntKind.wrap_u64]; omega) (by rw [IntKind.wrap_u64]; omega) w (by omega)
    have e : op 2 a (IntKind.u64.wrap (b + 64)) = IntKind.u64.wrap (a * 2 ^ (b % 64).toNat) := by
      show IntKind.u64.wrap (a * 2 ^ (IntKind.u64.wrap (b + 64) % 64).toNat) = _
      rw [show IntKind.u64.wrap (b + 64) % 64 = b % 64 by rw [IntKind.wrap_u64]; omega]
    rw [e] at h
    exact h
  have D6 : Calls Tryd.prog 10 #[.int .i64 6, .int .u64 a, .int .u64 b] w fun e w' => e = .returned (.int .u64 (a / 2 ^ (b % 64).toNat)) ∧ w' = w := do_any 6 a b ha0 ha hb0 hb w (by omega)
  have D6' : Calls Tryd.prog 10 #[.int .i64 6, .int .u64 (IntKind.u64.wrap (a * 2 ^ (b % 64).toNat)), .int .u64 b] w fun e w' => e = .returned (.int .u64 (IntKind.u64.wrap (a * 2 ^ (b % 64).toNat) / 2 ^ (b % 64).toNat)) ∧ w' = w := do_any 6 _ b (by rw [IntKind.wrap_u64]; omega) (by rw [IntKind.wrap_u64]; omega) hb0 hb w (by omega)
  have D7 : Calls Tryd.prog 10 #[.int .i64 7, .int .u64 a, .int .u64 b] w fun e w' => e = .returned (.int .u64 (whole 7 a b)) ∧ w' = w := do_any 7 a b ha0 ha hb0 hb w (by omega)
  have D8 : Calls Tryd.prog 10 #[.int .i64 8, .int .u64 a, .int .u64 b] w fun e w' => e = .returned (.int .u64 (bits .or .u64 a b)) ∧ w' = w := do_any 8 a b ha0 ha hb0 hb w (by omega)
  have D9 : Calls Tryd.prog 10 #[.int .i64 9, .int .u64 a, .int .u64 b] w fun e w' => e = .returned (.int .u64 (bits .and .u64 a b)) ∧ w' = w := do_any 9 a b ha0 ha hb0 hb w (by omega)
  have D5 : Calls Tryd.prog 10 #[.int .i64 5, .int .u64 (bits .or .u64 a b), .int .u64 (bits .and .u64 a b)] w fun e w' => e = .returned (.int .u64 (bits .xor .u64 a b)) ∧ w' = w := by
    have r1 := bits_u64_range .or (.inl rfl) a b ha0 ha hb0 hb
    have r2 := bits_u64_range .and (.inr (.inl rfl)) a b ha0 ha hb0 hb
    have h := do_any 5 (bits .or .u64 a b) (bits .and .u64 a b) r1.1 r1.2 r2.1 r2.2 w (by omega)
    have e : op 5 (bits .or .u64 a b) (bits .and .u64 a b) = bits .xor .u64 a b := xor_of a b ha0 ha hb0 hb
    rw [e] at h
    exact h
  have SB := sra_back a (b % 64).toNat (by omega) ha0 ha
  obtain ⟨s, hs⟩ : ∃ s, s = whole 7 a b := ⟨_, rfl⟩
  rw [← hs] at D7
  have hs2 : IntKind.u64.wrap (wrap64 a / 2 ^ (b % 64).toNat) = s := hs.symm
  rw [hs2] at SB
  clear hs hs2
  obtain ⟨SB1, SB2⟩ := SB
  generalize bits .or .u64 a b = x at *
  generalize bits .and .u64 a b = y at *
  by_cases hsa : wrap64 a < 0
  all_goals
    have hs := hsa
    rw [← SB2] at hs
    clear SB2
    go_enter Tryd.func7, Tryd.ntmps7
    go_wp2_with (first
      | (go_at_call 9; with_reducible refine SP.mono ?_; rintro e w' ⟨rfl, rfl⟩)
      | (go_at_call 10; with_reducible refine D2.mono ?_; rintro e w' ⟨rfl, rfl⟩)
      | (go_at_call 10; with_reducible refine D2'.mono ?_; rintro e w' ⟨rfl, rfl⟩)
      | (go_at_call 10; with_reducible refine D6.mono ?_; rintro e w' ⟨rfl, rfl⟩)
      | (go_at_call 10; with_reducible refine D6'.mono ?_; rintro e w' ⟨rfl, rfl⟩)
      | (go_at_call 10; with_reducible refine D7.mono ?_; rintro e w' ⟨rfl, rfl⟩)
      | (go_at_call 10; with_reducible refine D8.mono ?_; rintro e w' ⟨rfl, rfl⟩)
      | (go_at_call 10; with_reducible refine D9.mono ?_; rintro e w' ⟨rfl, rfl⟩)
      | (go_at_call 10; with_reducible refine D5.mono ?_; rintro e w' ⟨rfl, rfl⟩))
    go_ret
    exact ⟨rfl, rfl⟩
end Go.Proofs.YtmfmakkiefgogaaDoor
