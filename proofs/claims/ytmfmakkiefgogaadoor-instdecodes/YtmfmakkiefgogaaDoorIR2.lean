/-
  Layer 6: the document's Imm. No condition.
-/
import Derived.Test.YtmfmakkiefgogaaDoorIR1
namespace Go.Proofs.YtmfmakkiefgogaaDoor
open Go.RowKit
set_option linter.unusedVariables false

theorem sgn_ext (n b : Nat) (h1 : 1 ≤ b) (hb : b ≤ 21) (hn : n < 2 ^ b) : wrap64 (ext (n : Int) (b : Int)) = sgnF n b := by
  have hP : (2 : Nat) ^ b ≤ 2 ^ 21 := Nat.pow_le_pow_right (by omega) hb
  have hh : (2 : Nat) ^ b = 2 * 2 ^ (b - 1) := by rw [← Nat.pow_succ']; congr 1; omega
  have e1 : (2 : Int) ^ b = ((2 ^ b : Nat) : Int) := by rw [Int.natCast_pow]; rfl
  have e2 : (2 : Int) ^ (b - 1) = ((2 ^ (b - 1) : Nat) : Int) := by rw [Int.natCast_pow]; rfl
  unfold ext sgnF
  rw [if_pos (by omega), Int.toNat_natCast, e1, e2]
  generalize (2 : Nat) ^ (b - 1) = Q at *
  generalize (2 : Nat) ^ b = P at *
  have e3 : (n : Int) % (P : Int) = n := Int.emod_eq_of_lt (by omega) (by omega)
  rw [e3]
  unfold wrap64
  split <;> split <;> omega

theorem imm_85 (x : Nat) : immOf x 85 = sgnF (x / 2 ^ 12 % 2 ^ 20) 20 * 4096 := by
  show wrap64 (ext ((0 ||| x / 2 ^ 12 % 2 ^ 20 * 2 ^ 12 % 4294967296 : Nat) : Int) 32) = _
  rw [Nat.zero_or]
  have hT : x / 2 ^ 12 % 2 ^ 20 < 2 ^ 20 := Nat.mod_lt _ (by omega)
  generalize x / 2 ^ 12 % 2 ^ 20 = T at *
  unfold ext sgnF
  have e : (2 : Int) ^ (32 : Int).toNat = 4294967296 := rfl
  have e' : (2 : Int) ^ ((32 : Int).toNat - 1) = 2147483648 := rfl
  rw [if_pos (by omega), e, e']
  unfold wrap64
  split <;> split <;> omega
theorem imm_73 (x : Nat) : immOf x 73 = sgnF (x / 2 ^ 20 % 2 ^ 12) 12 := by
  show wrap64 (ext ((0 ||| x / 2 ^ 20 % 2 ^ 12 * 2 ^ 0 % 4294967296 : Nat) : Int) ((12 : Nat) : Int)) = _
  have hT : x / 2 ^ 20 % 2 ^ 12 < 2 ^ 12 := Nat.mod_lt _ (by omega)
  have e : 0 ||| x / 2 ^ 20 % 2 ^ 12 * 2 ^ 0 % 4294967296 = x / 2 ^ 20 % 2 ^ 12 := by rw [Nat.zero_or]; omega
  rw [e]
  exact sgn_ext _ 12 (by omega) (by omega) hT
theorem imm_72 (x : Nat) : immOf x 72 = ((x / 2 ^ 20 % 2 ^ 6 : Nat) : Int) := by
  show wrap64 (ext ((0 ||| x / 2 ^ 20 % 2 ^ 6 * 2 ^ 0 % 4294967296 : Nat) : Int) 0) = _
  have hT : x / 2 ^ 20 % 2 ^ 6 < 2 ^ 6 := Nat.mod_lt _ (by omega)
  have e : 0 ||| x / 2 ^ 20 % 2 ^ 6 * 2 ^ 0 % 4294967296 = x / 2 ^ 20 % 2 ^ 6 := by rw [Nat.zero_or]; omega
  rw [e]
  unfold ext
  rw [if_neg (by omega)]
  unfold wrap64; omega
theorem imm_75 (x : Nat) : immOf x 75 = ((x / 2 ^ 20 % 2 ^ 5 : Nat) : Int) := by
  show wrap64 (ext ((0 ||| x / 2 ^ 20 % 2 ^ 5 * 2 ^ 0 % 4294967296 : Nat) : Int) 0) = _
  have hT : x / 2 ^ 20 % 2 ^ 5 < 2 ^ 5 := Nat.mod_lt _ (by omega)
  have e : 0 ||| x / 2 ^ 20 % 2 ^ 5 * 2 ^ 0 % 4294967296 = x / 2 ^ 20 % 2 ^ 5 := by rw [Nat.zero_or]; omega
  rw [e]
  unfold ext
  rw [if_neg (by omega)]
  unfold wrap64; omega
theorem imm_83 (x : Nat) : immOf x 83 = sgnF (32 * (x / 2 ^ 25 % 2 ^ 7) + x / 2 ^ 7 % 2 ^ 5) 12 := by
  show wrap64 (ext (((0 ||| x / 2 ^ 25 % 2 ^ 7 * 2 ^ 5 % 4294967296) ||| x / 2 ^ 7 % 2 ^ 5 * 2 ^ 0 % 4294967296 : Nat) : Int) ((12 : Nat) : Int)) = _
  have hA : x / 2 ^ 25 % 2 ^ 7 < 2 ^ 7 := Nat.mod_lt _ (by omega)
  have hB : x / 2 ^ 7 % 2 ^ 5 < 2 ^ 5 := Nat.mod_lt _ (by omega)
  generalize x / 2 ^ 25 % 2 ^ 7 = A at *
  generalize x / 2 ^ 7 % 2 ^ 5 = B at *
  have e : (0 ||| A * 2 ^ 5 % 4294967296) ||| B * 2 ^ 0 % 4294967296 = 32 * A + B := by
    rw [Nat.zero_or, nat_join 5 _ _ (by omega) (by omega)]; omega
  rw [e]
  exact sgn_ext _ 12 (by omega) (by omega) (by omega)
theorem imm_66 (x : Nat) : immOf x 66 = sgnF (4096 * (x / 2 ^ 31 % 2 ^ 1) + 2048 * (x / 2 ^ 7 % 2 ^ 1) + 32 * (x / 2 ^ 25 % 2 ^ 6) + 2 * (x / 2 ^ 8 % 2 ^ 4)) 13 := by
  show wrap64 (ext (((((0 ||| x / 2 ^ 31 % 2 ^ 1 * 2 ^ 12 % 4294967296) ||| x / 2 ^ 7 % 2 ^ 1 * 2 ^ 11 % 4294967296) ||| x / 2 ^ 25 % 2 ^ 6 * 2 ^ 5 % 4294967296) ||| x / 2 ^ 8 % 2 ^ 4 * 2 ^ 1 % 4294967296 : Nat) : Int) ((13 : Nat) : Int)) = _
  have hA : x / 2 ^ 31 % 2 ^ 1 < 2 ^ 1 := Nat.mod_lt _ (by omega)
  have hB : x / 2 ^ 7 % 2 ^ 1 < 2 ^ 1 := Nat.mod_lt _ (by omega)
  have hC : x / 2 ^ 25 % 2 ^ 6 < 2 ^ 6 := Nat.mod_lt _ (by omega)
  have hD : x / 2 ^ 8 % 2 ^ 4 < 2 ^ 4 := Nat.mod_lt _ (by omega)
  generalize x / 2 ^ 31 % 2 ^ 1 = A at *
  generalize x / 2 ^ 7 % 2 ^ 1 = B at *
  generalize x / 2 ^ 25 % 2 ^ 6 = C at *
  generalize x / 2 ^ 8 % 2 ^ 4 = D at *
  have e : (((0 ||| A * 2 ^ 12 % 4294967296) ||| B * 2 ^ 11 % 4294967296) ||| C * 2 ^ 5 % 4294967296) ||| D * 2 ^ 1 % 4294967296 = 4096 * A + 2048 * B + 32 * C + 2 * D := by
    rw [Nat.zero_or, nat_join 12 (A * 2 ^ 12 % 4294967296) (B * 2 ^ 11 % 4294967296) (by omega) (by omega), nat_join 11 _ (C * 2 ^ 5 % 4294967296) (by omega) (by omega), nat_join 5 _ (D * 2 ^ 1 % 4294967296) (by omega) (by omega)]; omega
  rw [e]
  exact sgn_ext _ 13 (by omega) (by omega) (by omega)
theorem gather4 (p1 p2 p3 p4 : Piece) (x : Nat) : gather [p1, p2, p3, p4] x = ((p1.from_ x ||| p2.from_ x) ||| p3.from_ x) ||| p4.from_ x := by simp [gather]
theorem join4 (A B C D : Nat) (hA : A < 2) (hB : B < 256) (hC : C < 2) (hD : D < 1024) : ((A * 1048576 ||| B * 4096) ||| C * 2048) ||| D * 2 = 1048576 * A + 4096 * B + 2048 * C + 2 * D := by
  have e1 := nat_join 20 (A * 1048576) (B * 4096) (by omega) (by omega)
  have e2 := nat_join 12 (A * 1048576 + B * 4096) (C * 2048) (by omega) (by omega)
  have e3 := nat_join 11 (A * 1048576 + B * 4096 + C * 2048) (D * 2) (by omega) (by omega)
  rw [e1, e2, e3]
  omega
theorem imm_74 (x : Nat) : immOf x 74 = sgnF (1048576 * (x / 2 ^ 31 % 2 ^ 1) + 4096 * (x / 2 ^ 12 % 2 ^ 8) + 2048 * (x / 2 ^ 20 % 2 ^ 1) + 2 * (x / 2 ^ 21 % 2 ^ 10)) 21 := by
  have hp : piecesOf 74 = [⟨1, 31, 20⟩, ⟨8, 12, 12⟩, ⟨1, 20, 11⟩, ⟨10, 21, 1⟩] := rfl
  have hs : signedOf 74 = ((21 : Nat) : Int) := rfl
  unfold immOf
  rw [hp, hs, gather4]
  unfold Piece.from_
  simp only
  have hA : x / 2 ^ 31 % 2 ^ 1 < 2 ^ 1 := Nat.mod_lt _ (by omega)
  have hB : x / 2 ^ 12 % 2 ^ 8 < 2 ^ 8 := Nat.mod_lt _ (by omega)
  have hC : x / 2 ^ 20 % 2 ^ 1 < 2 ^ 1 := Nat.mod_lt _ (by omega)
  have hD : x / 2 ^ 21 % 2 ^ 10 < 2 ^ 10 := Nat.mod_lt _ (by omega)
  generalize x / 2 ^ 31 % 2 ^ 1 = A at *
  generalize x / 2 ^ 12 % 2 ^ 8 = B at *
  generalize x / 2 ^ 20 % 2 ^ 1 = C at *
  generalize x / 2 ^ 21 % 2 ^ 10 = D at *
  have a1 : A * 2 ^ 20 % 4294967296 = A * 1048576 := Nat.mod_eq_of_lt (show A * 1048576 < 4294967296 by omega)
  have a2 : B * 2 ^ 12 % 4294967296 = B * 4096 := Nat.mod_eq_of_lt (show B * 4096 < 4294967296 by omega)
  have a3 : C * 2 ^ 11 % 4294967296 = C * 2048 := Nat.mod_eq_of_lt (show C * 2048 < 4294967296 by omega)
  have a4 : D * 2 ^ 1 % 4294967296 = D * 2 := Nat.mod_eq_of_lt (show D * 2 < 4294967296 by omega)
  rw [a1, a2, a3, a4, join4 A B C D (by omega) (by omega) (by omega) (by omega)]
  clear a1 a2 a3 a4
  exact sgn_ext _ 21 (by omega) (by omega) (by omega)
theorem imm_other (x : Nat) (c : Int) (h : c = 82 ∨ c = 78) : immOf x c = 0 := by
  have hp : piecesOf c = [] := by rcases h with rfl | rfl <;> rfl
  have hs : signedOf c = 0 := by rcases h with rfl | rfl <;> rfl
  unfold immOf
  rw [hp, hs]
  have e : gather [] x = 0 := rfl
  rw [e]
  unfold ext
  rw [if_neg (by omega)]
  unfold wrap64; omega
theorem sgn_range (n b : Nat) (hb : b ≤ 21) (hn : n < 2 ^ b) : -2097152 ≤ sgnF n b ∧ sgnF n b ≤ 2097152 := by
  have hP : (2 : Nat) ^ b ≤ 2 ^ 21 := Nat.pow_le_pow_right (by omega) hb
  unfold sgnF
  generalize (2 : Nat) ^ b = P at *
  split <;> omega

set_option maxRecDepth 10000 in
set_option maxHeartbeats 800000 in
theorem imm_any85 (x : Nat) (hx : x < 4294967296) (w : World) :
    Calls Tryd.prog 34 #[.string ⟨#[85]⟩, .int .u32 x] w fun e w' => e = .returned (.int .i64 (immOf x 85)) ∧ w' = w := by
  have H : Hid (_) := imm_85 x
  have P0 : ∀ w, Calls Tryd.prog 35 #[.int .u32 x, .int .i64 12, .int .i64 20] w fun e w' => e = .returned (.int .u32 ((x / 2 ^ 12 % 2 ^ 20 : Nat) : Int)) ∧ w' = w := fun w => bits_any x 12 20 hx (by omega) (by omega) w
  have hA : x / 2 ^ 12 % 2 ^ 20 < 1048576 := Nat.mod_lt _ (by omega)
  generalize x / 2 ^ 12 % 2 ^ 20 = A at *
  have SG : ∀ w, Calls Tryd.prog 60 #[.int .u32 ((A : Int)), .int .i64 20] w fun e w' => e = .returned (.int .i64 (sgnF (A) 20)) ∧ w' = w := fun w => sgn_any (A) 20 (by omega) (by omega) w
  have hR := sgn_range (A) 20 (by omega) (by omega)
  go_enter Tryd.func34, Tryd.ntmps34
  go_wp2_with (first
    | (go_at_call 35; with_reducible refine (P0 _).mono ?_; rintro e w' ⟨rfl, hw⟩; subst hw)
    | (go_at_call 60; with_reducible refine (SG _).mono ?_; rintro e w' ⟨rfl, hw⟩; subst hw))
  go_ret
  refine ⟨ret_int ?_, rfl⟩
  rw [H.out]

set_option maxRecDepth 10000 in
set_option maxHeartbeats 800000 in
theorem imm_any74 (x : Nat) (hx : x < 4294967296) (w : World) :
    Calls Tryd.prog 34 #[.string ⟨#[74]⟩, .int .u32 x] w fun e w' => e = .returned (.int .i64 (immOf x 74)) ∧ w' = w := by
  have H : Hid (_) := imm_74 x
  have P0 : ∀ w, Calls Tryd.prog 35 #[.int .u32 x, .int .i64 31, .int .i64 1] w fun e w' => e = .returned (.int .u32 ((x / 2 ^ 31 % 2 ^ 1 : Nat) : Int)) ∧ w' = w := fun w => bits_any x 31 1 hx (by omega) (by omega) w
  have hA : x / 2 ^ 31 % 2 ^ 1 < 2 := Nat.mod_lt _ (by omega)
  have P1 : ∀ w, Calls Tryd.prog 35 #[.int .u32 x, .int .i64 12, .int .i64 8] w fun e w' => e = .returned (.int .u32 ((x / 2 ^ 12 % 2 ^ 8 : Nat) : Int)) ∧ w' = w := fun w => bits_any x 12 8 hx (by omega) (by omega) w
  have hB : x / 2 ^ 12 % 2 ^ 8 < 256 := Nat.mod_lt _ (by omega)
  have P2 : ∀ w, Calls Tryd.prog 35 #[.int .u32 x, .int .i64 20, .int .i64 1] w fun e w' => e = .returned (.int .u32 ((x / 2 ^ 20 % 2 ^ 1 : Nat) : Int)) ∧ w' = w := fun w => bits_any x 20 1 hx (by omega) (by omega) w
  have hC : x / 2 ^ 20 % 2 ^ 1 < 2 := Nat.mod_lt _ (by omega)
  have P3 : ∀ w, Calls Tryd.prog 35 #[.int .u32 x, .int .i64 21, .int .i64 10] w fun e w' => e = .returned (.int .u32 ((x / 2 ^ 21 % 2 ^ 10 : Nat) : Int)) ∧ w' = w := fun w => bits_any x 21 10 hx (by omega) (by omega) w
  have hD : x / 2 ^ 21 % 2 ^ 10 < 1024 := Nat.mod_lt _ (by omega)
  generalize x / 2 ^ 31 % 2 ^ 1 = A at *
  generalize x / 2 ^ 12 % 2 ^ 8 = B at *
  generalize x / 2 ^ 20 % 2 ^ 1 = C at *
  generalize x / 2 ^ 21 % 2 ^ 10 = D at *
  have SG : ∀ w, Calls Tryd.prog 60 #[.int .u32 (1048576 * (A : Int) + 4096 * (B : Int) + 2048 * (C : Int) + 2 * (D : Int)), .int .i64 21] w fun e w' => e = .returned (.int .i64 (sgnF (1048576 * A + 4096 * B + 2048 * C + 2 * D) 21)) ∧ w' = w := fun w => sgn_any (1048576 * A + 4096 * B + 2048 * C + 2 * D) 21 (by omega) (by omega) w
  have hR := sgn_range (1048576 * A + 4096 * B + 2048 * C + 2 * D) 21 (by omega) (by omega)
  go_enter Tryd.func34, Tryd.ntmps34
  go_wp2_with (first
    | (go_at_call 35; with_reducible refine (P0 _).mono ?_; rintro e w' ⟨rfl, hw⟩; subst hw)
    | (go_at_call 35; with_reducible refine (P1 _).mono ?_; rintro e w' ⟨rfl, hw⟩; subst hw)
    | (go_at_call 35; with_reducible refine (P2 _).mono ?_; rintro e w' ⟨rfl, hw⟩; subst hw)
    | (go_at_call 35; with_reducible refine (P3 _).mono ?_; rintro e w' ⟨rfl, hw⟩; subst hw)
    | (go_at_call 60; with_reducible refine (SG _).mono ?_; rintro e w' ⟨rfl, hw⟩; subst hw))
  go_ret
  refine ⟨ret_int ?_, rfl⟩
  rw [H.out]

set_option maxRecDepth 10000 in
set_option maxHeartbeats 800000 in
theorem imm_any73 (x : Nat) (hx : x < 4294967296) (w : World) :
    Calls Tryd.prog 34 #[.string ⟨#[73]⟩, .int .u32 x] w fun e w' => e = .returned (.int .i64 (immOf x 73)) ∧ w' = w := by
  have H : Hid (_) := imm_73 x
  have P0 : ∀ w, Calls Tryd.prog 35 #[.int .u32 x, .int .i64 20, .int .i64 12] w fun e w' => e = .returned (.int .u32 ((x / 2 ^ 20 % 2 ^ 12 : Nat) : Int)) ∧ w' = w := fun w => bits_any x 20 12 hx (by omega) (by omega) w
  have hA : x / 2 ^ 20 % 2 ^ 12 < 4096 := Nat.mod_lt _ (by omega)
  generalize x / 2 ^ 20 % 2 ^ 12 = A at *
  have SG : ∀ w, Calls Tryd.prog 60 #[.int .u32 ((A : Int)), .int .i64 12] w fun e w' => e = .returned (.int .i64 (sgnF (A) 12)) ∧ w' = w := fun w => sgn_any (A) 12 (by omega) (by omega) w
  have hR := sgn_range (A) 12 (by omega) (by omega)
  go_enter Tryd.func34, Tryd.ntmps34
  go_wp2_with (first
    | (go_at_call 35; with_reducible refine (P0 _).mono ?_; rintro e w' ⟨rfl, hw⟩; subst hw)
    | (go_at_call 60; with_reducible refine (SG _).mono ?_; rintro e w' ⟨rfl, hw⟩; subst hw))
  go_ret
  refine ⟨ret_int ?_, rfl⟩
  rw [H.out]

set_option maxRecDepth 10000 in
set_option maxHeartbeats 800000 in
theorem imm_any66 (x : Nat) (hx : x < 4294967296) (w : World) :
    Calls Tryd.prog 34 #[.string ⟨#[66]⟩, .int .u32 x] w fun e w' => e = .returned (.int .i64 (immOf x 66)) ∧ w' = w := by
  have H : Hid (_) := imm_66 x
  have P0 : ∀ w, Calls Tryd.prog 35 #[.int .u32 x, .int .i64 31, .int .i64 1] w fun e w' => e = .returned (.int .u32 ((x / 2 ^ 31 % 2 ^ 1 : Nat) : Int)) ∧ w' = w := fun w => bits_any x 31 1 hx (by omega) (by omega) w
  have hA : x / 2 ^ 31 % 2 ^ 1 < 2 := Nat.mod_lt _ (by omega)
  have P1 : ∀ w, Calls Tryd.prog 35 #[.int .u32 x, .int .i64 7, .int .i64 1] w fun e w' => e = .returned (.int .u32 ((x / 2 ^ 7 % 2 ^ 1 : Nat) : Int)) ∧ w' = w := fun w => bits_any x 7 1 hx (by omega) (by omega) w
  have hB : x / 2 ^ 7 % 2 ^ 1 < 2 := Nat.mod_lt _ (by omega)
  have P2 : ∀ w, Calls Tryd.prog 35 #[.int .u32 x, .int .i64 25, .int .i64 6] w fun e w' => e = .returned (.int .u32 ((x / 2 ^ 25 % 2 ^ 6 : Nat) : Int)) ∧ w' = w := fun w => bits_any x 25 6 hx (by omega) (by omega) w
  have hC : x / 2 ^ 25 % 2 ^ 6 < 64 := Nat.mod_lt _ (by omega)
  have P3 : ∀ w, Calls Tryd.prog 35 #[.int .u32 x, .int .i64 8, .int .i64 4] w fun e w' => e = .returned (.int .u32 ((x / 2 ^ 8 % 2 ^ 4 : Nat) : Int)) ∧ w' = w := fun w => bits_any x 8 4 hx (by omega) (by omega) w
  have hD : x / 2 ^ 8 % 2 ^ 4 < 16 := Nat.mod_lt _ (by omega)
  generalize x / 2 ^ 31 % 2 ^ 1 = A at *
  generalize x / 2 ^ 7 % 2 ^ 1 = B at *
  generalize x / 2 ^ 25 % 2 ^ 6 = C at *
  generalize x / 2 ^ 8 % 2 ^ 4 = D at *
  have SG : ∀ w, Calls Tryd.prog 60 #[.int .u32 (4096 * (A : Int) + 2048 * (B : Int) + 32 * (C : Int) + 2 * (D : Int)), .int .i64 13] w fun e w' => e = .returned (.int .i64 (sgnF (4096 * A + 2048 * B + 32 * C + 2 * D) 13)) ∧ w' = w := fun w => sgn_any (4096 * A + 2048 * B + 32 * C + 2 * D) 13 (by omega) (by omega) w
  have hR := sgn_range (4096 * A + 2048 * B + 32 * C + 2 * D) 13 (by omega) (by omega)
  go_enter Tryd.func34, Tryd.ntmps34
  go_wp2_with (first
    | (go_at_call 35; with_reducible refine (P0 _).mono ?_; rintro e w' ⟨rfl, hw⟩; subst hw)
    | (go_at_call 35; with_reducible refine (P1 _).mono ?_; rintro e w' ⟨rfl, hw⟩; subst hw)
    | (go_at_call 35; with_reducible refine (P2 _).mono ?_; rintro e w' ⟨rfl, hw⟩; subst hw)
    | (go_at_call 35; with_reducible refine (P3 _).mono ?_; rintro e w' ⟨rfl, hw⟩; subst hw)
    | (go_at_call 60; with_reducible refine (SG _).mono ?_; rintro e w' ⟨rfl, hw⟩; subst hw))
  go_ret
  refine ⟨ret_int ?_, rfl⟩
  rw [H.out]

set_option maxRecDepth 10000 in
set_option maxHeartbeats 800000 in
theorem imm_any83 (x : Nat) (hx : x < 4294967296) (w : World) :
    Calls Tryd.prog 34 #[.string ⟨#[83]⟩, .int .u32 x] w fun e w' => e = .returned (.int .i64 (immOf x 83)) ∧ w' = w := by
  have H : Hid (_) := imm_83 x
  have P0 : ∀ w, Calls Tryd.prog 35 #[.int .u32 x, .int .i64 25, .int .i64 7] w fun e w' => e = .returned (.int .u32 ((x / 2 ^ 25 % 2 ^ 7 : Nat) : Int)) ∧ w' = w := fun w => bits_any x 25 7 hx (by omega) (by omega) w
  have hA : x / 2 ^ 25 % 2 ^ 7 < 128 := Nat.mod_lt _ (by omega)
  have P1 : ∀ w, Calls Tryd.prog 35 #[.int .u32 x, .int .i64 7, .int .i64 5] w fun e w' => e = .returned (.int .u32 ((x / 2 ^ 7 % 2 ^ 5 : Nat) : Int)) ∧ w' = w := fun w => bits_any x 7 5 hx (by omega) (by omega) w
  have hB : x / 2 ^ 7 % 2 ^ 5 < 32 := Nat.mod_lt _ (by omega)
  generalize x / 2 ^ 25 % 2 ^ 7 = A at *
  generalize x / 2 ^ 7 % 2 ^ 5 = B at *
  have SG : ∀ w, Calls Tryd.prog 60 #[.int .u32 (32 * (A : Int) + (B : Int)), .int .i64 12] w fun e w' => e = .returned (.int .i64 (sgnF (32 * A + B) 12)) ∧ w' = w := fun w => sgn_any (32 * A + B) 12 (by omega) (by omega) w
  have hR := sgn_range (32 * A + B) 12 (by omega) (by omega)
  go_enter Tryd.func34, Tryd.ntmps34
  go_wp2_with (first
    | (go_at_call 35; with_reducible refine (P0 _).mono ?_; rintro e w' ⟨rfl, hw⟩; subst hw)
    | (go_at_call 35; with_reducible refine (P1 _).mono ?_; rintro e w' ⟨rfl, hw⟩; subst hw)
    | (go_at_call 60; with_reducible refine (SG _).mono ?_; rintro e w' ⟨rfl, hw⟩; subst hw))
  go_ret
  refine ⟨ret_int ?_, rfl⟩
  rw [H.out]

set_option maxRecDepth 10000 in
set_option maxHeartbeats 800000 in
theorem imm_any72 (x : Nat) (hx : x < 4294967296) (w : World) :
    Calls Tryd.prog 34 #[.string ⟨#[72]⟩, .int .u32 x] w fun e w' => e = .returned (.int .i64 (immOf x 72)) ∧ w' = w := by
  have H : Hid (_) := imm_72 x
  have P0 : ∀ w, Calls Tryd.prog 35 #[.int .u32 x, .int .i64 20, .int .i64 6] w fun e w' => e = .returned (.int .u32 ((x / 2 ^ 20 % 2 ^ 6 : Nat) : Int)) ∧ w' = w := fun w => bits_any x 20 6 hx (by omega) (by omega) w
  have hA : x / 2 ^ 20 % 2 ^ 6 < 64 := Nat.mod_lt _ (by omega)
  generalize x / 2 ^ 20 % 2 ^ 6 = A at *
  go_enter Tryd.func34, Tryd.ntmps34
  go_wp2_with (first
    | (go_at_call 35; with_reducible refine (P0 _).mono ?_; rintro e w' ⟨rfl, hw⟩; subst hw))
  go_ret
  refine ⟨ret_int ?_, rfl⟩
  rw [H.out]

set_option maxRecDepth 10000 in
set_option maxHeartbeats 800000 in
theorem imm_any75 (x : Nat) (hx : x < 4294967296) (w : World) :
    Calls Tryd.prog 34 #[.string ⟨#[75]⟩, .int .u32 x] w fun e w' => e = .returned (.int .i64 (immOf x 75)) ∧ w' = w := by
  have H : Hid (_) := imm_75 x
  have P0 : ∀ w, Calls Tryd.prog 35 #[.int .u32 x, .int .i64 20, .int .i64 5] w fun e w' => e = .returned (.int .u32 ((x / 2 ^ 20 % 2 ^ 5 : Nat) : Int)) ∧ w' = w := fun w => bits_any x 20 5 hx (by omega) (by omega) w
  have hA : x / 2 ^ 20 % 2 ^ 5 < 32 := Nat.mod_lt _ (by omega)
  generalize x / 2 ^ 20 % 2 ^ 5 = A at *
  go_enter Tryd.func34, Tryd.ntmps34
  go_wp2_with (first
    | (go_at_call 35; with_reducible refine (P0 _).mono ?_; rintro e w' ⟨rfl, hw⟩; subst hw))
  go_ret
  refine ⟨ret_int ?_, rfl⟩
  rw [H.out]

set_option maxHeartbeats 400000 in
theorem imm_any82 (x : Nat) (hx : x < 4294967296) (w : World) :
    Calls Tryd.prog 34 #[.string ⟨#[82]⟩, .int .u32 x] w fun e w' => e = .returned (.int .i64 (immOf x 82)) ∧ w' = w := by
  have H : Hid (_) := imm_other x 82 (by omega)
  go_enter Tryd.func34, Tryd.ntmps34
  go_wp2
  go_ret
  exact ⟨ret_int H.out.symm, rfl⟩

set_option maxHeartbeats 400000 in
theorem imm_any78 (x : Nat) (hx : x < 4294967296) (w : World) :
    Calls Tryd.prog 34 #[.string ⟨#[78]⟩, .int .u32 x] w fun e w' => e = .returned (.int .i64 (immOf x 78)) ∧ w' = w := by
  have H : Hid (_) := imm_other x 78 (by omega)
  go_enter Tryd.func34, Tryd.ntmps34
  go_wp2
  go_ret
  exact ⟨ret_int H.out.symm, rfl⟩
end Go.Proofs.YtmfmakkiefgogaaDoor
