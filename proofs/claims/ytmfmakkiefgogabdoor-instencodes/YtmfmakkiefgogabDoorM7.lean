/-
  Layer 6: an instruction that may be, as the document asks it, goes into a word. No condition: lemmas on numbers.
-/
import Derived.Test.YtmfmakkiefgogabDoorM6
import Derived.Test.YtmfmakkiefgogabDoorApart
namespace Go.Proofs.YtmfmakkiefgogabDoor
open Go.RowKit
set_option linter.unusedVariables false

theorem fld (x lo mid hi p q : Nat) (hx : x = lo + p * (mid + q * hi)) (h1 : lo < p) (h2 : mid < q) : x / p % q = mid := by
  subst hx
  rw [Nat.add_mul_div_left _ _ (by omega), Nat.div_eq_of_lt h1, Nat.zero_add, Nat.add_mul_mod_self_left, Nat.mod_eq_of_lt h2]

theorem mk_85 (i : In) (op f3 f7 : Nat) (h1 : op < 128) (h2 : f3 < 8) (h3 : f7 < 128) (hm : mayF 85 i) :
    ∃ x : Nat, x < 4294967296 ∧ fitN 85 (x / 2 ^ 0 % 2 ^ 7) (x / 2 ^ 12 % 2 ^ 3) (x / 2 ^ 25 % 2 ^ 7) x op f3 f7 = true ∧ regOf x 7 sRd 85 = i.rd ∧ regOf x 15 sRs1 85 = i.r1 ∧ regOf x 20 sRs2 85 = i.r2 ∧ immOf x 85 = i.imm := by
  have g1 : has sRd.data.toList 85 = true := by decide +kernel
  have g2 : has sRs1.data.toList 85 = false := by decide +kernel
  have g3 : has sRs2.data.toList 85 = false := by decide +kernel
  obtain ⟨⟨a1, a2, a3, a4, a5, a6⟩, hq⟩ := hm
  obtain ⟨rd, hrd⟩ := Int.eq_ofNat_of_zero_le a1
  obtain ⟨r1, hr1⟩ := Int.eq_ofNat_of_zero_le a3
  obtain ⟨r2, hr2⟩ := Int.eq_ofNat_of_zero_le a5
  simp +decide only [if_true, if_false] at hq
  have n1 : rd < 32 := by omega
  have n2 : r1 < 32 := by omega
  have n3 : r2 < 32 := by omega
  obtain ⟨n, hn0⟩ : ∃ n : Nat, (n : Int) = i.imm / 4096 % 1048576 := ⟨(i.imm / 4096 % 1048576).toNat, by omega⟩
  have n4 : n < 1048576 := by omega
  have hz : i.imm = sgnF n 20 * 4096 := by unfold sgnF; rw [show (2 : Nat) ^ 20 = 1048576 from rfl]; split <;> omega
  have z1 : i.rd = (rd : Int) := by omega
  have z2 : i.r1 = 0 := by omega
  have z3 : i.r2 = 0 := by omega
  rw [hz, z1, z2, z3]
  clear hz z1 z2 z3 a1 a2 a3 a4 a5 a6 hq hrd hr1 hr2 hn0
  obtain ⟨x, hx⟩ : ∃ x, x = op + 128 * rd + 4096 * n := ⟨_, rfl⟩
  have p0 : x / 2 ^ 0 % 2 ^ 7 = op := fld x (0) (op) (rd + 32 * n) (2 ^ 0) (2 ^ 7) (by omega) (by omega) (by omega)
  refine ⟨x, by omega, ?_, ?_, ?_, ?_, ?_⟩
  · show decide (_) = true; rw [p0, decide_eq_true_iff]
  · unfold regOf; rw [g1, if_pos rfl]; exact congrArg Int.ofNat (fld x (op) (rd) (n) (2 ^ 7) (32) (by omega) (by omega) (by omega))
  · unfold regOf; rw [g2, if_neg (by decide)]
  · unfold regOf; rw [g3, if_neg (by decide)]
  · rw [imm_85, fld x (op + 128 * rd) (n) (0) (2 ^ 12) (2 ^ 20) (by omega) (by omega) (by omega)]

theorem mk_74 (i : In) (op f3 f7 : Nat) (h1 : op < 128) (h2 : f3 < 8) (h3 : f7 < 128) (hm : mayF 74 i) :
    ∃ x : Nat, x < 4294967296 ∧ fitN 74 (x / 2 ^ 0 % 2 ^ 7) (x / 2 ^ 12 % 2 ^ 3) (x / 2 ^ 25 % 2 ^ 7) x op f3 f7 = true ∧ regOf x 7 sRd 74 = i.rd ∧ regOf x 15 sRs1 74 = i.r1 ∧ regOf x 20 sRs2 74 = i.r2 ∧ immOf x 74 = i.imm := by
  have g1 : has sRd.data.toList 74 = true := by decide +kernel
  have g2 : has sRs1.data.toList 74 = false := by decide +kernel
  have g3 : has sRs2.data.toList 74 = false := by decide +kernel
  obtain ⟨⟨a1, a2, a3, a4, a5, a6⟩, hq⟩ := hm
  obtain ⟨rd, hrd⟩ := Int.eq_ofNat_of_zero_le a1
  obtain ⟨r1, hr1⟩ := Int.eq_ofNat_of_zero_le a3
  obtain ⟨r2, hr2⟩ := Int.eq_ofNat_of_zero_le a5
  simp +decide only [if_true, if_false] at hq
  have n1 : rd < 32 := by omega
  have n2 : r1 < 32 := by omega
  have n3 : r2 < 32 := by omega
  obtain ⟨n, hn0⟩ : ∃ n : Nat, (n : Int) = i.imm % 2097152 := ⟨(i.imm % 2097152).toNat, by omega⟩
  obtain ⟨A, B, C, D, b0, b1, b2, b3, b4⟩ : ∃ A B C D : Nat, A < 2 ∧ B < 256 ∧ C < 2 ∧ D < 1024 ∧ 1048576 * A + 4096 * B + 2048 * C + 2 * D = n := ⟨n / 1048576, n / 4096 % 256, n / 2048 % 2, n / 2 % 1024, by omega, by omega, by omega, by omega, by omega⟩
  have hz : i.imm = sgnF n 21 := by unfold sgnF; rw [show (2 : Nat) ^ 21 = 2097152 from rfl]; split <;> omega
  have z1 : i.rd = (rd : Int) := by omega
  have z2 : i.r1 = 0 := by omega
  have z3 : i.r2 = 0 := by omega
  rw [hz, z1, z2, z3]
  clear hz z1 z2 z3 a1 a2 a3 a4 a5 a6 hq hrd hr1 hr2 hn0
  obtain ⟨x, hx⟩ : ∃ x, x = op + 128 * rd + 4096 * B + 1048576 * C + 2097152 * D + 2147483648 * A := ⟨_, rfl⟩
  have p0 : x / 2 ^ 0 % 2 ^ 7 = op := fld x (0) (op) (rd + 32 * B + 8192 * C + 16384 * D + 16777216 * A) (2 ^ 0) (2 ^ 7) (by omega) (by omega) (by omega)
  refine ⟨x, by omega, ?_, ?_, ?_, ?_, ?_⟩
  · show decide (_) = true; rw [p0, decide_eq_true_iff]
  · unfold regOf; rw [g1, if_pos rfl]; exact congrArg Int.ofNat (fld x (op) (rd) (B + 256 * C + 512 * D + 524288 * A) (2 ^ 7) (32) (by omega) (by omega) (by omega))
  · unfold regOf; rw [g2, if_neg (by decide)]
  · unfold regOf; rw [g3, if_neg (by decide)]
  · rw [imm_74, fld x (op + 128 * rd + 4096 * B + 1048576 * C + 2097152 * D) (A) (0) (2 ^ 31) (2 ^ 1) (by omega) (by omega) (by omega), fld x (op + 128 * rd) (B) (C + 2 * D + 2048 * A) (2 ^ 12) (2 ^ 8) (by omega) (by omega) (by omega), fld x (op + 128 * rd + 4096 * B) (C) (D + 1024 * A) (2 ^ 20) (2 ^ 1) (by omega) (by omega) (by omega), fld x (op + 128 * rd + 4096 * B + 1048576 * C) (D) (A) (2 ^ 21) (2 ^ 10) (by omega) (by omega) (by omega)]; rw [b4]

theorem mk_73 (i : In) (op f3 f7 : Nat) (h1 : op < 128) (h2 : f3 < 8) (h3 : f7 < 128) (hm : mayF 73 i) :
    ∃ x : Nat, x < 4294967296 ∧ fitN 73 (x / 2 ^ 0 % 2 ^ 7) (x / 2 ^ 12 % 2 ^ 3) (x / 2 ^ 25 % 2 ^ 7) x op f3 f7 = true ∧ regOf x 7 sRd 73 = i.rd ∧ regOf x 15 sRs1 73 = i.r1 ∧ regOf x 20 sRs2 73 = i.r2 ∧ immOf x 73 = i.imm := by
  have g1 : has sRd.data.toList 73 = true := by decide +kernel
  have g2 : has sRs1.data.toList 73 = true := by decide +kernel
  have g3 : has sRs2.data.toList 73 = false := by decide +kernel
  obtain ⟨⟨a1, a2, a3, a4, a5, a6⟩, hq⟩ := hm
  obtain ⟨rd, hrd⟩ := Int.eq_ofNat_of_zero_le a1
  obtain ⟨r1, hr1⟩ := Int.eq_ofNat_of_zero_le a3
  obtain ⟨r2, hr2⟩ := Int.eq_ofNat_of_zero_le a5
  simp +decide only [if_true, if_false] at hq
  have n1 : rd < 32 := by omega
  have n2 : r1 < 32 := by omega
  have n3 : r2 < 32 := by omega
  obtain ⟨n, hn0⟩ : ∃ n : Nat, (n : Int) = i.imm % 4096 := ⟨(i.imm % 4096).toNat, by omega⟩
  have n4 : n < 4096 := by omega
  have hz : i.imm = sgnF n 12 := by unfold sgnF; rw [show (2 : Nat) ^ 12 = 4096 from rfl]; split <;> omega
  have z1 : i.rd = (rd : Int) := by omega
  have z2 : i.r1 = (r1 : Int) := by omega
  have z3 : i.r2 = 0 := by omega
  rw [hz, z1, z2, z3]
  clear hz z1 z2 z3 a1 a2 a3 a4 a5 a6 hq hrd hr1 hr2 hn0
  obtain ⟨x, hx⟩ : ∃ x, x = op + 128 * rd + 4096 * f3 + 32768 * r1 + 1048576 * n := ⟨_, rfl⟩
  have p0 : x / 2 ^ 0 % 2 ^ 7 = op := fld x (0) (op) (rd + 32 * f3 + 256 * r1 + 8192 * n) (2 ^ 0) (2 ^ 7) (by omega) (by omega) (by omega)
  have p1 : x / 2 ^ 12 % 2 ^ 3 = f3 := fld x (op + 128 * rd) (f3) (r1 + 32 * n) (2 ^ 12) (2 ^ 3) (by omega) (by omega) (by omega)
  refine ⟨x, by omega, ?_, ?_, ?_, ?_, ?_⟩
  · show decide (_) = true; rw [p0, p1, decide_eq_true_iff]; exact ⟨rfl, rfl⟩
  · unfold regOf; rw [g1, if_pos rfl]; exact congrArg Int.ofNat (fld x (op) (rd) (f3 + 8 * r1 + 256 * n) (2 ^ 7) (32) (by omega) (by omega) (by omega))
  · unfold regOf; rw [g2, if_pos rfl]; exact congrArg Int.ofNat (fld x (op + 128 * rd + 4096 * f3) (r1) (n) (2 ^ 15) (32) (by omega) (by omega) (by omega))
  · unfold regOf; rw [g3, if_neg (by decide)]
  · rw [imm_73, fld x (op + 128 * rd + 4096 * f3 + 32768 * r1) (n) (0) (2 ^ 20) (2 ^ 12) (by omega) (by omega) (by omega)]

theorem mk_66 (i : In) (op f3 f7 : Nat) (h1 : op < 128) (h2 : f3 < 8) (h3 : f7 < 128) (hm : mayF 66 i) :
    ∃ x : Nat, x < 4294967296 ∧ fitN 66 (x / 2 ^ 0 % 2 ^ 7) (x / 2 ^ 12 % 2 ^ 3) (x / 2 ^ 25 % 2 ^ 7) x op f3 f7 = true ∧ regOf x 7 sRd 66 = i.rd ∧ regOf x 15 sRs1 66 = i.r1 ∧ regOf x 20 sRs2 66 = i.r2 ∧ immOf x 66 = i.imm := by
  have g1 : has sRd.data.toList 66 = false := by decide +kernel
  have g2 : has sRs1.data.toList 66 = true := by decide +kernel
  have g3 : has sRs2.data.toList 66 = true := by decide +kernel
  obtain ⟨⟨a1, a2, a3, a4, a5, a6⟩, hq⟩ := hm
  obtain ⟨rd, hrd⟩ := Int.eq_ofNat_of_zero_le a1
  obtain ⟨r1, hr1⟩ := Int.eq_ofNat_of_zero_le a3
  obtain ⟨r2, hr2⟩ := Int.eq_ofNat_of_zero_le a5
  simp +decide only [if_true, if_false] at hq
  have n1 : rd < 32 := by omega
  have n2 : r1 < 32 := by omega
  have n3 : r2 < 32 := by omega
  obtain ⟨n, hn0⟩ : ∃ n : Nat, (n : Int) = i.imm % 8192 := ⟨(i.imm % 8192).toNat, by omega⟩
  obtain ⟨A, B, C, D, b0, b1, b2, b3, b4⟩ : ∃ A B C D : Nat, A < 2 ∧ B < 2 ∧ C < 64 ∧ D < 16 ∧ 4096 * A + 2048 * B + 32 * C + 2 * D = n := ⟨n / 4096, n / 2048 % 2, n / 32 % 64, n / 2 % 16, by omega, by omega, by omega, by omega, by omega⟩
  have hz : i.imm = sgnF n 13 := by unfold sgnF; rw [show (2 : Nat) ^ 13 = 8192 from rfl]; split <;> omega
  have z1 : i.rd = 0 := by omega
  have z2 : i.r1 = (r1 : Int) := by omega
  have z3 : i.r2 = (r2 : Int) := by omega
  rw [hz, z1, z2, z3]
  clear hz z1 z2 z3 a1 a2 a3 a4 a5 a6 hq hrd hr1 hr2 hn0
  obtain ⟨x, hx⟩ : ∃ x, x = op + 128 * B + 256 * D + 4096 * f3 + 32768 * r1 + 1048576 * r2 + 33554432 * C + 2147483648 * A := ⟨_, rfl⟩
  have p0 : x / 2 ^ 0 % 2 ^ 7 = op := fld x (0) (op) (B + 2 * D + 32 * f3 + 256 * r1 + 8192 * r2 + 262144 * C + 16777216 * A) (2 ^ 0) (2 ^ 7) (by omega) (by omega) (by omega)
  have p1 : x / 2 ^ 12 % 2 ^ 3 = f3 := fld x (op + 128 * B + 256 * D) (f3) (r1 + 32 * r2 + 1024 * C + 65536 * A) (2 ^ 12) (2 ^ 3) (by omega) (by omega) (by omega)
  refine ⟨x, by omega, ?_, ?_, ?_, ?_, ?_⟩
  · show decide (_) = true; rw [p0, p1, decide_eq_true_iff]; exact ⟨rfl, rfl⟩
  · unfold regOf; rw [g1, if_neg (by decide)]
  · unfold regOf; rw [g2, if_pos rfl]; exact congrArg Int.ofNat (fld x (op + 128 * B + 256 * D + 4096 * f3) (r1) (r2 + 32 * C + 2048 * A) (2 ^ 15) (32) (by omega) (by omega) (by omega))
  · unfold regOf; rw [g3, if_pos rfl]; exact congrArg Int.ofNat (fld x (op + 128 * B + 256 * D + 4096 * f3 + 32768 * r1) (r2) (C + 64 * A) (2 ^ 20) (32) (by omega) (by omega) (by omega))
  · rw [imm_66, fld x (op + 128 * B + 256 * D + 4096 * f3 + 32768 * r1 + 1048576 * r2 + 33554432 * C) (A) (0) (2 ^ 31) (2 ^ 1) (by omega) (by omega) (by omega), fld x (op) (B) (D + 16 * f3 + 128 * r1 + 4096 * r2 + 131072 * C + 8388608 * A) (2 ^ 7) (2 ^ 1) (by omega) (by omega) (by omega), fld x (op + 128 * B + 256 * D + 4096 * f3 + 32768 * r1 + 1048576 * r2) (C) (A) (2 ^ 25) (2 ^ 6) (by omega) (by omega) (by omega), fld x (op + 128 * B) (D) (f3 + 8 * r1 + 256 * r2 + 8192 * C + 524288 * A) (2 ^ 8) (2 ^ 4) (by omega) (by omega) (by omega)]; rw [b4]

theorem mk_83 (i : In) (op f3 f7 : Nat) (h1 : op < 128) (h2 : f3 < 8) (h3 : f7 < 128) (hm : mayF 83 i) :
    ∃ x : Nat, x < 4294967296 ∧ fitN 83 (x / 2 ^ 0 % 2 ^ 7) (x / 2 ^ 12 % 2 ^ 3) (x / 2 ^ 25 % 2 ^ 7) x op f3 f7 = true ∧ regOf x 7 sRd 83 = i.rd ∧ regOf x 15 sRs1 83 = i.r1 ∧ regOf x 20 sRs2 83 = i.r2 ∧ immOf x 83 = i.imm := by
  have g1 : has sRd.data.toList 83 = false := by decide +kernel
  have g2 : has sRs1.data.toList 83 = true := by decide +kernel
  have g3 : has sRs2.data.toList 83 = true := by decide +kernel
  obtain ⟨⟨a1, a2, a3, a4, a5, a6⟩, hq⟩ := hm
  obtain ⟨rd, hrd⟩ := Int.eq_ofNat_of_zero_le a1
  obtain ⟨r1, hr1⟩ := Int.eq_ofNat_of_zero_le a3
  obtain ⟨r2, hr2⟩ := Int.eq_ofNat_of_zero_le a5
  simp +decide only [if_true, if_false] at hq
  have n1 : rd < 32 := by omega
  have n2 : r1 < 32 := by omega
  have n3 : r2 < 32 := by omega
  obtain ⟨n, hn0⟩ : ∃ n : Nat, (n : Int) = i.imm % 4096 := ⟨(i.imm % 4096).toNat, by omega⟩
  obtain ⟨A, B, b0, b1, b2⟩ : ∃ A B : Nat, A < 128 ∧ B < 32 ∧ 32 * A + B = n := ⟨n / 32, n % 32, by omega, by omega, by omega⟩
  have hz : i.imm = sgnF n 12 := by unfold sgnF; rw [show (2 : Nat) ^ 12 = 4096 from rfl]; split <;> omega
  have z1 : i.rd = 0 := by omega
  have z2 : i.r1 = (r1 : Int) := by omega
  have z3 : i.r2 = (r2 : Int) := by omega
  rw [hz, z1, z2, z3]
  clear hz z1 z2 z3 a1 a2 a3 a4 a5 a6 hq hrd hr1 hr2 hn0
  obtain ⟨x, hx⟩ : ∃ x, x = op + 128 * B + 4096 * f3 + 32768 * r1 + 1048576 * r2 + 33554432 * A := ⟨_, rfl⟩
  have p0 : x / 2 ^ 0 % 2 ^ 7 = op := fld x (0) (op) (B + 32 * f3 + 256 * r1 + 8192 * r2 + 262144 * A) (2 ^ 0) (2 ^ 7) (by omega) (by omega) (by omega)
  have p1 : x / 2 ^ 12 % 2 ^ 3 = f3 := fld x (op + 128 * B) (f3) (r1 + 32 * r2 + 1024 * A) (2 ^ 12) (2 ^ 3) (by omega) (by omega) (by omega)
  refine ⟨x, by omega, ?_, ?_, ?_, ?_, ?_⟩
  · show decide (_) = true; rw [p0, p1, decide_eq_true_iff]; exact ⟨rfl, rfl⟩
  · unfold regOf; rw [g1, if_neg (by decide)]
  · unfold regOf; rw [g2, if_pos rfl]; exact congrArg Int.ofNat (fld x (op + 128 * B + 4096 * f3) (r1) (r2 + 32 * A) (2 ^ 15) (32) (by omega) (by omega) (by omega))
  · unfold regOf; rw [g3, if_pos rfl]; exact congrArg Int.ofNat (fld x (op + 128 * B + 4096 * f3 + 32768 * r1) (r2) (A) (2 ^ 20) (32) (by omega) (by omega) (by omega))
  · rw [imm_83, fld x (op + 128 * B + 4096 * f3 + 32768 * r1 + 1048576 * r2) (A) (0) (2 ^ 25) (2 ^ 7) (by omega) (by omega) (by omega), fld x (op) (B) (f3 + 8 * r1 + 256 * r2 + 8192 * A) (2 ^ 7) (2 ^ 5) (by omega) (by omega) (by omega)]; rw [b2]

theorem mk_72 (i : In) (op f3 f7 : Nat) (h1 : op < 128) (h2 : f3 < 8) (h3 : f7 < 128) (hm : mayF 72 i) :
    ∃ x : Nat, x < 4294967296 ∧ fitN 72 (x / 2 ^ 0 % 2 ^ 7) (x / 2 ^ 12 % 2 ^ 3) (x / 2 ^ 25 % 2 ^ 7) x op f3 f7 = true ∧ regOf x 7 sRd 72 = i.rd ∧ regOf x 15 sRs1 72 = i.r1 ∧ regOf x 20 sRs2 72 = i.r2 ∧ immOf x 72 = i.imm := by
  have g1 : has sRd.data.toList 72 = true := by decide +kernel
  have g2 : has sRs1.data.toList 72 = true := by decide +kernel
  have g3 : has sRs2.data.toList 72 = false := by decide +kernel
  obtain ⟨⟨a1, a2, a3, a4, a5, a6⟩, hq⟩ := hm
  obtain ⟨rd, hrd⟩ := Int.eq_ofNat_of_zero_le a1
  obtain ⟨r1, hr1⟩ := Int.eq_ofNat_of_zero_le a3
  obtain ⟨r2, hr2⟩ := Int.eq_ofNat_of_zero_le a5
  simp +decide only [if_true, if_false] at hq
  have n1 : rd < 32 := by omega
  have n2 : r1 < 32 := by omega
  have n3 : r2 < 32 := by omega
  obtain ⟨n, hn0⟩ : ∃ n : Nat, (n : Int) = i.imm := ⟨i.imm.toNat, by omega⟩
  obtain ⟨A, B, C, b0, b1, b2, b3, b4⟩ : ∃ A B C : Nat, A < 2 ∧ B < 32 ∧ C < 64 ∧ 32 * A + B = n ∧ C = f7 / 2 := ⟨n / 32, n % 32, f7 / 2, by omega, by omega, by omega, by omega, by omega⟩
  have hz : i.imm = (n : Int) := by omega
  have z1 : i.rd = (rd : Int) := by omega
  have z2 : i.r1 = (r1 : Int) := by omega
  have z3 : i.r2 = 0 := by omega
  rw [hz, z1, z2, z3]
  clear hz z1 z2 z3 a1 a2 a3 a4 a5 a6 hq hrd hr1 hr2 hn0
  obtain ⟨x, hx⟩ : ∃ x, x = op + 128 * rd + 4096 * f3 + 32768 * r1 + 1048576 * B + 33554432 * A + 67108864 * C := ⟨_, rfl⟩
  have p0 : x / 2 ^ 0 % 2 ^ 7 = op := fld x (0) (op) (rd + 32 * f3 + 256 * r1 + 8192 * B + 262144 * A + 524288 * C) (2 ^ 0) (2 ^ 7) (by omega) (by omega) (by omega)
  have p1 : x / 2 ^ 12 % 2 ^ 3 = f3 := fld x (op + 128 * rd) (f3) (r1 + 32 * B + 1024 * A + 2048 * C) (2 ^ 12) (2 ^ 3) (by omega) (by omega) (by omega)
  have p2 : x / 2 ^ 25 % 2 ^ 7 = A + 2 * C := fld x (op + 128 * rd + 4096 * f3 + 32768 * r1 + 1048576 * B) (A + 2 * C) (0) (2 ^ 25) (2 ^ 7) (by omega) (by omega) (by omega)
  refine ⟨x, by omega, ?_, ?_, ?_, ?_, ?_⟩
  · show decide (_) = true; rw [p0, p1, p2, decide_eq_true_iff]; exact ⟨rfl, rfl, by omega⟩
  · unfold regOf; rw [g1, if_pos rfl]; exact congrArg Int.ofNat (fld x (op) (rd) (f3 + 8 * r1 + 256 * B + 8192 * A + 16384 * C) (2 ^ 7) (32) (by omega) (by omega) (by omega))
  · unfold regOf; rw [g2, if_pos rfl]; exact congrArg Int.ofNat (fld x (op + 128 * rd + 4096 * f3) (r1) (B + 32 * A + 64 * C) (2 ^ 15) (32) (by omega) (by omega) (by omega))
  · unfold regOf; rw [g3, if_neg (by decide)]
  · rw [imm_72, fld x (op + 128 * rd + 4096 * f3 + 32768 * r1) (B + 32 * A) (C) (2 ^ 20) (2 ^ 6) (by omega) (by omega) (by omega)]; rw [show B + 32 * A = n by omega]

theorem mk_75 (i : In) (op f3 f7 : Nat) (h1 : op < 128) (h2 : f3 < 8) (h3 : f7 < 128) (hm : mayF 75 i) :
    ∃ x : Nat, x < 4294967296 ∧ fitN 75 (x / 2 ^ 0 % 2 ^ 7) (x / 2 ^ 12 % 2 ^ 3) (x / 2 ^ 25 % 2 ^ 7) x op f3 f7 = true ∧ regOf x 7 sRd 75 = i.rd ∧ regOf x 15 sRs1 75 = i.r1 ∧ regOf x 20 sRs2 75 = i.r2 ∧ immOf x 75 = i.imm := by
  have g1 : has sRd.data.toList 75 = true := by decide +kernel
  have g2 : has sRs1.data.toList 75 = true := by decide +kernel
  have g3 : has sRs2.data.toList 75 = false := by decide +kernel
  obtain ⟨⟨a1, a2, a3, a4, a5, a6⟩, hq⟩ := hm
  obtain ⟨rd, hrd⟩ := Int.eq_ofNat_of_zero_le a1
  obtain ⟨r1, hr1⟩ := Int.eq_ofNat_of_zero_le a3
  obtain ⟨r2, hr2⟩ := Int.eq_ofNat_of_zero_le a5
  simp +decide only [if_true, if_false] at hq
  have n1 : rd < 32 := by omega
  have n2 : r1 < 32 := by omega
  have n3 : r2 < 32 := by omega
  obtain ⟨n, hn0⟩ : ∃ n : Nat, (n : Int) = i.imm := ⟨i.imm.toNat, by omega⟩
  have n4 : n < 32 := by omega
  have hz : i.imm = (n : Int) := by omega
  have z1 : i.rd = (rd : Int) := by omega
  have z2 : i.r1 = (r1 : Int) := by omega
  have z3 : i.r2 = 0 := by omega
  rw [hz, z1, z2, z3]
  clear hz z1 z2 z3 a1 a2 a3 a4 a5 a6 hq hrd hr1 hr2 hn0
  obtain ⟨x, hx⟩ : ∃ x, x = op + 128 * rd + 4096 * f3 + 32768 * r1 + 1048576 * n + 33554432 * f7 := ⟨_, rfl⟩
  have p0 : x / 2 ^ 0 % 2 ^ 7 = op := fld x (0) (op) (rd + 32 * f3 + 256 * r1 + 8192 * n + 262144 * f7) (2 ^ 0) (2 ^ 7) (by omega) (by omega) (by omega)
  have p1 : x / 2 ^ 12 % 2 ^ 3 = f3 := fld x (op + 128 * rd) (f3) (r1 + 32 * n + 1024 * f7) (2 ^ 12) (2 ^ 3) (by omega) (by omega) (by omega)
  have p2 : x / 2 ^ 25 % 2 ^ 7 = f7 := fld x (op + 128 * rd + 4096 * f3 + 32768 * r1 + 1048576 * n) (f7) (0) (2 ^ 25) (2 ^ 7) (by omega) (by omega) (by omega)
  refine ⟨x, by omega, ?_, ?_, ?_, ?_, ?_⟩
  · show decide (_) = true; rw [p0, p1, p2, decide_eq_true_iff]; exact ⟨rfl, rfl, rfl⟩
  · unfold regOf; rw [g1, if_pos rfl]; exact congrArg Int.ofNat (fld x (op) (rd) (f3 + 8 * r1 + 256 * n + 8192 * f7) (2 ^ 7) (32) (by omega) (by omega) (by omega))
  · unfold regOf; rw [g2, if_pos rfl]; exact congrArg Int.ofNat (fld x (op + 128 * rd + 4096 * f3) (r1) (n + 32 * f7) (2 ^ 15) (32) (by omega) (by omega) (by omega))
  · unfold regOf; rw [g3, if_neg (by decide)]
  · rw [imm_75, fld x (op + 128 * rd + 4096 * f3 + 32768 * r1) (n) (f7) (2 ^ 20) (2 ^ 5) (by omega) (by omega) (by omega)]

theorem mk_82 (i : In) (op f3 f7 : Nat) (h1 : op < 128) (h2 : f3 < 8) (h3 : f7 < 128) (hm : mayF 82 i) :
    ∃ x : Nat, x < 4294967296 ∧ fitN 82 (x / 2 ^ 0 % 2 ^ 7) (x / 2 ^ 12 % 2 ^ 3) (x / 2 ^ 25 % 2 ^ 7) x op f3 f7 = true ∧ regOf x 7 sRd 82 = i.rd ∧ regOf x 15 sRs1 82 = i.r1 ∧ regOf x 20 sRs2 82 = i.r2 ∧ immOf x 82 = i.imm := by
  have g1 : has sRd.data.toList 82 = true := by decide +kernel
  have g2 : has sRs1.data.toList 82 = true := by decide +kernel
  have g3 : has sRs2.data.toList 82 = true := by decide +kernel
  obtain ⟨⟨a1, a2, a3, a4, a5, a6⟩, hq⟩ := hm
  obtain ⟨rd, hrd⟩ := Int.eq_ofNat_of_zero_le a1
  obtain ⟨r1, hr1⟩ := Int.eq_ofNat_of_zero_le a3
  obtain ⟨r2, hr2⟩ := Int.eq_ofNat_of_zero_le a5
  simp +decide only [if_true, if_false] at hq
  have n1 : rd < 32 := by omega
  have n2 : r1 < 32 := by omega
  have n3 : r2 < 32 := by omega
  have hz : i.imm = 0 := by omega
  have z1 : i.rd = (rd : Int) := by omega
  have z2 : i.r1 = (r1 : Int) := by omega
  have z3 : i.r2 = (r2 : Int) := by omega
  rw [hz, z1, z2, z3]
  clear hz z1 z2 z3 a1 a2 a3 a4 a5 a6 hq hrd hr1 hr2
  obtain ⟨x, hx⟩ : ∃ x, x = op + 128 * rd + 4096 * f3 + 32768 * r1 + 1048576 * r2 + 33554432 * f7 := ⟨_, rfl⟩
  have p0 : x / 2 ^ 0 % 2 ^ 7 = op := fld x (0) (op) (rd + 32 * f3 + 256 * r1 + 8192 * r2 + 262144 * f7) (2 ^ 0) (2 ^ 7) (by omega) (by omega) (by omega)
  have p1 : x / 2 ^ 12 % 2 ^ 3 = f3 := fld x (op + 128 * rd) (f3) (r1 + 32 * r2 + 1024 * f7) (2 ^ 12) (2 ^ 3) (by omega) (by omega) (by omega)
  have p2 : x / 2 ^ 25 % 2 ^ 7 = f7 := fld x (op + 128 * rd + 4096 * f3 + 32768 * r1 + 1048576 * r2) (f7) (0) (2 ^ 25) (2 ^ 7) (by omega) (by omega) (by omega)
  refine ⟨x, by omega, ?_, ?_, ?_, ?_, ?_⟩
  · show decide (_) = true; rw [p0, p1, p2, decide_eq_true_iff]; exact ⟨rfl, rfl, rfl⟩
  · unfold regOf; rw [g1, if_pos rfl]; exact congrArg Int.ofNat (fld x (op) (rd) (f3 + 8 * r1 + 256 * r2 + 8192 * f7) (2 ^ 7) (32) (by omega) (by omega) (by omega))
  · unfold regOf; rw [g2, if_pos rfl]; exact congrArg Int.ofNat (fld x (op + 128 * rd + 4096 * f3) (r1) (r2 + 32 * f7) (2 ^ 15) (32) (by omega) (by omega) (by omega))
  · unfold regOf; rw [g3, if_pos rfl]; exact congrArg Int.ofNat (fld x (op + 128 * rd + 4096 * f3 + 32768 * r1) (r2) (f7) (2 ^ 20) (32) (by omega) (by omega) (by omega))
  · exact imm_other x 82 (.inl rfl)

theorem mk_78 (i : In) (op f3 f7 : Nat) (h1 : op < 128) (h2 : f3 < 8) (h3 : f7 < 128) (hm : mayF 78 i) :
    ∃ x : Nat, x < 4294967296 ∧ fitN 78 (x / 2 ^ 0 % 2 ^ 7) (x / 2 ^ 12 % 2 ^ 3) (x / 2 ^ 25 % 2 ^ 7) x op f3 f7 = true ∧ regOf x 7 sRd 78 = i.rd ∧ regOf x 15 sRs1 78 = i.r1 ∧ regOf x 20 sRs2 78 = i.r2 ∧ immOf x 78 = i.imm := by
  have g1 : has sRd.data.toList 78 = false := by decide +kernel
  have g2 : has sRs1.data.toList 78 = false := by decide +kernel
  have g3 : has sRs2.data.toList 78 = false := by decide +kernel
  obtain ⟨⟨a1, a2, a3, a4, a5, a6⟩, hq⟩ := hm
  obtain ⟨rd, hrd⟩ := Int.eq_ofNat_of_zero_le a1
  obtain ⟨r1, hr1⟩ := Int.eq_ofNat_of_zero_le a3
  obtain ⟨r2, hr2⟩ := Int.eq_ofNat_of_zero_le a5
  simp +decide only [if_false] at hq
  have n1 : rd < 32 := by omega
  have n2 : r1 < 32 := by omega
  have n3 : r2 < 32 := by omega
  have hz : i.imm = 0 := by omega
  have z1 : i.rd = 0 := by omega
  have z2 : i.r1 = 0 := by omega
  have z3 : i.r2 = 0 := by omega
  rw [hz, z1, z2, z3]
  clear hz z1 z2 z3 a1 a2 a3 a4 a5 a6 hq hrd hr1 hr2
  obtain ⟨x, hx⟩ : ∃ x, x = op + 1048576 * f7 := ⟨_, rfl⟩
  have p0 : x / 2 ^ 0 % 2 ^ 7 = op := fld x (0) (op) (8192 * f7) (2 ^ 0) (2 ^ 7) (by omega) (by omega) (by omega)
  refine ⟨x, by omega, ?_, ?_, ?_, ?_, ?_⟩
  · show decide (_) = true; rw [p0, decide_eq_true_iff]; exact ⟨rfl, by omega⟩
  · unfold regOf; rw [g1, if_neg (by decide)]
  · unfold regOf; rw [g2, if_neg (by decide)]
  · unfold regOf; rw [g3, if_neg (by decide)]
  · exact imm_other x 78 (.inr rfl)

theorem may_enc (k : Nat) (hk : k < 64) (i : In) (hop : i.op = k) (hm : mayF (formAt k) i) : ∃ x, x < 4294967296 ∧ encF i = some x := by
  obtain ⟨-, h1, h2, h3, h4, h5, h6⟩ := code_is k hk
  obtain ⟨op, e1⟩ := Int.eq_ofNat_of_zero_le h1
  obtain ⟨f3, e2⟩ := Int.eq_ofNat_of_zero_le h3
  obtain ⟨f7, e3⟩ := Int.eq_ofNat_of_zero_le h5
  have key : ∃ x : Nat, x < 4294967296 ∧ fitN (formAt k) (x / 2 ^ 0 % 2 ^ 7) (x / 2 ^ 12 % 2 ^ 3) (x / 2 ^ 25 % 2 ^ 7) x op f3 f7 = true ∧ regOf x 7 sRd (formAt k) = i.rd ∧ regOf x 15 sRs1 (formAt k) = i.r1 ∧ regOf x 20 sRs2 (formAt k) = i.r2 ∧ immOf x (formAt k) = i.imm := by
    have b1 : op < 128 := by omega
    have b2 : f3 < 8 := by omega
    have b3 : f7 < 128 := by omega
    rcases letters9 k hk with h | h | h | h | h | h | h | h | h <;> rw [h] at hm ⊢
    · exact mk_85 i op f3 f7 b1 b2 b3 hm
    · exact mk_74 i op f3 f7 b1 b2 b3 hm
    · exact mk_73 i op f3 f7 b1 b2 b3 hm
    · exact mk_66 i op f3 f7 b1 b2 b3 hm
    · exact mk_83 i op f3 f7 b1 b2 b3 hm
    · exact mk_72 i op f3 f7 b1 b2 b3 hm
    · exact mk_75 i op f3 f7 b1 b2 b3 hm
    · exact mk_82 i op f3 f7 b1 b2 b3 hm
    · exact mk_78 i op f3 f7 b1 b2 b3 hm
  obtain ⟨x, hx, hf, f1, f2, f4, f5⟩ := key
  have hfit : fit x k = true := by
    rw [fit_is x k hx hk, e1, e2, e3]; exact hf
  have := enc_dec x k hx hk hfit
  rw [f1, f2, f4, f5, ← hop] at this
  exact ⟨x, hx, this⟩

/-- An instruction goes into a word just where it is one that may be. -/
theorem enc_may (i : In) : (encF i).isSome = true ↔ ∃ k : Nat, k < 64 ∧ i.op = k ∧ mayF (formAt k) i := by
  constructor
  · intro h
    cases he : encF i with
    | none => rw [he] at h; cases h
    | some x =>
      have hd := encF_dec he
      unfold encF at he
      split at he
      · rename_i hc
        obtain ⟨k, hk⟩ := Int.eq_ofNat_of_zero_le hc.1
        exact ⟨k, by omega, hk, dec_may x k (by omega) i hd hk⟩
      · cases he
  · rintro ⟨k, hk, hop, hm⟩
    obtain ⟨x, -, he⟩ := may_enc k hk i hop hm
    rw [he]; rfl
end Go.Proofs.YtmfmakkiefgogabDoor
