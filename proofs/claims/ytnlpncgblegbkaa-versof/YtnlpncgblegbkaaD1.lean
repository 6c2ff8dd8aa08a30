/-
  Layer 12: an entry of what a file defines.
-/
import Derived.Test.YtnlpncgblegbkaaE2
import Derived.Test.YtnlpncgblegbkaaS3
import Derived.Deep.QuietTactic
import Derived.BigQuiet
namespace Go.Proofs.Ytnlpncgblegbkaa
open Go.RowKit
set_option linter.unusedVariables false

theorem and15 (x : Int) (h0 : 0 ≤ x) (h1 : x ≤ 18446744073709551615) : bits BinOp.and IntKind.u64 x 32767 = x % 32768 := by
  obtain ⟨n, rfl⟩ := Int.eq_ofNat_of_zero_le h0
  have e : ((BitVec.ofInt 64 (n : Int)) &&& (BitVec.ofInt 64 32767)).toNat = n % 32768 := by
    rw [BitVec.toNat_and]
    have e1 : (BitVec.ofInt 64 (n : Int)).toNat = n := by simp; omega
    have e2 : (BitVec.ofInt 64 32767).toNat = 2 ^ 15 - 1 := by decide
    rw [e1, e2, Nat.and_two_pow_sub_one_eq_mod]
  show IntKind.u64.wrap (((BitVec.ofInt 64 (n : Int)) &&& (BitVec.ofInt 64 32767)).toNat : Int) = _
  rw [e, IntKind.wrap_u64]
  omega

set_option maxHeartbeats 800000 in
theorem number_any (s : ByteArray) (w : World) (hs : s.size ≤ maxLen) : Calls Try.prog 40 #[.string s] w fun e w' => e = .returned (.int .i64 (num s % 32768)) ∧ w' = w := by
  have HA : Hid (_) := and15 (num s) (num_bounds s).1 (num_bounds s).2
  have G := fun W => get_any s W hs
  generalize num s = x at *
  obtain ⟨y, hy⟩ : ∃ y, bits BinOp.and IntKind.u64 x 32767 = y := ⟨_, rfl⟩
  have hyx : y = x % 32768 := by rw [← hy]; exact HA.out
  have y0 : 0 ≤ y := by omega
  have y1 : y < 32768 := by omega
  have HY : Hid (y = x % 32768) := hyx
  clear hyx
  go_enter Try.func40, Try.ntmps40
  go_wp2_with (go_at_call 28; refine (G _).mono ?_; rintro r w' ⟨rfl, rfl⟩)
  go_ret
  exact ⟨ret_int HY.out, rfl⟩

set_option maxHeartbeats 800000 in
theorem vtext_any (names s t : ByteArray) (ok : Bool) (w : World) (hs : s.size ≤ maxLen) (hm : names.size ≤ 9223372036854775807) (HT : Hid (txt names (num s) 32 = (t, ok))) : Calls Try.prog 39 #[.string names, .string s] w fun e w' => e = .returned (.tuple #[.string t, .bool ok]) ∧ w' = w := by
  have n0 := (num_bounds s).1
  go_enter Try.func39, Try.ntmps39
  go_wp2_with (first
    | (go_at_call 28; refine (get_any _ _ hs).mono ?_; rintro r w' ⟨rfl, rfl⟩)
    | (go_at_call 42; refine (text_any _ _ _ _ _ _ HT hm n0).mono ?_; rintro r w' ⟨rfl, rfl⟩))
  go_ret2
  exact ⟨rfl, rfl⟩

set_option maxHeartbeats 800000 in
theorem formed_any (s t : ByteArray) (b : Bool) (w : World) (hs : s.size ≤ maxLen) (ht : t.size ≤ maxLen) (hb : Hid ((num s == 1 && num t != 0) = b)) : Calls Try.prog 38 #[.string s, .string t] w fun e w' => e = .returned (.bool b) ∧ w' = w := by
  have G1 := fun W => get_any s W hs
  have G2 := fun W => get_any t W ht
  generalize num s = x at *
  generalize num t = y at *
  by_cases h1 : x = 1
  · subst h1
    have HB : Hid ((y != 0) = b) := by show _ = _; rw [← hb.out]; simp
    go_enter Try.func38, Try.ntmps38
    go_wp2_with (first
      | (go_at_call 28; with_reducible refine (G1 _).mono ?_; rintro r w' ⟨rfl, rfl⟩)
      | (go_at_call 28; with_reducible refine (G2 _).mono ?_; rintro r w' ⟨rfl, rfl⟩))
    go_ret
    exact ⟨by rw [← HB.out]; rfl, rfl⟩
  · have e1 : (x == 1) = false := by simp [h1]
    have HB : Hid (b = false) := by show _ = _; rw [← hb.out, e1]; rfl
    clear h1
    go_enter Try.func38, Try.ntmps38
    go_wp2_with (first
      | (go_at_call 28; with_reducible refine (G1 _).mono ?_; rintro r w' ⟨rfl, rfl⟩))
    go_ret
    exact ⟨by rw [HB.out]; rfl, rfl⟩

/-- The number and the name of an entry at a place, or what is wrong with it. -/
def defF (b names e : ByteArray) (p : Nat) : (Int × ByteArray) × Int :=
  if e.size = 0 then ((0, ⟨#[]⟩), 2)
  else if b.size < p + (num (e.extract 12 16)).toNat + 8 then ((0, ⟨#[]⟩), 2)
  else if (num (e.extract 0 2) == 1 && num (e.extract 6 8) != 0) then
    if (txt names (num ((b.extract (p + (num (e.extract 12 16)).toNat) (p + (num (e.extract 12 16)).toNat + 8)).extract 0 4)) 32).2 then
      ((num (e.extract 4 6) % 32768, (txt names (num ((b.extract (p + (num (e.extract 12 16)).toNat) (p + (num (e.extract 12 16)).toNat + 8)).extract 0 4)) 32).1), 0)
    else ((0, ⟨#[]⟩), 25)
  else ((0, ⟨#[]⟩), 4)

abbrev dfv (x : Int × ByteArray) : Value := .agg #[.int .i64 x.1, .string x.2]
theorem info57 : (Try.prog.info? 38).map (·.size) = some 2 := by kernel_rfl
theorem range2 {w : World} {B : Nat} {v0 v1 : Value} (h0 : w.cell? ⟨B, 0, none⟩ = some v0) (h1 : w.cell? ⟨B, 1, none⟩ = some v1) : w.rangeAt B 0 [v0, v1] := by
  intro j v hv
  rw [Nat.zero_add]
  match j, hv with
  | 0, hv => simp at hv; subst hv; exact h0
  | 1, hv => simp at hv; subst hv; exact h1
  | j + 2, hv => simp at hv

theorem set2_new (w : World) (nq : Nat) (u0 u1 v0 v1 : Value) (t : TypeId) : ((((w.alloc (.cells #[u0, u1] t)).drewN nq).setCell ⟨w.heap.size, 0, none⟩ v0).setCell ⟨w.heap.size, 1, none⟩ v1) = (w.alloc (.cells #[v0, v1] t)).drewN nq := by
  have h : ((w.alloc (.cells #[u0, u1] t)).setCell ⟨w.heap.size, 0, none⟩ v0).setCell ⟨w.heap.size, 1, none⟩ v1 = w.alloc (.cells #[v0, v1] t) := by simp [go_sem]
  rw [← h]
  rfl

set_option maxRecDepth 100000 in
set_option maxHeartbeats 4000000 in
theorem def_any (b names e : ByteArray) (p : Nat) (w : World) (hb : b.size ≤ 140737488351232) (hm : names.size ≤ 9223372036854775807) (hp : p < 1125899906842624) (he : e.size = 0 ∨ e.size = 20) :
    Calls Try.prog 22 #[.string b, .string names, .int .u64 (p : Int), .string e] w fun r w' => r = .returned (.tuple #[dfv (defF b names e p).1, .int .i64 (defF b names e p).2]) ∧ ∃ o q, w' = (w.alloc o).drewN q := by
  rcases he with he | he
  · have hee : e = ⟨#[]⟩ := by
      apply ByteArray.ext
      apply Array.eq_empty_of_size_eq_zero
      exact he
    subst hee
    have HD : Hid (defF b names ⟨#[]⟩ p = ((0, ⟨#[]⟩), 2)) := by show _ = _; unfold defF; rw [if_pos he]
    rw [HD.out]
    clear he
    go_enter Try.func22, Try.ntmps22
    go_wp2
    refine ⟨rfl, .tuple #[dfv (0, ⟨#[]⟩), .int .i64 2], ?_, rfl, ⟨_, 0, rfl⟩⟩
    refine (results_cell_mid2 (fn := Try.f22) rfl _ _ w.heap.size 0 [.int .i64 0, .string ⟨#[]⟩] _ rfl (range2 (by simp [go_sem]) (by simp [go_sem])) Try.underlying38 rfl info57).trans rfl
  · have h0 : ¬ e.size = 0 := by omega
    have z12 : (e.extract 12 16).size ≤ maxLen := by unfold maxLen; simp; omega
    have z0 : (e.extract 0 2).size ≤ maxLen := by unfold maxLen; simp; omega
    have z6 : (e.extract 6 8).size ≤ maxLen := by unfold maxLen; simp; omega
    have z4 : (e.extract 4 6).size ≤ maxLen := by unfold maxLen; simp; omega
    have hne : e.toList.isEmpty = false := by
      rw [List.isEmpty_eq_false_iff]
      intro h
      have h2 : e.data.toList = [] := by rw [← Go.ByteArray.toList_eq e, h]
      have h3 : e.data.toList.length = 20 := by rw [Array.length_toList]; exact he
      rw [h2] at h3
      exact absurd h3 (by decide)
    have G12 := fun W => get_any (e.extract 12 16) W z12
    obtain ⟨q, hq, hq4⟩ : ∃ q : Nat, num (e.extract 12 16) = (q : Int) ∧ q < 4294967296 := ⟨(num (e.extract 12 16)).toNat, by have := (num_bounds (e.extract 12 16)).1; omega, num_lt4 _ (by simp; omega)⟩
    have hd : defF b names e p = (if b.size < p + q + 8 then ((0, ⟨#[]⟩), 2) else if (num (e.extract 0 2) == 1 && num (e.extract 6 8) != 0) then if (txt names (num ((b.extract (p + q) (p + q + 8)).extract 0 4)) 32).2 then ((num (e.extract 4 6) % 32768, (txt names (num ((b.extract (p + q) (p + q + 8)).extract 0 4)) 32).1), 0) else ((0, ⟨#[]⟩), 25) else ((0, ⟨#[]⟩), 4)) := by
      unfold defF
      rw [if_neg h0, hq, Int.toNat_natCast]
    rw [hd]
    rw [hq] at G12
    clear hd hq h0
    by_cases hin : b.size < p + q + 8
    · rw [if_pos hin]
      go_enter Try.func22, Try.ntmps22
      go_wp2_with (first
        | (go_at_call 28; refine (G12 _).mono ?_; rintro r w' ⟨rfl, rfl⟩)
        | (go_at_call 37; refine (part_no _ _ _ _ hb (by omega) (by omega) (by omega)).mono ?_; rintro r w' ⟨rfl, rfl⟩))
      refine ⟨rfl, .tuple #[dfv (0, ⟨#[]⟩), .int .i64 2], ?_, rfl, ⟨_, 0, rfl⟩⟩
      refine (results_cell_mid2 (fn := Try.f22) rfl _ _ w.heap.size 0 [.int .i64 0, .string ⟨#[]⟩] _ rfl (range2 (by simp [go_sem]) (by simp [go_sem])) Try.underlying38 rfl info57).trans rfl
    · rw [if_neg hin]
      obtain ⟨pl, hpl⟩ : ∃ pl, b.extract (p + q) (p + q + 8) = pl := ⟨_, rfl⟩
      have hps : pl.size = 8 := by rw [← hpl]; simp; omega
      have HP : Hid (pl = b.extract ((p : Int) + (q : Int)).toNat ((p : Int) + (q : Int) + 8).toNat) := by
        show _ = _
        rw [← hpl, show ((p : Int) + (q : Int)).toNat = p + q by omega, show ((p : Int) + (q : Int) + 8).toNat = p + q + 8 by omega]
      rw [hpl]
      clear hpl
      obtain ⟨fb, hfb⟩ : ∃ fb, (num (e.extract 0 2) == 1 && num (e.extract 6 8) != 0) = fb := ⟨_, rfl⟩
      have HF : Hid ((num (e.extract 0 2) == 1 && num (e.extract 6 8) != 0) = fb) := hfb
      rw [hfb]
      clear hfb
      cases fb with
      | false =>
        rw [if_neg (by decide)]
        go_enter Try.func22, Try.ntmps22
        go_wp2_with (first
          | (go_at_call 28; refine (G12 _).mono ?_; rintro r w' ⟨rfl, rfl⟩)
          | (go_at_call 37; refine (part_yes _ _ _ _ _ HP hb (by omega) (by omega) (by omega)).mono ?_; rintro r w' ⟨rfl, rfl⟩))
        go_quiet (first | (go_at_call 38; refine Calls.quiet_of_same (formed_any _ _ _ _ z0 z6 HF)))
        go_wp2
        refine ⟨rfl, .tuple #[dfv (0, ⟨#[]⟩), .int .i64 4], ?_, rfl, ⟨_, nq, set2_new _ _ _ _ _ _ _⟩⟩
        refine (results_cell_mid2 (fn := Try.f22) rfl _ _ w.heap.size 0 [.int .i64 0, .string ⟨#[]⟩] _ rfl (range2 (by simp [go_sem]) (by simp [go_sem])) Try.underlying38 rfl info57).trans rfl
      | true =>
        rw [if_pos rfl]
        have zp : (pl.extract 0 4).size ≤ maxLen := by unfold maxLen; simp; omega
        obtain ⟨tx, htx⟩ : ∃ tx, txt names (num (pl.extract 0 4)) 32 = tx := ⟨_, rfl⟩
        obtain ⟨t, ok⟩ := tx
        have HT : Hid (txt names (num (pl.extract 0 4)) 32 = (t, ok)) := htx
        rw [htx]
        clear htx
        cases ok with
        | false =>
          rw [if_neg (show ¬ ((t, false) : ByteArray × Bool).2 = true from fun h => Bool.noConfusion h)]
          go_enter Try.func22, Try.ntmps22
          go_wp2_with (first
            | (go_at_call 28; refine (G12 _).mono ?_; rintro r w' ⟨rfl, rfl⟩)
            | (go_at_call 37; refine (part_yes _ _ _ _ _ HP hb (by omega) (by omega) (by omega)).mono ?_; rintro r w' ⟨rfl, rfl⟩))
          go_quiet (first | (go_at_call 38; refine Calls.quiet_of_same (formed_any _ _ _ _ z0 z6 HF)))
          go_wp2_with (go_at_call 39; refine (vtext_any _ _ _ _ _ zp hm HT).mono ?_; rintro r w' ⟨rfl, rfl⟩)
          refine ⟨rfl, .tuple #[dfv (0, ⟨#[]⟩), .int .i64 25], ?_, rfl, ⟨_, nq, set2_new _ _ _ _ _ _ _⟩⟩
          refine (results_cell_mid2 (fn := Try.f22) rfl _ _ w.heap.size 0 [.int .i64 0, .string ⟨#[]⟩] _ rfl (range2 (by simp [go_sem]) (by simp [go_sem])) Try.underlying38 rfl info57).trans rfl
        | true =>
          rw [if_pos (show ((t, true) : ByteArray × Bool).2 = true from rfl)]
          have N4 := fun W => number_any (e.extract 4 6) W z4
          generalize num (e.extract 4 6) % 32768 = y at *
          go_enter Try.func22, Try.ntmps22
          go_wp2_with (first
            | (go_at_call 28; refine (G12 _).mono ?_; rintro r w' ⟨rfl, rfl⟩)
            | (go_at_call 37; refine (part_yes _ _ _ _ _ HP hb (by omega) (by omega) (by omega)).mono ?_; rintro r w' ⟨rfl, rfl⟩))
          go_quiet (first | (go_at_call 38; refine Calls.quiet_of_same (formed_any _ _ _ _ z0 z6 HF)))
          go_wp2_with (first
            | (go_at_call 39; refine (vtext_any _ _ _ _ _ zp hm HT).mono ?_; rintro r w' ⟨rfl, rfl⟩)
            | (go_at_call 40; refine (N4 _).mono ?_; rintro r w' ⟨rfl, rfl⟩))
          refine ⟨rfl, .tuple #[dfv (y, t), .int .i64 0], ?_, rfl, ⟨_, nq, set2_new _ _ _ _ _ _ _⟩⟩
          rw [set2_new]
          refine (results_cell_mid2 (fn := Try.f22) rfl _ _ w.heap.size 0 [.int .i64 y, .string t] _ rfl (range2 (by simp [go_sem]) (by simp [go_sem])) Try.underlying38 rfl info57).trans rfl
end Go.Proofs.Ytnlpncgblegbkaa
