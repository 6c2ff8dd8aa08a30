/-
  Layer 12: an entry of what a file needs, and a version of it.
-/
import Derived.Test.YtnlpncgblegbkaaD2
import Derived.Test.YtnlpncgblegbkaaH1
namespace Go.Proofs.Ytnlpncgblegbkaa
open Go.RowKit Go.Shelf
set_option linter.unusedVariables false

/-- A version that is needed. -/
structure Nd where
  n : Int
  file : ByteArray
  name : ByteArray
  weak : Bool
abbrev Nd.val (x : Nd) : Value := .agg #[.int .i64 x.n, .string x.file, .string x.name, .bool x.weak]
def Nd.cells (x : Nd) : List Value := [.int .i64 x.n, .string x.file, .string x.name, .bool x.weak]
abbrev Nd.zero : Nd := ⟨0, ⟨#[]⟩, ⟨#[]⟩, false⟩
def needF (names file v : ByteArray) : Nd × Int :=
  if v.size = 0 then (Nd.zero, 2)
  else if (txt names (num (v.extract 8 12)) 32).2 then (⟨num (v.extract 6 8) % 32768, file, (txt names (num (v.extract 8 12)) 32).1, num (v.extract 4 6) / 2 % 2 == 1⟩, 0)
  else (Nd.zero, 25)
def fileF (b names e : ByteArray) (p : Nat) : ByteArray × Int :=
  if e.size = 0 then (⟨#[]⟩, 2)
  else if b.size < p + (num (e.extract 8 12)).toNat + 16 then (⟨#[]⟩, 2)
  else if (num (e.extract 0 2) == 1 && num (e.extract 2 4) != 0) then
    if (txt names (num (e.extract 4 8)) 32).2 then ((txt names (num (e.extract 4 8)) 32).1, 0) else (⟨#[]⟩, 25)
  else (⟨#[]⟩, 4)

theorem and2 (x : Int) (h0 : 0 ≤ x) (h1 : x ≤ 18446744073709551615) : (bits BinOp.and IntKind.u64 x 2 != 0) = (x / 2 % 2 == 1) := by
  obtain ⟨n, rfl⟩ := Int.eq_ofNat_of_zero_le h0
  have e : bits BinOp.and IntKind.u64 (n : Int) 2 = ((n / 2 % 2 * 2 : Nat) : Int) := by
    have e1 : ((BitVec.ofInt 64 (n : Int)) &&& (BitVec.ofInt 64 2)).toNat = n / 2 % 2 * 2 := by
      rw [BitVec.toNat_and]
      have e1 : (BitVec.ofInt 64 (n : Int)).toNat = n := by simp; omega
      have e2 : (BitVec.ofInt 64 2).toNat = 2 := by decide
      rw [e1, e2]
      have h := and_field n 1 1
      simpa using h
    show IntKind.u64.wrap (((BitVec.ofInt 64 (n : Int)) &&& (BitVec.ofInt 64 2)).toNat : Int) = _
    rw [e1, IntKind.wrap_u64]
    omega
  rw [e]
  have h : n / 2 % 2 = 0 ∨ n / 2 % 2 = 1 := by omega
  have e4 : (n : Int) / 2 % 2 = ((n / 2 % 2 : Nat) : Int) := by omega
  rw [e4]
  rcases h with h | h <;> rw [h] <;> rfl

theorem info48 : (Try.prog.info? 48).map (·.size) = some 4 := by kernel_rfl
theorem range4 {w : World} {B : Nat} {v0 v1 v2 v3 : Value} (h0 : w.cell? ⟨B, 0, none⟩ = some v0) (h1 : w.cell? ⟨B, 1, none⟩ = some v1) (h2 : w.cell? ⟨B, 2, none⟩ = some v2) (h3 : w.cell? ⟨B, 3, none⟩ = some v3) : w.rangeAt B 0 [v0, v1, v2, v3] := by
  intro j v hv
  rw [Nat.zero_add]
  match j, hv with
  | 0, hv => simp at hv; subst hv; exact h0
  | 1, hv => simp at hv; subst hv; exact h1
  | 2, hv => simp at hv; subst hv; exact h2
  | 3, hv => simp at hv; subst hv; exact h3
  | j + 4, hv => simp at hv

theorem empty_of {e : ByteArray} (he : e.size = 0) : e = ⟨#[]⟩ := by
  apply ByteArray.ext
  apply Array.eq_empty_of_size_eq_zero
  exact he
theorem not_empty {e : ByteArray} {m : Nat} (he : e.size = m + 1) : e.toList.isEmpty = false := by
  rw [List.isEmpty_eq_false_iff]
  intro h
  have h2 : e.data.toList = [] := by rw [← Go.ByteArray.toList_eq e, h]
  have h3 : e.data.toList.length = m + 1 := by rw [Array.length_toList]; exact he
  rw [h2] at h3
  simp at h3

set_option maxRecDepth 100000 in
set_option maxHeartbeats 4000000 in
theorem need_any (names file v : ByteArray) (w : World) (hm : names.size ≤ 9223372036854775807) (hv : v.size = 0 ∨ v.size = 16) :
    Calls Try.prog 29 #[.string names, .string file, .string v] w fun r w' => r = .returned (.tuple #[(needF names file v).1.val, .int .i64 (needF names file v).2]) ∧ ∃ o q, w' = (w.alloc o).drewN q := by
  rcases hv with he | he
  · obtain rfl := empty_of he
    have HD : Hid (needF names file ⟨#[]⟩ = (Nd.zero, 2)) := by show _ = _; unfold needF; rw [if_pos he]
    rw [HD.out]
    clear he
    go_enter Try.func29, Try.ntmps29
    go_wp2
    refine ⟨rfl, .tuple #[Nd.zero.val, .int .i64 2], ?_, rfl, ⟨_, 0, rfl⟩⟩
    refine (results_cell_mid2 (fn := Try.f29) rfl _ _ w.heap.size 0 Nd.zero.cells _ rfl (range4 (by simp [go_sem]) (by simp [go_sem]) (by simp [go_sem]) (by simp [go_sem])) Try.underlying48 rfl info48).trans rfl
  · have h0 : ¬ v.size = 0 := by omega
    have z8 : (v.extract 8 12).size ≤ maxLen := by unfold maxLen; simp; omega
    have z6 : (v.extract 6 8).size ≤ maxLen := by unfold maxLen; simp; omega
    have z4 : (v.extract 4 6).size ≤ maxLen := by unfold maxLen; simp; omega
    have hne := not_empty (m := 15) he
    have hd : needF names file v = (if (txt names (num (v.extract 8 12)) 32).2 then (⟨num (v.extract 6 8) % 32768, file, (txt names (num (v.extract 8 12)) 32).1, num (v.extract 4 6) / 2 % 2 == 1⟩, 0) else (Nd.zero, 25)) := by
      unfold needF
      rw [if_neg h0]
    rw [hd]
    clear hd h0
    obtain ⟨tx, htx⟩ : ∃ tx, txt names (num (v.extract 8 12)) 32 = tx := ⟨_, rfl⟩
    obtain ⟨t, ok⟩ := tx
    have HT : Hid (txt names (num (v.extract 8 12)) 32 = (t, ok)) := htx
    rw [htx]
    clear htx
    cases ok with
    | false =>
      rw [if_neg (show ¬ ((t, false) : ByteArray × Bool).2 = true from fun h => Bool.noConfusion h)]
      go_enter Try.func29, Try.ntmps29
      go_wp2_with (first | (go_at_call 39; refine (vtext_any _ _ _ _ _ z8 hm HT).mono ?_; rintro r w' ⟨rfl, rfl⟩))
      refine ⟨rfl, .tuple #[Nd.zero.val, .int .i64 25], ?_, rfl, ⟨_, 0, rfl⟩⟩
      refine (results_cell_mid2 (fn := Try.f29) rfl _ _ w.heap.size 0 Nd.zero.cells _ rfl (range4 (by simp [go_sem]) (by simp [go_sem]) (by simp [go_sem]) (by simp [go_sem])) Try.underlying48 rfl info48).trans rfl
    | true =>
      rw [if_pos (show ((t, true) : ByteArray × Bool).2 = true from rfl)]
      have N6 := fun W => number_any (v.extract 6 8) W z6
      have G4 := fun W => get_any (v.extract 4 6) W z4
      have HA : Hid (_) := and2 (num (v.extract 4 6)) (num_bounds _).1 (num_bounds _).2
      generalize num (v.extract 6 8) % 32768 = y at *
      generalize num (v.extract 4 6) = x at *
      obtain ⟨bb, hbb⟩ : ∃ bb, bits BinOp.and IntKind.u64 x 2 = bb := ⟨_, rfl⟩
      have HB : Hid ((bb != 0) = (x / 2 % 2 == 1)) := by show _ = _; rw [← hbb]; exact HA.out
      go_enter Try.func29, Try.ntmps29
      go_wp2_with (first | (go_at_call 39; refine (vtext_any _ _ _ _ _ z8 hm HT).mono ?_; rintro r w' ⟨rfl, rfl⟩))
      go_region_held3 (fun _ => True) (trivial) (first | (go_at_call 40; with_reducible refine (N6 _).mono ?_; rintro r w' ⟨rfl, rfl⟩) | (go_at_call 28; with_reducible refine (G4 _).mono ?_; rintro r w' ⟨rfl, rfl⟩))
      all_goals
        go_wp2
        refine ⟨rfl, .tuple #[(⟨y, file, t, x / 2 % 2 == 1⟩ : Nd).val, .int .i64 0], ?_, rfl, ⟨_, 1, rfl⟩⟩
        rw [← HB.out]
        refine (results_cell_mid2 (fn := Try.f29) rfl _ _ w.heap.size 0 (⟨y, file, t, bb != 0⟩ : Nd).cells _ rfl (range4 (by simp [go_sem]) (by simp [go_sem]) (by simp [go_sem]) (by simp [go_sem])) Try.underlying48 rfl info48).trans rfl

set_option maxRecDepth 100000 in
set_option maxHeartbeats 4000000 in
theorem file_any (b names e : ByteArray) (p : Nat) (w : World) (hb : b.size ≤ 140737488351232) (hm : names.size ≤ 9223372036854775807) (hp : p < 1125899906842624) (he : e.size = 0 ∨ e.size = 16) :
    Calls Try.prog 27 #[.string b, .string names, .int .u64 (p : Int), .string e] w fun r w' => r = .returned (.tuple #[.string (fileF b names e p).1, .int .i64 (fileF b names e p).2]) ∧ ∃ q, w' = w.drewN q := by
  rcases he with he | he
  · obtain rfl := empty_of he
    have HD : Hid (fileF b names ⟨#[]⟩ p = (⟨#[]⟩, 2)) := by show _ = _; unfold fileF; rw [if_pos he]
    rw [HD.out]
    clear he
    go_enter Try.func27, Try.ntmps27
    go_wp2
    go_ret2
    exact ⟨rfl, 0, rfl⟩
  · have h0 : ¬ e.size = 0 := by omega
    have z8 : (e.extract 8 12).size ≤ maxLen := by unfold maxLen; simp; omega
    have z0 : (e.extract 0 2).size ≤ maxLen := by unfold maxLen; simp; omega
    have z2 : (e.extract 2 4).size ≤ maxLen := by unfold maxLen; simp; omega
    have z4 : (e.extract 4 8).size ≤ maxLen := by unfold maxLen; simp; omega
    have hne := not_empty (m := 15) he
    have G8 := fun W => get_any (e.extract 8 12) W z8
    obtain ⟨q, hq, hq4⟩ : ∃ q : Nat, num (e.extract 8 12) = (q : Int) ∧ q < 4294967296 := ⟨(num (e.extract 8 12)).toNat, by have := (num_bounds (e.extract 8 12)).1; omega, num_lt4 _ (by simp; omega)⟩
    have hd : fileF b names e p = (if b.size < p + q + 16 then (⟨#[]⟩, 2) else if (num (e.extract 0 2) == 1 && num (e.extract 2 4) != 0) then if (txt names (num (e.extract 4 8)) 32).2 then ((txt names (num (e.extract 4 8)) 32).1, 0) else (⟨#[]⟩, 25) else (⟨#[]⟩, 4)) := by
      unfold fileF
      rw [if_neg h0, hq, Int.toNat_natCast]
    rw [hd]
    rw [hq] at G8
    clear hd hq h0
    by_cases hin : b.size < p + q + 16
    · rw [if_pos hin]
      go_enter Try.func27, Try.ntmps27
      go_wp2_with (first
        | (go_at_call 28; refine (G8 _).mono ?_; rintro r w' ⟨rfl, rfl⟩)
        | (go_at_call 37; refine (part_no _ _ _ _ hb (by omega) (by omega) (by omega)).mono ?_; rintro r w' ⟨rfl, rfl⟩))
      go_ret2
      exact ⟨rfl, 0, rfl⟩
    · rw [if_neg hin]
      obtain ⟨pl, hpl⟩ : ∃ pl, b.extract (p + q) (p + q + 16) = pl := ⟨_, rfl⟩
      have HP : Hid (pl = b.extract ((p : Int) + (q : Int)).toNat ((p : Int) + (q : Int) + 16).toNat) := by
        show _ = _
        rw [← hpl, show ((p : Int) + (q : Int)).toNat = p + q by omega, show ((p : Int) + (q : Int) + 16).toNat = p + q + 16 by omega]
      clear hpl
      obtain ⟨fb, hfb⟩ : ∃ fb, (num (e.extract 0 2) == 1 && num (e.extract 2 4) != 0) = fb := ⟨_, rfl⟩
      have HF : Hid ((num (e.extract 0 2) == 1 && num (e.extract 2 4) != 0) = fb) := hfb
      rw [hfb]
      clear hfb
      cases fb with
      | false =>
        rw [if_neg (by decide)]
        go_enter Try.func27, Try.ntmps27
        go_wp2_with (first
          | (go_at_call 28; refine (G8 _).mono ?_; rintro r w' ⟨rfl, rfl⟩)
          | (go_at_call 37; refine (part_yes _ _ _ _ _ HP hb (by omega) (by omega) (by omega)).mono ?_; rintro r w' ⟨rfl, rfl⟩))
        go_quiet (first | (go_at_call 38; refine Calls.quiet_of_same (formed_any _ _ _ _ z0 z2 HF)))
        go_wp2
        go_ret2
        exact ⟨rfl, _, rfl⟩
      | true =>
        rw [if_pos rfl]
        obtain ⟨tx, htx⟩ : ∃ tx, txt names (num (e.extract 4 8)) 32 = tx := ⟨_, rfl⟩
        obtain ⟨t, ok⟩ := tx
        have HT : Hid (txt names (num (e.extract 4 8)) 32 = (t, ok)) := htx
        rw [htx]
        clear htx
        cases ok with
        | false =>
          rw [if_neg (show ¬ ((t, false) : ByteArray × Bool).2 = true from fun h => Bool.noConfusion h)]
          go_enter Try.func27, Try.ntmps27
          go_wp2_with (first
            | (go_at_call 28; refine (G8 _).mono ?_; rintro r w' ⟨rfl, rfl⟩)
            | (go_at_call 37; refine (part_yes _ _ _ _ _ HP hb (by omega) (by omega) (by omega)).mono ?_; rintro r w' ⟨rfl, rfl⟩))
          go_quiet (first | (go_at_call 38; refine Calls.quiet_of_same (formed_any _ _ _ _ z0 z2 HF)))
          go_wp2_with (go_at_call 39; refine (vtext_any _ _ _ _ _ z4 hm HT).mono ?_; rintro r w' ⟨rfl, rfl⟩)
          go_ret2
          exact ⟨rfl, _, rfl⟩
        | true =>
          rw [if_pos (show ((t, true) : ByteArray × Bool).2 = true from rfl)]
          go_enter Try.func27, Try.ntmps27
          go_wp2_with (first
            | (go_at_call 28; refine (G8 _).mono ?_; rintro r w' ⟨rfl, rfl⟩)
            | (go_at_call 37; refine (part_yes _ _ _ _ _ HP hb (by omega) (by omega) (by omega)).mono ?_; rintro r w' ⟨rfl, rfl⟩))
          go_quiet (first | (go_at_call 38; refine Calls.quiet_of_same (formed_any _ _ _ _ z0 z2 HF)))
          go_wp2_with (go_at_call 39; refine (vtext_any _ _ _ _ _ z4 hm HT).mono ?_; rintro r w' ⟨rfl, rfl⟩)
          go_ret2
          exact ⟨rfl, _, rfl⟩
end Go.Proofs.Ytnlpncgblegbkaa
