/-
  Layer 6: the walk of InstNames. Conditions: the tables hold the names, the forms and the codes.
-/
import Derived.Test.YtmfmakkiefgogabDoorN1
import Derived.Test.YtmfmakkiefgogabDoorK2
import Derived.BigQuiet
namespace Go.Proofs.YtmfmakkiefgogabDoor
open Go.RowKit
set_option linter.unusedVariables false

theorem form_byte (k : Nat) (hk : k < 64) (w : World) : (Instr.index 9 (.string (formS k)) (.int .i64 0)).run Tryd.prog w = .ok (.int .u8 (formAt k)) w := by
  rw [run_index_string _ 9 _ _ _ Tryd.underlying9]
  have h1 : ∀ k, k < 64 → ((formAt k).toNat.toUInt8).toNat = (formAt k).toNat ∧ 0 ≤ formAt k := by decide +kernel
  obtain ⟨h2, h3⟩ := h1 k hk
  have hs : (formS k).size = 1 := rfl
  rw [dif_pos ⟨by omega, by rw [hs]; omega⟩]
  have e : ((formS k)[(0 : Int).toNat]'(by rw [hs]; omega)).toNat = (formAt k).toNat := h2
  rw [e, Int.toNat_of_nonneg h3]

theorem below_drewN {B : Nat} {a w : World} (h : Below B a w) (n : Nat) : Below B a (w.drewN n) := ⟨h.os, h.tape, h.output, h.size, h.block⟩

set_option maxRecDepth 100000 in
set_option maxHeartbeats 3200000 in
theorem found_in (k : Nat) (hk : k < 64) (s : ByteArray) (kk : Nat) (hkk : kk < 64) (HS : Hid (nameAt kk = s)) (w : World) (ht : Tabs w) (hn : NamesIn w) :
    Calls Tryd.prog 4 #[.int .i64 k, .string s] w fun e w' => e = .returned (.bool true) ∧ Below w.heap.size w w' := by
  have SP := speaks_any w ht
  have HH : Hid (∀ w', Below w.heap.size w w' → Tabs w' ∧ NamesIn w') := fun w' hb => ⟨ht.next hb, NamesIn.next hn hb⟩
  clear ht hn
  have NM : Hid (∀ w', Below w.heap.size w w' → Calls Tryd.prog 12 #[.string s] w' fun e w'' => e = .returned (.tuple #[.int .i64 kk, .bool true]) ∧ w'' = w') := by
    intro w' hb
    refine (named_any s w' (HH.out w' hb).2).mono fun e w'' he => ?_
    obtain ⟨⟨k2, hk2, e1, rfl⟩ | ⟨h1, _⟩, rfl⟩ := he
    · obtain rfl := names_inj k2 kk hk2 hkk (by rw [e1, HS.out])
      exact ⟨rfl, rfl⟩
    · exact absurd HS.out (h1 kk hkk)
  go_enter Tryd.func4, Tryd.ntmps4
  go_wp2_with (first
      | (go_at_call 7; with_reducible refine SP.mono ?_; rintro e w0 ⟨rfl, hb0⟩)
      | (go_at_call 11; refine (ref_kinds _).mono ?_; rintro e w1 ⟨B, rfl, hB, hb1⟩; have hb : Below w.heap.size w w1 := hb0.trans (hb1.mono hb0.size); have HB : Hid (_) := hB; clear hB hb0 hb1)
      | (go_at_call 12; with_reducible refine (NM.out _ hb).mono ?_; rintro e w' ⟨rfl, hw⟩; subst hw))
  go_loop [8, 9] (fun v i => ∃ j : Nat, j ≤ 64 ∧ i = .int .i64 j ∧ v = .int .i64 (if kk < j then (kk : Int) else -1)) (fun _ i => 64 - (intOf i).toNat)
  case atStart => exact ⟨0, by omega, rfl, by simp⟩
  case round =>
    obtain ⟨j, hj, rfl, rfl⟩ := hrel
    by_cases hlt : j < 64
    · have hcj := HB.out.name j hlt
      obtain ⟨y, hy⟩ : ∃ y, y = nameAt j := ⟨_, rfl⟩
      rw [← hy] at hcj
      by_cases he : j = kk
      · subst he
        have hys : y = s := by rw [hy]; exact HS.out
        subst hys
        clear hy
        have hng : ¬ j < j := by omega
        go_wp2
        go_round
        case rel => exact ⟨j + 1, by omega, by go_num, by rw [if_pos (show j < j + 1 by omega)]⟩
        case measure => simp [intOf]; omega
      · have hys : y ≠ s := by
          intro h
          exact he (names_inj j kk hlt hkk (by rw [← hy, h, HS.out]))
        have hne := str_ne hys
        clear hy hys
        by_cases hkj : kk < j
        · go_wp2
          go_round
          case rel => exact ⟨j + 1, by omega, by go_num, by rw [if_pos (show kk < j + 1 by omega), if_pos hkj]⟩
          case measure => simp [intOf]; omega
        · go_wp2
          go_round
          case rel => exact ⟨j + 1, by omega, by go_num, by rw [if_neg (show ¬ kk < j + 1 by omega), if_neg hkj]⟩
          case measure => simp [intOf]; omega
    · have hkj : kk < j := by omega
      have hmx : max (kk : Int) 0 = kk := by omega
      have hNM := name_any k
      obtain ⟨t9, n9⟩ := HH.out _ hb
      have NA : ∀ n, Calls Tryd.prog 13 #[.int .i64 k] (w'.drewN n) fun e w2 => e = .returned (.string (nameAt k)) ∧ w2 = w'.drewN n := fun n => name_any k _ hk (fun i hi => n9 i hi)
      have FA : ∀ n, Calls Tryd.prog 14 #[.int .i64 k] (w'.drewN n) fun e w2 => e = .returned (.int .u8 (formAt k)) ∧ w2 = w'.drewN n := fun n => form_any k _ hk ⟨t9.forms, t9.codes, t9.room⟩
      have hcn := HB.out.name k hk
      have hcf := HB.out.form k hk
      have hix := form_byte k hk
      clear hNM t9 n9
      generalize nameAt k = x at *
      generalize formS k = fs at *
      generalize formAt k = fm at *
      have hki : (k : Int) < 64 := by omega
      go_wp2
      go_quiet (first
        | (go_at_call 13; with_reducible refine Calls.quiet_of_same (NA _))
        | (go_at_call 14; with_reducible refine Calls.quiet_of_same (FA _)))
      go_wp2
      go_ret
      exact ⟨by simp, hb.trans ((below_drewN (Below.refl _ _) _).mono hb.size)⟩

set_option maxRecDepth 100000 in
set_option maxHeartbeats 3200000 in
theorem found_neg (o : Int) (ho : o < 0) (s : ByteArray) (kk : Nat) (hkk : kk < 64) (HS : Hid (nameAt kk = s)) (w : World) (ht : Tabs w) (hn : NamesIn w) :
    Calls Tryd.prog 4 #[.int .i64 o, .string s] w fun e w' => e = .returned (.bool true) ∧ Below w.heap.size w w' := by
  have SP := speaks_any w ht
  have HH : Hid (∀ w', Below w.heap.size w w' → Tabs w' ∧ NamesIn w') := fun w' hb => ⟨ht.next hb, NamesIn.next hn hb⟩
  clear ht hn
  have NM : Hid (∀ w', Below w.heap.size w w' → Calls Tryd.prog 12 #[.string s] w' fun e w'' => e = .returned (.tuple #[.int .i64 kk, .bool true]) ∧ w'' = w') := by
    intro w' hb
    refine (named_any s w' (HH.out w' hb).2).mono fun e w'' he => ?_
    obtain ⟨⟨k2, hk2, e1, rfl⟩ | ⟨h1, _⟩, rfl⟩ := he
    · obtain rfl := names_inj k2 kk hk2 hkk (by rw [e1, HS.out])
      exact ⟨rfl, rfl⟩
    · exact absurd HS.out (h1 kk hkk)
  clear HH
  go_enter Tryd.func4, Tryd.ntmps4
  go_wp2_with (first
      | (go_at_call 7; with_reducible refine SP.mono ?_; rintro e w0 ⟨rfl, hb0⟩)
      | (go_at_call 11; refine (ref_kinds _).mono ?_; rintro e w1 ⟨B, rfl, hB, hb1⟩; have hb : Below w.heap.size w w1 := hb0.trans (hb1.mono hb0.size); have HB : Hid (_) := hB; clear hB hb0 hb1)
      | (go_at_call 12; with_reducible refine (NM.out _ hb).mono ?_; rintro e w' ⟨rfl, hw⟩; subst hw))
  go_loop [8, 9] (fun v i => ∃ j : Nat, j ≤ 64 ∧ i = .int .i64 j ∧ v = .int .i64 (if kk < j then (kk : Int) else -1)) (fun _ i => 64 - (intOf i).toNat)
  case atStart => exact ⟨0, by omega, rfl, by simp⟩
  case round =>
    obtain ⟨j, hj, rfl, rfl⟩ := hrel
    by_cases hlt : j < 64
    · have hcj := HB.out.name j hlt
      obtain ⟨y, hy⟩ : ∃ y, y = nameAt j := ⟨_, rfl⟩
      rw [← hy] at hcj
      by_cases he : j = kk
      · subst he
        have hys : y = s := by rw [hy]; exact HS.out
        subst hys
        clear hy
        have hng : ¬ j < j := by omega
        go_wp2
        go_round
        case rel => exact ⟨j + 1, by omega, by go_num, by rw [if_pos (show j < j + 1 by omega)]⟩
        case measure => simp [intOf]; omega
      · have hys : y ≠ s := by
          intro h
          exact he (names_inj j kk hlt hkk (by rw [← hy, h, HS.out]))
        have hne := str_ne hys
        clear hy hys
        by_cases hkj : kk < j
        · go_wp2
          go_round
          case rel => exact ⟨j + 1, by omega, by go_num, by rw [if_pos (show kk < j + 1 by omega), if_pos hkj]⟩
          case measure => simp [intOf]; omega
        · go_wp2
          go_round
          case rel => exact ⟨j + 1, by omega, by go_num, by rw [if_neg (show ¬ kk < j + 1 by omega), if_neg hkj]⟩
          case measure => simp [intOf]; omega
    · have hkj : kk < j := by omega
      have hmx : max (kk : Int) 0 = kk := by omega
      go_wp2_with (first
        | (go_at_call 13; with_reducible refine (name_none _ _ (by omega)).mono ?_; rintro e w' ⟨rfl, hw⟩; subst hw)
        | (go_at_call 14; with_reducible refine (form_none _ _ (by omega)).mono ?_; rintro e w' ⟨rfl, hw⟩; subst hw))
      go_ret
      exact ⟨by simp, hb⟩

set_option maxRecDepth 100000 in
set_option maxHeartbeats 3200000 in
theorem found_above (o : Int) (ho : 64 ≤ o) (s : ByteArray) (kk : Nat) (hkk : kk < 64) (HS : Hid (nameAt kk = s)) (w : World) (ht : Tabs w) (hn : NamesIn w) :
    Calls Tryd.prog 4 #[.int .i64 o, .string s] w fun e w' => e = .returned (.bool true) ∧ Below w.heap.size w w' := by
  have SP := speaks_any w ht
  have HH : Hid (∀ w', Below w.heap.size w w' → Tabs w' ∧ NamesIn w') := fun w' hb => ⟨ht.next hb, NamesIn.next hn hb⟩
  clear ht hn
  have NM : Hid (∀ w', Below w.heap.size w w' → Calls Tryd.prog 12 #[.string s] w' fun e w'' => e = .returned (.tuple #[.int .i64 kk, .bool true]) ∧ w'' = w') := by
    intro w' hb
    refine (named_any s w' (HH.out w' hb).2).mono fun e w'' he => ?_
    obtain ⟨⟨k2, hk2, e1, rfl⟩ | ⟨h1, _⟩, rfl⟩ := he
    · obtain rfl := names_inj k2 kk hk2 hkk (by rw [e1, HS.out])
      exact ⟨rfl, rfl⟩
    · exact absurd HS.out (h1 kk hkk)
  clear HH
  go_enter Tryd.func4, Tryd.ntmps4
  go_wp2_with (first
      | (go_at_call 7; with_reducible refine SP.mono ?_; rintro e w0 ⟨rfl, hb0⟩)
      | (go_at_call 11; refine (ref_kinds _).mono ?_; rintro e w1 ⟨B, rfl, hB, hb1⟩; have hb : Below w.heap.size w w1 := hb0.trans (hb1.mono hb0.size); have HB : Hid (_) := hB; clear hB hb0 hb1)
      | (go_at_call 12; with_reducible refine (NM.out _ hb).mono ?_; rintro e w' ⟨rfl, hw⟩; subst hw))
  go_loop [8, 9] (fun v i => ∃ j : Nat, j ≤ 64 ∧ i = .int .i64 j ∧ v = .int .i64 (if kk < j then (kk : Int) else -1)) (fun _ i => 64 - (intOf i).toNat)
  case atStart => exact ⟨0, by omega, rfl, by simp⟩
  case round =>
    obtain ⟨j, hj, rfl, rfl⟩ := hrel
    by_cases hlt : j < 64
    · have hcj := HB.out.name j hlt
      obtain ⟨y, hy⟩ : ∃ y, y = nameAt j := ⟨_, rfl⟩
      rw [← hy] at hcj
      by_cases he : j = kk
      · subst he
        have hys : y = s := by rw [hy]; exact HS.out
        subst hys
        clear hy
        have hng : ¬ j < j := by omega
        go_wp2
        go_round
        case rel => exact ⟨j + 1, by omega, by go_num, by rw [if_pos (show j < j + 1 by omega)]⟩
        case measure => simp [intOf]; omega
      · have hys : y ≠ s := by
          intro h
          exact he (names_inj j kk hlt hkk (by rw [← hy, h, HS.out]))
        have hne := str_ne hys
        clear hy hys
        by_cases hkj : kk < j
        · go_wp2
          go_round
          case rel => exact ⟨j + 1, by omega, by go_num, by rw [if_pos (show kk < j + 1 by omega), if_pos hkj]⟩
          case measure => simp [intOf]; omega
        · go_wp2
          go_round
          case rel => exact ⟨j + 1, by omega, by go_num, by rw [if_neg (show ¬ kk < j + 1 by omega), if_neg hkj]⟩
          case measure => simp [intOf]; omega
    · have hkj : kk < j := by omega
      have hmx : max (kk : Int) 0 = kk := by omega
      go_wp2_with (first
        | (go_at_call 13; with_reducible refine (name_none _ _ (by omega)).mono ?_; rintro e w' ⟨rfl, hw⟩; subst hw)
        | (go_at_call 14; with_reducible refine (form_none _ _ (by omega)).mono ?_; rintro e w' ⟨rfl, hw⟩; subst hw))
      go_ret
      exact ⟨by simp, hb⟩

set_option maxRecDepth 100000 in
set_option maxHeartbeats 3200000 in
theorem lost_in (k : Nat) (hk : k < 64) (s : ByteArray) (HS : Hid (∀ j, j < 64 → nameAt j ≠ s)) (w : World) (ht : Tabs w) (hn : NamesIn w) :
    Calls Tryd.prog 4 #[.int .i64 k, .string s] w fun e w' => e = .returned (.bool true) ∧ Below w.heap.size w w' := by
  have SP := speaks_any w ht
  have HH : Hid (∀ w', Below w.heap.size w w' → Tabs w' ∧ NamesIn w') := fun w' hb => ⟨ht.next hb, NamesIn.next hn hb⟩
  clear ht hn
  have NM : Hid (∀ w', Below w.heap.size w w' → Calls Tryd.prog 12 #[.string s] w' fun e w'' => e = .returned (.tuple #[.int .i64 0, .bool false]) ∧ w'' = w') := by
    intro w' hb
    refine (named_any s w' (HH.out w' hb).2).mono fun e w'' he => ?_
    obtain ⟨⟨k2, hk2, e1, rfl⟩ | ⟨h1, rfl⟩, rfl⟩ := he
    · exact absurd e1 (HS.out k2 hk2)
    · exact ⟨rfl, rfl⟩
  go_enter Tryd.func4, Tryd.ntmps4
  go_wp2_with (first
      | (go_at_call 7; with_reducible refine SP.mono ?_; rintro e w0 ⟨rfl, hb0⟩)
      | (go_at_call 11; refine (ref_kinds _).mono ?_; rintro e w1 ⟨B, rfl, hB, hb1⟩; have hb : Below w.heap.size w w1 := hb0.trans (hb1.mono hb0.size); have HB : Hid (_) := hB; clear hB hb0 hb1)
      | (go_at_call 12; with_reducible refine (NM.out _ hb).mono ?_; rintro e w' ⟨rfl, hw⟩; subst hw))
  go_loop [8, 9] (fun v i => ∃ j : Nat, j ≤ 64 ∧ i = .int .i64 j ∧ v = .int .i64 (-1)) (fun _ i => 64 - (intOf i).toNat)
  case atStart => exact ⟨0, by omega, rfl, rfl⟩
  case round =>
    obtain ⟨j, hj, rfl, rfl⟩ := hrel
    by_cases hlt : j < 64
    · have hcj := HB.out.name j hlt
      have hys := HS.out j hlt
      obtain ⟨y, hy⟩ : ∃ y, y = nameAt j := ⟨_, rfl⟩
      rw [← hy] at hcj hys
      have hne := str_ne hys
      clear hy hys
      go_wp2
      go_round
      case rel => exact ⟨j + 1, by omega, by go_num, rfl⟩
      case measure => simp [intOf]; omega
    · skip
      have hNM := name_any k
      obtain ⟨t9, n9⟩ := HH.out _ hb
      have NA : ∀ n, Calls Tryd.prog 13 #[.int .i64 k] (w'.drewN n) fun e w2 => e = .returned (.string (nameAt k)) ∧ w2 = w'.drewN n := fun n => name_any k _ hk (fun i hi => n9 i hi)
      have FA : ∀ n, Calls Tryd.prog 14 #[.int .i64 k] (w'.drewN n) fun e w2 => e = .returned (.int .u8 (formAt k)) ∧ w2 = w'.drewN n := fun n => form_any k _ hk ⟨t9.forms, t9.codes, t9.room⟩
      have hcn := HB.out.name k hk
      have hcf := HB.out.form k hk
      have hix := form_byte k hk
      clear hNM t9 n9
      generalize nameAt k = x at *
      generalize formS k = fs at *
      generalize formAt k = fm at *
      have hki : (k : Int) < 64 := by omega
      go_wp2
      go_quiet (first
        | (go_at_call 13; with_reducible refine Calls.quiet_of_same (NA _))
        | (go_at_call 14; with_reducible refine Calls.quiet_of_same (FA _)))
      go_wp2
      go_ret
      exact ⟨by simp, hb.trans ((below_drewN (Below.refl _ _) _).mono hb.size)⟩

set_option maxRecDepth 100000 in
set_option maxHeartbeats 3200000 in
theorem lost_neg (o : Int) (ho : o < 0) (s : ByteArray) (HS : Hid (∀ j, j < 64 → nameAt j ≠ s)) (w : World) (ht : Tabs w) (hn : NamesIn w) :
    Calls Tryd.prog 4 #[.int .i64 o, .string s] w fun e w' => e = .returned (.bool true) ∧ Below w.heap.size w w' := by
  have SP := speaks_any w ht
  have HH : Hid (∀ w', Below w.heap.size w w' → Tabs w' ∧ NamesIn w') := fun w' hb => ⟨ht.next hb, NamesIn.next hn hb⟩
  clear ht hn
  have NM : Hid (∀ w', Below w.heap.size w w' → Calls Tryd.prog 12 #[.string s] w' fun e w'' => e = .returned (.tuple #[.int .i64 0, .bool false]) ∧ w'' = w') := by
    intro w' hb
    refine (named_any s w' (HH.out w' hb).2).mono fun e w'' he => ?_
    obtain ⟨⟨k2, hk2, e1, rfl⟩ | ⟨h1, rfl⟩, rfl⟩ := he
    · exact absurd e1 (HS.out k2 hk2)
    · exact ⟨rfl, rfl⟩
  clear HH
  go_enter Tryd.func4, Tryd.ntmps4
  go_wp2_with (first
      | (go_at_call 7; with_reducible refine SP.mono ?_; rintro e w0 ⟨rfl, hb0⟩)
      | (go_at_call 11; refine (ref_kinds _).mono ?_; rintro e w1 ⟨B, rfl, hB, hb1⟩; have hb : Below w.heap.size w w1 := hb0.trans (hb1.mono hb0.size); have HB : Hid (_) := hB; clear hB hb0 hb1)
      | (go_at_call 12; with_reducible refine (NM.out _ hb).mono ?_; rintro e w' ⟨rfl, hw⟩; subst hw))
  go_loop [8, 9] (fun v i => ∃ j : Nat, j ≤ 64 ∧ i = .int .i64 j ∧ v = .int .i64 (-1)) (fun _ i => 64 - (intOf i).toNat)
  case atStart => exact ⟨0, by omega, rfl, rfl⟩
  case round =>
    obtain ⟨j, hj, rfl, rfl⟩ := hrel
    by_cases hlt : j < 64
    · have hcj := HB.out.name j hlt
      have hys := HS.out j hlt
      obtain ⟨y, hy⟩ : ∃ y, y = nameAt j := ⟨_, rfl⟩
      rw [← hy] at hcj hys
      have hne := str_ne hys
      clear hy hys
      go_wp2
      go_round
      case rel => exact ⟨j + 1, by omega, by go_num, rfl⟩
      case measure => simp [intOf]; omega
    · skip
      go_wp2_with (first
        | (go_at_call 13; with_reducible refine (name_none _ _ (by omega)).mono ?_; rintro e w' ⟨rfl, hw⟩; subst hw)
        | (go_at_call 14; with_reducible refine (form_none _ _ (by omega)).mono ?_; rintro e w' ⟨rfl, hw⟩; subst hw))
      go_ret
      exact ⟨by simp, hb⟩

set_option maxRecDepth 100000 in
set_option maxHeartbeats 3200000 in
theorem lost_above (o : Int) (ho : 64 ≤ o) (s : ByteArray) (HS : Hid (∀ j, j < 64 → nameAt j ≠ s)) (w : World) (ht : Tabs w) (hn : NamesIn w) :
    Calls Tryd.prog 4 #[.int .i64 o, .string s] w fun e w' => e = .returned (.bool true) ∧ Below w.heap.size w w' := by
  have SP := speaks_any w ht
  have HH : Hid (∀ w', Below w.heap.size w w' → Tabs w' ∧ NamesIn w') := fun w' hb => ⟨ht.next hb, NamesIn.next hn hb⟩
  clear ht hn
  have NM : Hid (∀ w', Below w.heap.size w w' → Calls Tryd.prog 12 #[.string s] w' fun e w'' => e = .returned (.tuple #[.int .i64 0, .bool false]) ∧ w'' = w') := by
    intro w' hb
    refine (named_any s w' (HH.out w' hb).2).mono fun e w'' he => ?_
    obtain ⟨⟨k2, hk2, e1, rfl⟩ | ⟨h1, rfl⟩, rfl⟩ := he
    · exact absurd e1 (HS.out k2 hk2)
    · exact ⟨rfl, rfl⟩
  clear HH
  go_enter Tryd.func4, Tryd.ntmps4
  go_wp2_with (first
      | (go_at_call 7; with_reducible refine SP.mono ?_; rintro e w0 ⟨rfl, hb0⟩)
      | (go_at_call 11; refine (ref_kinds _).mono ?_; rintro e w1 ⟨B, rfl, hB, hb1⟩; have hb : Below w.heap.size w w1 := hb0.trans (hb1.mono hb0.size); have HB : Hid (_) := hB; clear hB hb0 hb1)
      | (go_at_call 12; with_reducible refine (NM.out _ hb).mono ?_; rintro e w' ⟨rfl, hw⟩; subst hw))
  go_loop [8, 9] (fun v i => ∃ j : Nat, j ≤ 64 ∧ i = .int .i64 j ∧ v = .int .i64 (-1)) (fun _ i => 64 - (intOf i).toNat)
  case atStart => exact ⟨0, by omega, rfl, rfl⟩
  case round =>
    obtain ⟨j, hj, rfl, rfl⟩ := hrel
    by_cases hlt : j < 64
    · have hcj := HB.out.name j hlt
      have hys := HS.out j hlt
      obtain ⟨y, hy⟩ : ∃ y, y = nameAt j := ⟨_, rfl⟩
      rw [← hy] at hcj hys
      have hne := str_ne hys
      clear hy hys
      go_wp2
      go_round
      case rel => exact ⟨j + 1, by omega, by go_num, rfl⟩
      case measure => simp [intOf]; omega
    · skip
      go_wp2_with (first
        | (go_at_call 13; with_reducible refine (name_none _ _ (by omega)).mono ?_; rintro e w' ⟨rfl, hw⟩; subst hw)
        | (go_at_call 14; with_reducible refine (form_none _ _ (by omega)).mono ?_; rintro e w' ⟨rfl, hw⟩; subst hw))
      go_ret
      exact ⟨by simp, hb⟩

theorem names_any (o : Int) (s : ByteArray) (w : World) (ht : Tabs w) (hn : NamesIn w) :
    Calls Tryd.prog 4 #[.int .i64 o, .string s] w fun e w' => e = .returned (.bool true) ∧ Below w.heap.size w w' := by
  have hcase : (∃ k : Nat, k < 64 ∧ o = k) ∨ o < 0 ∨ 64 ≤ o := by
    by_cases h1 : 0 ≤ o
    · obtain ⟨k, rfl⟩ := Int.eq_ofNat_of_zero_le h1
      by_cases h3 : k < 64
      · exact .inl ⟨k, h3, rfl⟩
      · exact .inr (.inr (by omega))
    · exact .inr (.inl (by omega))
  by_cases hs : ∃ kk, kk < 64 ∧ nameAt kk = s
  · obtain ⟨kk, hkk, hs⟩ := hs
    rcases hcase with ⟨k, hk, rfl⟩ | ho | ho
    · exact found_in k hk s kk hkk hs w ht hn
    · exact found_neg o ho s kk hkk hs w ht hn
    · exact found_above o ho s kk hkk hs w ht hn
  · have hnn : ∀ j, j < 64 → nameAt j ≠ s := fun j hj e => hs ⟨j, hj, e⟩
    rcases hcase with ⟨k, hk, rfl⟩ | ho | ho
    · exact lost_in k hk s hnn w ht hn
    · exact lost_neg o ho s hnn w ht hn
    · exact lost_above o ho s hnn w ht hn
end Go.Proofs.YtmfmakkiefgogabDoor
