/-
  Layer 5: the walk of WordNames. Conditions: the names' variable holds the names.
-/
import Derived.Test.YtmfmakkiefgogaaDoorNames0
namespace Go.Proofs.YtmfmakkiefgogaaDoor
open Go.RowKit
set_option linter.unusedVariables false

set_option maxRecDepth 100000 in
set_option maxHeartbeats 3200000 in
theorem found_low (k : Nat) (hk : k < 18) (s : ByteArray) (kk : Nat) (hkk : kk < 28) (HS : Hid (nameAt kk = s)) (w : World) (h : ∀ i, i < 28 → w.cell? ⟨0, i, none⟩ = some (.string (nameAt i))) :
    Calls Tryd.prog 4 #[.int .i64 k, .string s] w fun e w' => e = .returned (.bool true) ∧ Below w.heap.size w w' := by
  have SP := speaks_any w h
  have h0 := World.block_lt_of_cell? w _ (h 0 (by omega))
  have HH : Hid (∀ w', Below w.heap.size w w' → ∀ i, i < 28 → w'.cell? ⟨0, i, none⟩ = some (.string (nameAt i))) := by
    intro w' hb i hi
    exact (hb.cell (p := ⟨0, i, none⟩) h0).trans (h i hi)
  clear h h0
  have NM : Hid (∀ w', Below w.heap.size w w' → Calls Tryd.prog 15 #[.string s] w' fun e w'' => e = .returned (.tuple #[.int .i64 kk, .bool true]) ∧ w'' = w') := by
    intro w' hb
    refine (named_any s w' (HH.out w' hb)).mono fun e w'' he => ?_
    obtain ⟨⟨k2, hk2, e1, e2, rfl⟩ | ⟨h1, _⟩, rfl⟩ := he
    · obtain rfl := names_inj k2 kk hk2 hkk (by rw [e1, HS.out])
      exact ⟨rfl, rfl⟩
    · exact absurd HS.out (h1 kk hkk)
  obtain ⟨x, hx⟩ : ∃ x, x = nameAt k := ⟨_, rfl⟩
  have hxe : x.toList.isEmpty = false := by rw [hx]; exact names_full k (by omega)
  have NA : Hid (∀ w', Below w.heap.size w w' → Calls Tryd.prog 13 #[.int .i64 k] w' fun e w'' => e = .returned (.string x) ∧ w'' = w') := by
    intro w' hb; rw [hx]; exact name_any k w' (by omega) (HH.out w' hb)
  have HC : Hid (∀ (w' : World) (B : Nat), (∀ j, j < 28 → w'.cell? ⟨B, j, none⟩ = some (.string (nameAt j))) → w'.cell? ⟨B, k, none⟩ = some (.string x)) := by
    intro w' B h; rw [hx]; exact h k (by omega)
  clear hx HH
  go_enter Tryd.func4, Tryd.ntmps4
  go_wp2_with (first
      | (go_at_call 9; with_reducible refine SP.mono ?_; rintro e w' ⟨rfl, rfl⟩)
      | (go_at_call 12; refine (ref_names _).mono ?_; rintro e w1 ⟨B, rfl, hB, hb⟩; have hck := HC.out _ _ hB; have HB : Hid (_) := hB; clear hB)
      | (go_at_call 13; with_reducible refine (NA.out _ hb).mono ?_; rintro e w' ⟨rfl, hw⟩; subst hw)
      | (go_at_call 14; with_reducible refine (isHalf_no _ _ (by omega)).mono ?_; rintro e w' ⟨rfl, hw⟩; subst hw)
      | (go_at_call 15; with_reducible refine (NM.out _ hb).mono ?_; rintro e w' ⟨rfl, hw⟩; subst hw))
  go_loop [9, 10] (fun v i => ∃ j : Nat, j ≤ 28 ∧ i = .int .i64 j ∧ v = .int .i64 (if kk < j then (kk : Int) else -1)) (fun _ i => 28 - (intOf i).toNat)
  case atStart => exact ⟨0, by omega, rfl, by simp⟩
  case round =>
    obtain ⟨j, hj, rfl, rfl⟩ := hrel
    by_cases hlt : j < 28
    · have hcj := HB.out j hlt
      obtain ⟨y, hy⟩ : ∃ y, y = nameAt j := ⟨_, rfl⟩
      rw [← hy] at hcj
      by_cases he : j = kk
      · subst he
        have hys : y = s := by rw [hy]; exact HS.out
        subst hys
        clear hy
        have hng : ¬ j < j := by omega
        go_wp2
        go_round
        case rel => exact ⟨j + 1, by omega, by go_num, by rw [if_pos (show j < j + 1 by omega)]⟩
        case measure => simp [intOf]; omega
      · have hys : y ≠ s := by
          intro h
          exact he (names_inj j kk hlt hkk (by rw [← hy, h, HS.out]))
        have hne := str_ne hys
        clear hy hys
        by_cases hkj : kk < j
        · go_wp2
          go_round
          case rel => exact ⟨j + 1, by omega, by go_num, by rw [if_pos (show kk < j + 1 by omega), if_pos hkj]⟩
          case measure => simp [intOf]; omega
        · go_wp2
          go_round
          case rel => exact ⟨j + 1, by omega, by go_num, by rw [if_neg (show ¬ kk < j + 1 by omega), if_neg hkj]⟩
          case measure => simp [intOf]; omega
    · have hkj : kk < j := by omega
      have hmx : max (kk : Int) 0 = kk := by omega
      go_wp2
      go_ret
      exact ⟨by simp, hb⟩

set_option maxRecDepth 100000 in
set_option maxHeartbeats 3200000 in
theorem found_half (k : Nat) (hk0 : 18 ≤ k) (hk : k < 28) (s : ByteArray) (kk : Nat) (hkk : kk < 28) (HS : Hid (nameAt kk = s)) (w : World) (h : ∀ i, i < 28 → w.cell? ⟨0, i, none⟩ = some (.string (nameAt i))) :
    Calls Tryd.prog 4 #[.int .i64 k, .string s] w fun e w' => e = .returned (.bool true) ∧ Below w.heap.size w w' := by
  have SP := speaks_any w h
  have h0 := World.block_lt_of_cell? w _ (h 0 (by omega))
  have HH : Hid (∀ w', Below w.heap.size w w' → ∀ i, i < 28 → w'.cell? ⟨0, i, none⟩ = some (.string (nameAt i))) := by
    intro w' hb i hi
    exact (hb.cell (p := ⟨0, i, none⟩) h0).trans (h i hi)
  clear h h0
  have NM : Hid (∀ w', Below w.heap.size w w' → Calls Tryd.prog 15 #[.string s] w' fun e w'' => e = .returned (.tuple #[.int .i64 kk, .bool true]) ∧ w'' = w') := by
    intro w' hb
    refine (named_any s w' (HH.out w' hb)).mono fun e w'' he => ?_
    obtain ⟨⟨k2, hk2, e1, e2, rfl⟩ | ⟨h1, _⟩, rfl⟩ := he
    · obtain rfl := names_inj k2 kk hk2 hkk (by rw [e1, HS.out])
      exact ⟨rfl, rfl⟩
    · exact absurd HS.out (h1 kk hkk)
  obtain ⟨x, hx⟩ : ∃ x, x = nameAt k := ⟨_, rfl⟩
  have hxe : x.toList.isEmpty = false := by rw [hx]; exact names_full k (by omega)
  have NA : Hid (∀ w', Below w.heap.size w w' → Calls Tryd.prog 13 #[.int .i64 k] w' fun e w'' => e = .returned (.string x) ∧ w'' = w') := by
    intro w' hb; rw [hx]; exact name_any k w' (by omega) (HH.out w' hb)
  have HC : Hid (∀ (w' : World) (B : Nat), (∀ j, j < 28 → w'.cell? ⟨B, j, none⟩ = some (.string (nameAt j))) → w'.cell? ⟨B, k, none⟩ = some (.string x)) := by
    intro w' B h; rw [hx]; exact h k (by omega)
  clear hx HH
  go_enter Tryd.func4, Tryd.ntmps4
  go_wp2_with (first
      | (go_at_call 9; with_reducible refine SP.mono ?_; rintro e w' ⟨rfl, rfl⟩)
      | (go_at_call 12; refine (ref_names _).mono ?_; rintro e w1 ⟨B, rfl, hB, hb⟩; have hck := HC.out _ _ hB; have HB : Hid (_) := hB; clear hB)
      | (go_at_call 13; with_reducible refine (NA.out _ hb).mono ?_; rintro e w' ⟨rfl, hw⟩; subst hw)
      | (go_at_call 14; with_reducible refine (isHalf_yes _ _ (by omega) (by omega)).mono ?_; rintro e w' ⟨rfl, hw⟩; subst hw)
      | (go_at_call 15; with_reducible refine (NM.out _ hb).mono ?_; rintro e w' ⟨rfl, hw⟩; subst hw))
  go_loop [9, 10] (fun v i => ∃ j : Nat, j ≤ 28 ∧ i = .int .i64 j ∧ v = .int .i64 (if kk < j then (kk : Int) else -1)) (fun _ i => 28 - (intOf i).toNat)
  case atStart => exact ⟨0, by omega, rfl, by simp⟩
  case round =>
    obtain ⟨j, hj, rfl, rfl⟩ := hrel
    by_cases hlt : j < 28
    · have hcj := HB.out j hlt
      obtain ⟨y, hy⟩ : ∃ y, y = nameAt j := ⟨_, rfl⟩
      rw [← hy] at hcj
      by_cases he : j = kk
      · subst he
        have hys : y = s := by rw [hy]; exact HS.out
        subst hys
        clear hy
        have hng : ¬ j < j := by omega
        go_wp2
        go_round
        case rel => exact ⟨j + 1, by omega, by go_num, by rw [if_pos (show j < j + 1 by omega)]⟩
        case measure => simp [intOf]; omega
      · have hys : y ≠ s := by
          intro h
          exact he (names_inj j kk hlt hkk (by rw [← hy, h, HS.out]))
        have hne := str_ne hys
        clear hy hys
        by_cases hkj : kk < j
        · go_wp2
          go_round
          case rel => exact ⟨j + 1, by omega, by go_num, by rw [if_pos (show kk < j + 1 by omega), if_pos hkj]⟩
          case measure => simp [intOf]; omega
        · go_wp2
          go_round
          case rel => exact ⟨j + 1, by omega, by go_num, by rw [if_neg (show ¬ kk < j + 1 by omega), if_neg hkj]⟩
          case measure => simp [intOf]; omega
    · have hkj : kk < j := by omega
      have hmx : max (kk : Int) 0 = kk := by omega
      go_wp2
      go_ret
      exact ⟨by simp, hb⟩

set_option maxRecDepth 100000 in
set_option maxHeartbeats 3200000 in
theorem found_neg (o : Int) (ho : o < 0) (s : ByteArray) (kk : Nat) (hkk : kk < 28) (HS : Hid (nameAt kk = s)) (w : World) (h : ∀ i, i < 28 → w.cell? ⟨0, i, none⟩ = some (.string (nameAt i))) :
    Calls Tryd.prog 4 #[.int .i64 o, .string s] w fun e w' => e = .returned (.bool true) ∧ Below w.heap.size w w' := by
  have SP := speaks_any w h
  have h0 := World.block_lt_of_cell? w _ (h 0 (by omega))
  have HH : Hid (∀ w', Below w.heap.size w w' → ∀ i, i < 28 → w'.cell? ⟨0, i, none⟩ = some (.string (nameAt i))) := by
    intro w' hb i hi
    exact (hb.cell (p := ⟨0, i, none⟩) h0).trans (h i hi)
  clear h h0
  have NM : Hid (∀ w', Below w.heap.size w w' → Calls Tryd.prog 15 #[.string s] w' fun e w'' => e = .returned (.tuple #[.int .i64 kk, .bool true]) ∧ w'' = w') := by
    intro w' hb
    refine (named_any s w' (HH.out w' hb)).mono fun e w'' he => ?_
    obtain ⟨⟨k2, hk2, e1, e2, rfl⟩ | ⟨h1, _⟩, rfl⟩ := he
    · obtain rfl := names_inj k2 kk hk2 hkk (by rw [e1, HS.out])
      exact ⟨rfl, rfl⟩
    · exact absurd HS.out (h1 kk hkk)
  have NA : Hid (∀ w', Below w.heap.size w w' → Calls Tryd.prog 13 #[.int .i64 o] w' fun e w'' => e = .returned (.string ⟨#[]⟩) ∧ w'' = w') := by
    intro w' hb; exact name_none o w' (by omega)
  clear HH
  go_enter Tryd.func4, Tryd.ntmps4
  go_wp2_with (first
      | (go_at_call 9; with_reducible refine SP.mono ?_; rintro e w' ⟨rfl, rfl⟩)
      | (go_at_call 12; refine (ref_names _).mono ?_; rintro e w1 ⟨B, rfl, hB, hb⟩; have HB : Hid (_) := hB; clear hB)
      | (go_at_call 10; with_reducible refine (do_none _ 7 9 (by omega) (by omega) (by omega) (by omega) _ (by omega)).mono ?_; rintro e w' ⟨rfl, hw⟩; subst hw)
      | (go_at_call 13; with_reducible refine (NA.out _ hb).mono ?_; rintro e w' ⟨rfl, hw⟩; subst hw)
      | (go_at_call 14; with_reducible refine (isHalf_no _ _ (by omega)).mono ?_; rintro e w' ⟨rfl, hw⟩; subst hw)
      | (go_at_call 15; with_reducible refine (NM.out _ hb).mono ?_; rintro e w' ⟨rfl, hw⟩; subst hw))
  go_loop [9, 10] (fun v i => ∃ j : Nat, j ≤ 28 ∧ i = .int .i64 j ∧ v = .int .i64 (if kk < j then (kk : Int) else -1)) (fun _ i => 28 - (intOf i).toNat)
  case atStart => exact ⟨0, by omega, rfl, by simp⟩
  case round =>
    obtain ⟨j, hj, rfl, rfl⟩ := hrel
    by_cases hlt : j < 28
    · have hcj := HB.out j hlt
      obtain ⟨y, hy⟩ : ∃ y, y = nameAt j := ⟨_, rfl⟩
      rw [← hy] at hcj
      by_cases he : j = kk
      · subst he
        have hys : y = s := by rw [hy]; exact HS.out
        subst hys
        clear hy
        have hng : ¬ j < j := by omega
        go_wp2
        go_round
        case rel => exact ⟨j + 1, by omega, by go_num, by rw [if_pos (show j < j + 1 by omega)]⟩
        case measure => simp [intOf]; omega
      · have hys : y ≠ s := by
          intro h
          exact he (names_inj j kk hlt hkk (by rw [← hy, h, HS.out]))
        have hne := str_ne hys
        clear hy hys
        by_cases hkj : kk < j
        · go_wp2
          go_round
          case rel => exact ⟨j + 1, by omega, by go_num, by rw [if_pos (show kk < j + 1 by omega), if_pos hkj]⟩
          case measure => simp [intOf]; omega
        · go_wp2
          go_round
          case rel => exact ⟨j + 1, by omega, by go_num, by rw [if_neg (show ¬ kk < j + 1 by omega), if_neg hkj]⟩
          case measure => simp [intOf]; omega
    · have hkj : kk < j := by omega
      have hmx : max (kk : Int) 0 = kk := by omega
      go_wp2
      go_ret
      exact ⟨by simp, hb⟩

set_option maxRecDepth 100000 in
set_option maxHeartbeats 3200000 in
theorem found_above (o : Int) (ho : 28 ≤ o) (s : ByteArray) (kk : Nat) (hkk : kk < 28) (HS : Hid (nameAt kk = s)) (w : World) (h : ∀ i, i < 28 → w.cell? ⟨0, i, none⟩ = some (.string (nameAt i))) :
    Calls Tryd.prog 4 #[.int .i64 o, .string s] w fun e w' => e = .returned (.bool true) ∧ Below w.heap.size w w' := by
  have SP := speaks_any w h
  have h0 := World.block_lt_of_cell? w _ (h 0 (by omega))
  have HH : Hid (∀ w', Below w.heap.size w w' → ∀ i, i < 28 → w'.cell? ⟨0, i, none⟩ = some (.string (nameAt i))) := by
    intro w' hb i hi
    exact (hb.cell (p := ⟨0, i, none⟩) h0).trans (h i hi)
  clear h h0
  have NM : Hid (∀ w', Below w.heap.size w w' → Calls Tryd.prog 15 #[.string s] w' fun e w'' => e = .returned (.tuple #[.int .i64 kk, .bool true]) ∧ w'' = w') := by
    intro w' hb
    refine (named_any s w' (HH.out w' hb)).mono fun e w'' he => ?_
    obtain ⟨⟨k2, hk2, e1, e2, rfl⟩ | ⟨h1, _⟩, rfl⟩ := he
    · obtain rfl := names_inj k2 kk hk2 hkk (by rw [e1, HS.out])
      exact ⟨rfl, rfl⟩
    · exact absurd HS.out (h1 kk hkk)
  have NA : Hid (∀ w', Below w.heap.size w w' → Calls Tryd.prog 13 #[.int .i64 o] w' fun e w'' => e = .returned (.string ⟨#[]⟩) ∧ w'' = w') := by
    intro w' hb; exact name_none o w' (by omega)
  clear HH
  go_enter Tryd.func4, Tryd.ntmps4
  go_wp2_with (first
      | (go_at_call 9; with_reducible refine SP.mono ?_; rintro e w' ⟨rfl, rfl⟩)
      | (go_at_call 12; refine (ref_names _).mono ?_; rintro e w1 ⟨B, rfl, hB, hb⟩; have HB : Hid (_) := hB; clear hB)
      | (go_at_call 10; with_reducible refine (do_none _ 7 9 (by omega) (by omega) (by omega) (by omega) _ (by omega)).mono ?_; rintro e w' ⟨rfl, hw⟩; subst hw)
      | (go_at_call 13; with_reducible refine (NA.out _ hb).mono ?_; rintro e w' ⟨rfl, hw⟩; subst hw)
      | (go_at_call 14; with_reducible refine (isHalf_no _ _ (by omega)).mono ?_; rintro e w' ⟨rfl, hw⟩; subst hw)
      | (go_at_call 15; with_reducible refine (NM.out _ hb).mono ?_; rintro e w' ⟨rfl, hw⟩; subst hw))
  go_loop [9, 10] (fun v i => ∃ j : Nat, j ≤ 28 ∧ i = .int .i64 j ∧ v = .int .i64 (if kk < j then (kk : Int) else -1)) (fun _ i => 28 - (intOf i).toNat)
  case atStart => exact ⟨0, by omega, rfl, by simp⟩
  case round =>
    obtain ⟨j, hj, rfl, rfl⟩ := hrel
    by_cases hlt : j < 28
    · have hcj := HB.out j hlt
      obtain ⟨y, hy⟩ : ∃ y, y = nameAt j := ⟨_, rfl⟩
      rw [← hy] at hcj
      by_cases he : j = kk
      · subst he
        have hys : y = s := by rw [hy]; exact HS.out
        subst hys
        clear hy
        have hng : ¬ j < j := by omega
        go_wp2
        go_round
        case rel => exact ⟨j + 1, by omega, by go_num, by rw [if_pos (show j < j + 1 by omega)]⟩
        case measure => simp [intOf]; omega
      · have hys : y ≠ s := by
          intro h
          exact he (names_inj j kk hlt hkk (by rw [← hy, h, HS.out]))
        have hne := str_ne hys
        clear hy hys
        by_cases hkj : kk < j
        · go_wp2
          go_round
          case rel => exact ⟨j + 1, by omega, by go_num, by rw [if_pos (show kk < j + 1 by omega), if_pos hkj]⟩
          case measure => simp [intOf]; omega
        · go_wp2
          go_round
          case rel => exact ⟨j + 1, by omega, by go_num, by rw [if_neg (show ¬ kk < j + 1 by omega), if_neg hkj]⟩
          case measure => simp [intOf]; omega
    · have hkj : kk < j := by omega
      have hmx : max (kk : Int) 0 = kk := by omega
      go_wp2
      go_ret
      exact ⟨by simp, hb⟩

set_option maxRecDepth 100000 in
set_option maxHeartbeats 3200000 in
theorem lost_low (k : Nat) (hk : k < 18) (s : ByteArray) (HS : Hid (∀ j, j < 28 → nameAt j ≠ s)) (w : World) (h : ∀ i, i < 28 → w.cell? ⟨0, i, none⟩ = some (.string (nameAt i))) :
    Calls Tryd.prog 4 #[.int .i64 k, .string s] w fun e w' => e = .returned (.bool true) ∧ Below w.heap.size w w' := by
  have SP := speaks_any w h
  have h0 := World.block_lt_of_cell? w _ (h 0 (by omega))
  have HH : Hid (∀ w', Below w.heap.size w w' → ∀ i, i < 28 → w'.cell? ⟨0, i, none⟩ = some (.string (nameAt i))) := by
    intro w' hb i hi
    exact (hb.cell (p := ⟨0, i, none⟩) h0).trans (h i hi)
  clear h h0
  have NM : Hid (∀ w', Below w.heap.size w w' → Calls Tryd.prog 15 #[.string s] w' fun e w'' => e = .returned (.tuple #[.int .i64 0, .bool false]) ∧ w'' = w') := by
    intro w' hb
    refine (named_any s w' (HH.out w' hb)).mono fun e w'' he => ?_
    obtain ⟨⟨k2, hk2, e1, e2, rfl⟩ | ⟨h1, rfl⟩, rfl⟩ := he
    · exact absurd e1 (HS.out k2 hk2)
    · exact ⟨rfl, rfl⟩
  obtain ⟨x, hx⟩ : ∃ x, x = nameAt k := ⟨_, rfl⟩
  have hxe : x.toList.isEmpty = false := by rw [hx]; exact names_full k (by omega)
  have NA : Hid (∀ w', Below w.heap.size w w' → Calls Tryd.prog 13 #[.int .i64 k] w' fun e w'' => e = .returned (.string x) ∧ w'' = w') := by
    intro w' hb; rw [hx]; exact name_any k w' (by omega) (HH.out w' hb)
  have HC : Hid (∀ (w' : World) (B : Nat), (∀ j, j < 28 → w'.cell? ⟨B, j, none⟩ = some (.string (nameAt j))) → w'.cell? ⟨B, k, none⟩ = some (.string x)) := by
    intro w' B h; rw [hx]; exact h k (by omega)
  clear hx HH
  go_enter Tryd.func4, Tryd.ntmps4
  go_wp2_with (first
      | (go_at_call 9; with_reducible refine SP.mono ?_; rintro e w' ⟨rfl, rfl⟩)
      | (go_at_call 12; refine (ref_names _).mono ?_; rintro e w1 ⟨B, rfl, hB, hb⟩; have hck := HC.out _ _ hB; have HB : Hid (_) := hB; clear hB)
      | (go_at_call 13; with_reducible refine (NA.out _ hb).mono ?_; rintro e w' ⟨rfl, hw⟩; subst hw)
      | (go_at_call 14; with_reducible refine (isHalf_no _ _ (by omega)).mono ?_; rintro e w' ⟨rfl, hw⟩; subst hw)
      | (go_at_call 15; with_reducible refine (NM.out _ hb).mono ?_; rintro e w' ⟨rfl, hw⟩; subst hw))
  go_loop [9, 10] (fun v i => ∃ j : Nat, j ≤ 28 ∧ i = .int .i64 j ∧ v = .int .i64 (-1)) (fun _ i => 28 - (intOf i).toNat)
  case atStart => exact ⟨0, by omega, rfl, rfl⟩
  case round =>
    obtain ⟨j, hj, rfl, rfl⟩ := hrel
    by_cases hlt : j < 28
    · have hcj := HB.out j hlt
      have hys := HS.out j hlt
      obtain ⟨y, hy⟩ : ∃ y, y = nameAt j := ⟨_, rfl⟩
      rw [← hy] at hcj hys
      have hne := str_ne hys
      clear hy hys
      go_wp2
      go_round
      case rel => exact ⟨j + 1, by omega, by go_num, rfl⟩
      case measure => simp [intOf]; omega
    · go_wp2
      go_ret
      exact ⟨by simp, hb⟩

set_option maxRecDepth 100000 in
set_option maxHeartbeats 3200000 in
theorem lost_half (k : Nat) (hk0 : 18 ≤ k) (hk : k < 28) (s : ByteArray) (HS : Hid (∀ j, j < 28 → nameAt j ≠ s)) (w : World) (h : ∀ i, i < 28 → w.cell? ⟨0, i, none⟩ = some (.string (nameAt i))) :
    Calls Tryd.prog 4 #[.int .i64 k, .string s] w fun e w' => e = .returned (.bool true) ∧ Below w.heap.size w w' := by
  have SP := speaks_any w h
  have h0 := World.block_lt_of_cell? w _ (h 0 (by omega))
  have HH : Hid (∀ w', Below w.heap.size w w' → ∀ i, i < 28 → w'.cell? ⟨0, i, none⟩ = some (.string (nameAt i))) := by
    intro w' hb i hi
    exact (hb.cell (p := ⟨0, i, none⟩) h0).trans (h i hi)
  clear h h0
  have NM : Hid (∀ w', Below w.heap.size w w' → Calls Tryd.prog 15 #[.string s] w' fun e w'' => e = .returned (.tuple #[.int .i64 0, .bool false]) ∧ w'' = w') := by
    intro w' hb
    refine (named_any s w' (HH.out w' hb)).mono fun e w'' he => ?_
    obtain ⟨⟨k2, hk2, e1, e2, rfl⟩ | ⟨h1, rfl⟩, rfl⟩ := he
    · exact absurd e1 (HS.out k2 hk2)
    · exact ⟨rfl, rfl⟩
  obtain ⟨x, hx⟩ : ∃ x, x = nameAt k := ⟨_, rfl⟩
  have hxe : x.toList.isEmpty = false := by rw [hx]; exact names_full k (by omega)
  have NA : Hid (∀ w', Below w.heap.size w w' → Calls Tryd.prog 13 #[.int .i64 k] w' fun e w'' => e = .returned (.string x) ∧ w'' = w') := by
    intro w' hb; rw [hx]; exact name_any k w' (by omega) (HH.out w' hb)
  have HC : Hid (∀ (w' : World) (B : Nat), (∀ j, j < 28 → w'.cell? ⟨B, j, none⟩ = some (.string (nameAt j))) → w'.cell? ⟨B, k, none⟩ = some (.string x)) := by
    intro w' B h; rw [hx]; exact h k (by omega)
  clear hx HH
  go_enter Tryd.func4, Tryd.ntmps4
  go_wp2_with (first
      | (go_at_call 9; with_reducible refine SP.mono ?_; rintro e w' ⟨rfl, rfl⟩)
      | (go_at_call 12; refine (ref_names _).mono ?_; rintro e w1 ⟨B, rfl, hB, hb⟩; have hck := HC.out _ _ hB; have HB : Hid (_) := hB; clear hB)
      | (go_at_call 13; with_reducible refine (NA.out _ hb).mono ?_; rintro e w' ⟨rfl, hw⟩; subst hw)
      | (go_at_call 14; with_reducible refine (isHalf_yes _ _ (by omega) (by omega)).mono ?_; rintro e w' ⟨rfl, hw⟩; subst hw)
      | (go_at_call 15; with_reducible refine (NM.out _ hb).mono ?_; rintro e w' ⟨rfl, hw⟩; subst hw))
  go_loop [9, 10] (fun v i => ∃ j : Nat, j ≤ 28 ∧ i = .int .i64 j ∧ v = .int .i64 (-1)) (fun _ i => 28 - (intOf i).toNat)
  case atStart => exact ⟨0, by omega, rfl, rfl⟩
  case round =>
    obtain ⟨j, hj, rfl, rfl⟩ := hrel
    by_cases hlt : j < 28
    · have hcj := HB.out j hlt
      have hys := HS.out j hlt
      obtain ⟨y, hy⟩ : ∃ y, y = nameAt j := ⟨_, rfl⟩
      rw [← hy] at hcj hys
      have hne := str_ne hys
      clear hy hys
      go_wp2
      go_round
      case rel => exact ⟨j + 1, by omega, by go_num, rfl⟩
      case measure => simp [intOf]; omega
    · go_wp2
      go_ret
      exact ⟨by simp, hb⟩

set_option maxRecDepth 100000 in
set_option maxHeartbeats 3200000 in
theorem lost_neg (o : Int) (ho : o < 0) (s : ByteArray) (HS : Hid (∀ j, j < 28 → nameAt j ≠ s)) (w : World) (h : ∀ i, i < 28 → w.cell? ⟨0, i, none⟩ = some (.string (nameAt i))) :
    Calls Tryd.prog 4 #[.int .i64 o, .string s] w fun e w' => e = .returned (.bool true) ∧ Below w.heap.size w w' := by
  have SP := speaks_any w h
  have h0 := World.block_lt_of_cell? w _ (h 0 (by omega))
  have HH : Hid (∀ w', Below w.heap.size w w' → ∀ i, i < 28 → w'.cell? ⟨0, i, none⟩ = some (.string (nameAt i))) := by
    intro w' hb i hi
    exact (hb.cell (p := ⟨0, i, none⟩) h0).trans (h i hi)
  clear h h0
  have NM : Hid (∀ w', Below w.heap.size w w' → Calls Tryd.prog 15 #[.string s] w' fun e w'' => e = .returned (.tuple #[.int .i64 0, .bool false]) ∧ w'' = w') := by
    intro w' hb
    refine (named_any s w' (HH.out w' hb)).mono fun e w'' he => ?_
    obtain ⟨⟨k2, hk2, e1, e2, rfl⟩ | ⟨h1, rfl⟩, rfl⟩ := he
    · exact absurd e1 (HS.out k2 hk2)
    · exact ⟨rfl, rfl⟩
  have NA : Hid (∀ w', Below w.heap.size w w' → Calls Tryd.prog 13 #[.int .i64 o] w' fun e w'' => e = .returned (.string ⟨#[]⟩) ∧ w'' = w') := by
    intro w' hb; exact name_none o w' (by omega)
  clear HH
  go_enter Tryd.func4, Tryd.ntmps4
  go_wp2_with (first
      | (go_at_call 9; with_reducible refine SP.mono ?_; rintro e w' ⟨rfl, rfl⟩)
      | (go_at_call 12; refine (ref_names _).mono ?_; rintro e w1 ⟨B, rfl, hB, hb⟩; have HB : Hid (_) := hB; clear hB)
      | (go_at_call 10; with_reducible refine (do_none _ 7 9 (by omega) (by omega) (by omega) (by omega) _ (by omega)).mono ?_; rintro e w' ⟨rfl, hw⟩; subst hw)
      | (go_at_call 13; with_reducible refine (NA.out _ hb).mono ?_; rintro e w' ⟨rfl, hw⟩; subst hw)
      | (go_at_call 14; with_reducible refine (isHalf_no _ _ (by omega)).mono ?_; rintro e w' ⟨rfl, hw⟩; subst hw)
      | (go_at_call 15; with_reducible refine (NM.out _ hb).mono ?_; rintro e w' ⟨rfl, hw⟩; subst hw))
  go_loop [9, 10] (fun v i => ∃ j : Nat, j ≤ 28 ∧ i = .int .i64 j ∧ v = .int .i64 (-1)) (fun _ i => 28 - (intOf i).toNat)
  case atStart => exact ⟨0, by omega, rfl, rfl⟩
  case round =>
    obtain ⟨j, hj, rfl, rfl⟩ := hrel
    by_cases hlt : j < 28
    · have hcj := HB.out j hlt
      have hys := HS.out j hlt
      obtain ⟨y, hy⟩ : ∃ y, y = nameAt j := ⟨_, rfl⟩
      rw [← hy] at hcj hys
      have hne := str_ne hys
      clear hy hys
      go_wp2
      go_round
      case rel => exact ⟨j + 1, by omega, by go_num, rfl⟩
      case measure => simp [intOf]; omega
    · go_wp2
      go_ret
      exact ⟨by simp, hb⟩

set_option maxRecDepth 100000 in
set_option maxHeartbeats 3200000 in
theorem lost_above (o : Int) (ho : 28 ≤ o) (s : ByteArray) (HS : Hid (∀ j, j < 28 → nameAt j ≠ s)) (w : World) (h : ∀ i, i < 28 → w.cell? ⟨0, i, none⟩ = some (.string (nameAt i))) :
    Calls Tryd.prog 4 #[.int .i64 o, .string s] w fun e w' => e = .returned (.bool true) ∧ Below w.heap.size w w' := by
  have SP := speaks_any w h
  have h0 := World.block_lt_of_cell? w _ (h 0 (by omega))
  have HH : Hid (∀ w', Below w.heap.size w w' → ∀ i, i < 28 → w'.cell? ⟨0, i, none⟩ = some (.string (nameAt i))) := by
    intro w' hb i hi
    exact (hb.cell (p := ⟨0, i, none⟩) h0).trans (h i hi)
  clear h h0
  have NM : Hid (∀ w', Below w.heap.size w w' → Calls Tryd.prog 15 #[.string s] w' fun e w'' => e = .returned (.tuple #[.int .i64 0, .bool false]) ∧ w'' = w') := by
    intro w' hb
    refine (named_any s w' (HH.out w' hb)).mono fun e w'' he => ?_
    obtain ⟨⟨k2, hk2, e1, e2, rfl⟩ | ⟨h1, rfl⟩, rfl⟩ := he
    · exact absurd e1 (HS.out k2 hk2)
    · exact ⟨rfl, rfl⟩
  have NA : Hid (∀ w', Below w.heap.size w w' → Calls Tryd.prog 13 #[.int .i64 o] w' fun e w'' => e = .returned (.string ⟨#[]⟩) ∧ w'' = w') := by
    intro w' hb; exact name_none o w' (by omega)
  clear HH
  go_enter Tryd.func4, Tryd.ntmps4
  go_wp2_with (first
      | (go_at_call 9; with_reducible refine SP.mono ?_; rintro e w' ⟨rfl, rfl⟩)
      | (go_at_call 12; refine (ref_names _).mono ?_; rintro e w1 ⟨B, rfl, hB, hb⟩; have HB : Hid (_) := hB; clear hB)
      | (go_at_call 10; with_reducible refine (do_none _ 7 9 (by omega) (by omega) (by omega) (by omega) _ (by omega)).mono ?_; rintro e w' ⟨rfl, hw⟩; subst hw)
      | (go_at_call 13; with_reducible refine (NA.out _ hb).mono ?_; rintro e w' ⟨rfl, hw⟩; subst hw)
      | (go_at_call 14; with_reducible refine (isHalf_no _ _ (by omega)).mono ?_; rintro e w' ⟨rfl, hw⟩; subst hw)
      | (go_at_call 15; with_reducible refine (NM.out _ hb).mono ?_; rintro e w' ⟨rfl, hw⟩; subst hw))
  go_loop [9, 10] (fun v i => ∃ j : Nat, j ≤ 28 ∧ i = .int .i64 j ∧ v = .int .i64 (-1)) (fun _ i => 28 - (intOf i).toNat)
  case atStart => exact ⟨0, by omega, rfl, rfl⟩
  case round =>
    obtain ⟨j, hj, rfl, rfl⟩ := hrel
    by_cases hlt : j < 28
    · have hcj := HB.out j hlt
      have hys := HS.out j hlt
      obtain ⟨y, hy⟩ : ∃ y, y = nameAt j := ⟨_, rfl⟩
      rw [← hy] at hcj hys
      have hne := str_ne hys
      clear hy hys
      go_wp2
      go_round
      case rel => exact ⟨j + 1, by omega, by go_num, rfl⟩
      case measure => simp [intOf]; omega
    · go_wp2
      go_ret
      exact ⟨by simp, hb⟩


theorem names_any (o : Int) (s : ByteArray) (w : World) (h : ∀ i, i < 28 → w.cell? ⟨0, i, none⟩ = some (.string (nameAt i))) :
    Calls Tryd.prog 4 #[.int .i64 o, .string s] w fun e w' => e = .returned (.bool true) ∧ Below w.heap.size w w' := by
  have hcase : (∃ k : Nat, k < 18 ∧ o = k) ∨ (∃ k : Nat, 18 ≤ k ∧ k < 28 ∧ o = k) ∨ o < 0 ∨ 28 ≤ o := by
    by_cases h1 : 0 ≤ o
    · obtain ⟨k, rfl⟩ := Int.eq_ofNat_of_zero_le h1
      by_cases h2 : k < 18
      · exact .inl ⟨k, h2, rfl⟩
      · by_cases h3 : k < 28
        · exact .inr (.inl ⟨k, by omega, h3, rfl⟩)
        · exact .inr (.inr (.inr (by omega)))
    · exact .inr (.inr (.inl (by omega)))
  by_cases hs : ∃ kk, kk < 28 ∧ nameAt kk = s
  · obtain ⟨kk, hkk, hs⟩ := hs
    rcases hcase with ⟨k, hk, rfl⟩ | ⟨k, hk0, hk, rfl⟩ | ho | ho
    · exact found_low k hk s kk hkk hs w h
    · exact found_half k hk0 hk s kk hkk hs w h
    · exact found_neg o ho s kk hkk hs w h
    · exact found_above o ho s kk hkk hs w h
  · have hn : ∀ j, j < 28 → nameAt j ≠ s := fun j hj e => hs ⟨j, hj, e⟩
    rcases hcase with ⟨k, hk, rfl⟩ | ⟨k, hk0, hk, rfl⟩ | ho | ho
    · exact lost_low k hk s hn w h
    · exact lost_half k hk0 hk s hn w h
    · exact lost_neg o ho s hn w h
    · exact lost_above o ho s hn w h
end Go.Proofs.YtmfmakkiefgogaaDoor
