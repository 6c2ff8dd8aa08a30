/-
  Layer 6: the document's May of any instruction: true just where it goes into a word. No condition.
-/
import Derived.Test.YtmfmakkiefgogabDoorM7
import Derived.Test.YtmfmakkiefgogabDoorMay1
import Derived.Test.YtmfmakkiefgogabDoorMay2
import Derived.Test.YtmfmakkiefgogabDoorMay3
import Derived.Test.YtmfmakkiefgogabDoorMay4
namespace Go.Proofs.YtmfmakkiefgogabDoor
open Go.RowKit
set_option linter.unusedVariables false

theorem tmod0 (a m : Int) : a.tmod m = 0 ↔ a % m = 0 := by
  rw [← Int.dvd_iff_tmod_eq_zero, ← Int.dvd_iff_emod_eq_zero]

/-- What May answers, of an instruction whose numbers go into fields: the conditions of its form, one behind the other. -/
theorem may_form (k : Nat) (hk : k < 64) (a1 a2 a3 a4 : Int) (p2 : 0 ≤ a1) (p3 : a1 ≤ 31) (p4 : 0 ≤ a2) (p5 : a2 ≤ 31) (p6 : 0 ≤ a3) (p7 : a3 ≤ 31) (w : World) :
    (mayF (formAt k) ⟨k, a1, a2, a3, a4⟩ → Calls Tryd.prog 9 #[.agg #[.int .i64 (k : Int), .int .i64 a1, .int .i64 a2, .int .i64 a3, .int .i64 a4]] w fun e w' => e = .returned (.bool true) ∧ Below w.heap.size w w') ∧
    (¬ mayF (formAt k) ⟨k, a1, a2, a3, a4⟩ → Calls Tryd.prog 9 #[.agg #[.int .i64 (k : Int), .int .i64 a1, .int .i64 a2, .int .i64 a3, .int .i64 a4]] w fun e w' => e = .returned (.bool false) ∧ Below w.heap.size w w') := by
  have hB : (0 ≤ a1 ∧ a1 ≤ 31 ∧ 0 ≤ a2 ∧ a2 ≤ 31 ∧ 0 ≤ a3 ∧ a3 ≤ 31) := ⟨p2, p3, p4, p5, p6, p7⟩
  rcases letters9 k hk with hc | hc | hc | hc | hc | hc | hc | hc | hc
  · rw [show mayF (formAt k) ⟨k, a1, a2, a3, a4⟩ ↔ (a2 = 0 ∧ a3 = 0 ∧ -2147483648 ≤ a4 ∧ a4 < 2147483648 ∧ a4 % 4096 = 0) from by rw [hc]; exact ⟨fun h => h.2, fun h => ⟨hB, h⟩⟩, ← tmod0]
    by_cases c0 : a2 = 0
    · subst c0
      by_cases c1 : a3 = 0
      · subst c1
        by_cases c2 : -2147483648 ≤ a4
        · by_cases c3 : a4 < 2147483648
          · by_cases c4 : a4.tmod 4096 = 0
            · exact ⟨fun _ => may85_5 k hk hc a1 a4 p2 p3 c2 c3 c4 w, fun h => absurd ⟨rfl, rfl, c2, c3, c4⟩ h⟩
            · exact ⟨fun h => absurd h.2.2.2.2 c4, fun _ => may85_4 k hk hc a1 a4 p2 p3 c2 c3 c4 w⟩
          · exact ⟨fun h => absurd h.2.2.2.1 c3, fun _ => may85_3 k hk hc a1 a4 p2 p3 c2 (by omega) w⟩
        · exact ⟨fun h => absurd h.2.2.1 c2, fun _ => may85_2 k hk hc a1 a4 p2 p3 (by omega) w⟩
      · exact ⟨fun h => absurd h.2.1 c1, fun _ => may85_1 k hk hc a1 a3 a4 p2 p3 p6 p7 c1 w⟩
    · exact ⟨fun h => absurd h.1 c0, fun _ => may85_0 k hk hc a1 a2 a3 a4 p2 p3 p4 p5 p6 p7 c0 w⟩
  · rw [show mayF (formAt k) ⟨k, a1, a2, a3, a4⟩ ↔ (a2 = 0 ∧ a3 = 0 ∧ -1048576 ≤ a4 ∧ a4 < 1048576 ∧ a4 % 2 = 0) from by rw [hc]; exact ⟨fun h => h.2, fun h => ⟨hB, h⟩⟩, ← tmod0]
    by_cases c0 : a2 = 0
    · subst c0
      by_cases c1 : a3 = 0
      · subst c1
        by_cases c2 : -1048576 ≤ a4
        · by_cases c3 : a4 < 1048576
          · by_cases c4 : a4.tmod 2 = 0
            · exact ⟨fun _ => may74_5 k hk hc a1 a4 p2 p3 c2 c3 c4 w, fun h => absurd ⟨rfl, rfl, c2, c3, c4⟩ h⟩
            · exact ⟨fun h => absurd h.2.2.2.2 c4, fun _ => may74_4 k hk hc a1 a4 p2 p3 c2 c3 c4 w⟩
          · exact ⟨fun h => absurd h.2.2.2.1 c3, fun _ => may74_3 k hk hc a1 a4 p2 p3 c2 (by omega) w⟩
        · exact ⟨fun h => absurd h.2.2.1 c2, fun _ => may74_2 k hk hc a1 a4 p2 p3 (by omega) w⟩
      · exact ⟨fun h => absurd h.2.1 c1, fun _ => may74_1 k hk hc a1 a3 a4 p2 p3 p6 p7 c1 w⟩
    · exact ⟨fun h => absurd h.1 c0, fun _ => may74_0 k hk hc a1 a2 a3 a4 p2 p3 p4 p5 p6 p7 c0 w⟩
  · rw [show mayF (formAt k) ⟨k, a1, a2, a3, a4⟩ ↔ (a3 = 0 ∧ -2048 ≤ a4 ∧ a4 < 2048) from by rw [hc]; exact ⟨fun h => h.2, fun h => ⟨hB, h⟩⟩]
    by_cases c0 : a3 = 0
    · subst c0
      by_cases c1 : -2048 ≤ a4
      · by_cases c2 : a4 < 2048
        · exact ⟨fun _ => may73_3 k hk hc a1 a2 a4 p2 p3 p4 p5 c1 c2 w, fun h => absurd ⟨rfl, c1, c2⟩ h⟩
        · exact ⟨fun h => absurd h.2.2 c2, fun _ => may73_2 k hk hc a1 a2 a4 p2 p3 p4 p5 c1 (by omega) w⟩
      · exact ⟨fun h => absurd h.2.1 c1, fun _ => may73_1 k hk hc a1 a2 a4 p2 p3 p4 p5 (by omega) w⟩
    · exact ⟨fun h => absurd h.1 c0, fun _ => may73_0 k hk hc a1 a2 a3 a4 p2 p3 p4 p5 p6 p7 c0 w⟩
  · rw [show mayF (formAt k) ⟨k, a1, a2, a3, a4⟩ ↔ (a1 = 0 ∧ -4096 ≤ a4 ∧ a4 < 4096 ∧ a4 % 2 = 0) from by rw [hc]; exact ⟨fun h => h.2, fun h => ⟨hB, h⟩⟩, ← tmod0]
    by_cases c0 : a1 = 0
    · subst c0
      by_cases c1 : -4096 ≤ a4
      · by_cases c2 : a4 < 4096
        · by_cases c3 : a4.tmod 2 = 0
          · exact ⟨fun _ => may66_4 k hk hc a2 a3 a4 p4 p5 p6 p7 c1 c2 c3 w, fun h => absurd ⟨rfl, c1, c2, c3⟩ h⟩
          · exact ⟨fun h => absurd h.2.2.2 c3, fun _ => may66_3 k hk hc a2 a3 a4 p4 p5 p6 p7 c1 c2 c3 w⟩
        · exact ⟨fun h => absurd h.2.2.1 c2, fun _ => may66_2 k hk hc a2 a3 a4 p4 p5 p6 p7 c1 (by omega) w⟩
      · exact ⟨fun h => absurd h.2.1 c1, fun _ => may66_1 k hk hc a2 a3 a4 p4 p5 p6 p7 (by omega) w⟩
    · exact ⟨fun h => absurd h.1 c0, fun _ => may66_0 k hk hc a1 a2 a3 a4 p2 p3 p4 p5 p6 p7 c0 w⟩
  · rw [show mayF (formAt k) ⟨k, a1, a2, a3, a4⟩ ↔ (a1 = 0 ∧ -2048 ≤ a4 ∧ a4 < 2048) from by rw [hc]; exact ⟨fun h => h.2, fun h => ⟨hB, h⟩⟩]
    by_cases c0 : a1 = 0
    · subst c0
      by_cases c1 : -2048 ≤ a4
      · by_cases c2 : a4 < 2048
        · exact ⟨fun _ => may83_3 k hk hc a2 a3 a4 p4 p5 p6 p7 c1 c2 w, fun h => absurd ⟨rfl, c1, c2⟩ h⟩
        · exact ⟨fun h => absurd h.2.2 c2, fun _ => may83_2 k hk hc a2 a3 a4 p4 p5 p6 p7 c1 (by omega) w⟩
      · exact ⟨fun h => absurd h.2.1 c1, fun _ => may83_1 k hk hc a2 a3 a4 p4 p5 p6 p7 (by omega) w⟩
    · exact ⟨fun h => absurd h.1 c0, fun _ => may83_0 k hk hc a1 a2 a3 a4 p2 p3 p4 p5 p6 p7 c0 w⟩
  · rw [show mayF (formAt k) ⟨k, a1, a2, a3, a4⟩ ↔ (a3 = 0 ∧ 0 ≤ a4 ∧ a4 < 64) from by rw [hc]; exact ⟨fun h => h.2, fun h => ⟨hB, h⟩⟩]
    by_cases c0 : a3 = 0
    · subst c0
      by_cases c1 : 0 ≤ a4
      · by_cases c2 : a4 < 64
        · exact ⟨fun _ => may72_3 k hk hc a1 a2 a4 p2 p3 p4 p5 c1 c2 w, fun h => absurd ⟨rfl, c1, c2⟩ h⟩
        · exact ⟨fun h => absurd h.2.2 c2, fun _ => may72_2 k hk hc a1 a2 a4 p2 p3 p4 p5 c1 (by omega) w⟩
      · exact ⟨fun h => absurd h.2.1 c1, fun _ => may72_1 k hk hc a1 a2 a4 p2 p3 p4 p5 (by omega) w⟩
    · exact ⟨fun h => absurd h.1 c0, fun _ => may72_0 k hk hc a1 a2 a3 a4 p2 p3 p4 p5 p6 p7 c0 w⟩
  · rw [show mayF (formAt k) ⟨k, a1, a2, a3, a4⟩ ↔ (a3 = 0 ∧ 0 ≤ a4 ∧ a4 < 32) from by rw [hc]; exact ⟨fun h => h.2, fun h => ⟨hB, h⟩⟩]
    by_cases c0 : a3 = 0
    · subst c0
      by_cases c1 : 0 ≤ a4
      · by_cases c2 : a4 < 32
        · exact ⟨fun _ => may75_3 k hk hc a1 a2 a4 p2 p3 p4 p5 c1 c2 w, fun h => absurd ⟨rfl, c1, c2⟩ h⟩
        · exact ⟨fun h => absurd h.2.2 c2, fun _ => may75_2 k hk hc a1 a2 a4 p2 p3 p4 p5 c1 (by omega) w⟩
      · exact ⟨fun h => absurd h.2.1 c1, fun _ => may75_1 k hk hc a1 a2 a4 p2 p3 p4 p5 (by omega) w⟩
    · exact ⟨fun h => absurd h.1 c0, fun _ => may75_0 k hk hc a1 a2 a3 a4 p2 p3 p4 p5 p6 p7 c0 w⟩
  · rw [show mayF (formAt k) ⟨k, a1, a2, a3, a4⟩ ↔ a4 = 0 from by rw [hc]; exact ⟨fun h => h.2, fun h => ⟨hB, h⟩⟩]
    by_cases c0 : a4 = 0
    · subst c0
      exact ⟨fun _ => may82_1 k hk hc a1 a2 a3 p2 p3 p4 p5 p6 p7 w, fun h => absurd rfl h⟩
    · exact ⟨fun h => absurd h c0, fun _ => may82_0 k hk hc a1 a2 a3 a4 p2 p3 p4 p5 p6 p7 c0 w⟩
  · rw [show mayF (formAt k) ⟨k, a1, a2, a3, a4⟩ ↔ (a1 = 0 ∧ a2 = 0 ∧ a3 = 0 ∧ a4 = 0) from by rw [hc]; exact ⟨fun h => h.2, fun h => ⟨hB, h⟩⟩]
    by_cases c0 : a1 = 0
    · subst c0
      by_cases c1 : a2 = 0
      · subst c1
        by_cases c2 : a3 = 0
        · subst c2
          by_cases c3 : a4 = 0
          · subst c3
            exact ⟨fun _ => may78_4 k hk hc w, fun h => absurd ⟨rfl, rfl, rfl, rfl⟩ h⟩
          · exact ⟨fun h => absurd h.2.2.2 c3, fun _ => may78_3 k hk hc a4 c3 w⟩
        · exact ⟨fun h => absurd h.2.2.1 c2, fun _ => may78_2 k hk hc a3 a4 p6 p7 c2 w⟩
      · exact ⟨fun h => absurd h.2.1 c1, fun _ => may78_1 k hk hc a2 a3 a4 p4 p5 p6 p7 c1 w⟩
    · exact ⟨fun h => absurd h.1 c0, fun _ => may78_0 k hk hc a1 a2 a3 a4 p2 p3 p4 p5 p6 p7 c0 w⟩

theorem may_any (i : In) (w : World) :
    Calls Tryd.prog 9 #[i.agg] w fun e w' => e = .returned (.bool (encF i).isSome) ∧ Below w.heap.size w w' := by
  have hm := enc_may i
  obtain ⟨a0, a1, a2, a3, a4⟩ := i
  show Calls Tryd.prog 9 #[.agg #[.int .i64 a0, .int .i64 a1, .int .i64 a2, .int .i64 a3, .int .i64 a4]] w _
  have no : ∀ {P : Prop}, (¬ ∃ k : Nat, k < 64 ∧ a0 = k ∧ mayF (formAt k) ⟨a0, a1, a2, a3, a4⟩) → (encF ⟨a0, a1, a2, a3, a4⟩).isSome = false := by
    intro _ h
    cases hb : (encF ⟨a0, a1, a2, a3, a4⟩).isSome with
    | false => rfl
    | true => exact absurd (hm.1 hb) h
  by_cases h0 : 0 ≤ a0
  · by_cases h1 : a0 < 64
    · obtain ⟨k, rfl⟩ := Int.eq_ofNat_of_zero_le h0
      by_cases h2 : 0 ≤ a1
      · by_cases h3 : a1 ≤ 31
        · by_cases h4 : 0 ≤ a2
          · by_cases h5 : a2 ≤ 31
            · by_cases h6 : 0 ≤ a3
              · by_cases h7 : a3 ≤ 31
                · by_cases hf : mayF (formAt k) ⟨k, a1, a2, a3, a4⟩
                  · rw [hm.2 ⟨k, by omega, rfl, hf⟩]
                    exact (may_form k (by omega) a1 a2 a3 a4 h2 h3 h4 h5 h6 h7 w).1 hf
                  · rw [no (P := True) (by rintro ⟨k', hk', he, h⟩; obtain rfl : k = k' := by omega
                                           exact hf h)]
                    exact (may_form k (by omega) a1 a2 a3 a4 h2 h3 h4 h5 h6 h7 w).2 hf
                · rw [no (P := True) (by rintro ⟨_, _, _, ⟨⟨_, _, _, _, _, h⟩, _⟩⟩; exact h7 h)]
                  exact may_no7 _ a1 a2 a3 a4 h0 h1 h2 h3 h4 h5 h6 (by omega) w
              · rw [no (P := True) (by rintro ⟨_, _, _, ⟨⟨_, _, _, _, h, _⟩, _⟩⟩; exact h6 h)]
                exact may_no6 _ a1 a2 a3 a4 h0 h1 h2 h3 h4 h5 (by omega) w
            · rw [no (P := True) (by rintro ⟨_, _, _, ⟨⟨_, _, _, h, _⟩, _⟩⟩; exact h5 h)]
              exact may_no5 _ a1 a2 a3 a4 h0 h1 h2 h3 h4 (by omega) w
          · rw [no (P := True) (by rintro ⟨_, _, _, ⟨⟨_, _, h, _⟩, _⟩⟩; exact h4 h)]
            exact may_no4 _ a1 a2 a3 a4 h0 h1 h2 h3 (by omega) w
        · rw [no (P := True) (by rintro ⟨_, _, _, ⟨⟨_, h, _⟩, _⟩⟩; exact h3 h)]
          exact may_no3 _ a1 a2 a3 a4 h0 h1 h2 (by omega) w
      · rw [no (P := True) (by rintro ⟨_, _, _, ⟨⟨h, _⟩, _⟩⟩; exact h2 h)]
        exact may_no2 _ a1 a2 a3 a4 h0 h1 (by omega) w
    · rw [no (P := True) (by rintro ⟨k, hk, he, _⟩; omega)]
      exact may_no1 a0 a1 a2 a3 a4 h0 (by omega) w
  · rw [no (P := True) (by rintro ⟨k, hk, he, _⟩; omega)]
    exact may_no0 a0 a1 a2 a3 a4 (by omega) w
end Go.Proofs.YtmfmakkiefgogabDoor
