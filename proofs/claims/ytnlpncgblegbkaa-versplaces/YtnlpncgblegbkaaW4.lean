/-
  Layer 12: Defs of definitions one behind the other.
-/
import Derived.Test.YtnlpncgblegbkaaW2
namespace Go.Proofs.Ytnlpncgblegbkaa
open Go.RowKit
set_option linter.unusedVariables false

theorem cellsD_at (b names : ByteArray) : ∀ (l : List Pt) (i : Nat) (hi : i < l.length) (j : Nat) (hj : j < 2), (cellsD b names l)[i * 2 + j]? = (defC b names l[i])[j]?
  | [], i, hi, _, _ => absurd hi (by simp)
  | x :: l, 0, _, j, hj => by
    show (defC b names x ++ cellsD b names l)[0 * 2 + j]? = _
    rw [List.getElem?_append_left (by simp [defC]; omega), show 0 * 2 + j = j by omega]
    rfl
  | x :: l, i + 1, hi, j, hj => by
    show (defC b names x ++ cellsD b names l)[(i + 1) * 2 + j]? = _
    rw [List.getElem?_append_right (by simp [defC]; omega)]
    rw [show (i + 1) * 2 + j - (defC b names x).length = i * 2 + j by simp [defC]; omega]
    exact cellsD_at b names l i (by simpa using hi) j hj

abbrev P4 : Nat → Nat := fun j => 2 * (j % 4)
/-- What is read of the row of definitions. -/
def DefRow (W : World) (g n : Nat) (z : Nat → Nat) : Prop := ∀ i, i < n → W.cell? ⟨g, i * 2, none⟩ = some (.int .i64 (((z i % 65536 : Nat) : Int) % 32768)) ∧ W.cell? ⟨g, i * 2 + 1, none⟩ = some (.string (let4 i))

theorem ents_range (z : Nat → Nat) (K n : Nat) (hb : (PB z P4 K).size ≤ 140737488351232) (h : n ≤ K) : ents (PB z P4 K) hb n = (List.range' 0 n).map fun i => (28 * i, (PB z P4 K).extract (28 * i) (28 * i + 20)) :=
  PB_ents z K hb n 0 0 (by omega) rfl (by omega)
theorem ents_all (z : Nat → Nat) (K n : Nat) (hb : (PB z P4 K).size ≤ 140737488351232) (h : n ≤ K) : ∀ x ∈ ents (PB z P4 K) hb n, (defF (PB z P4 K) nm8 x.2 x.1).2 = 0 := by
  intro x hx
  rw [ents_range z K n hb h] at hx
  obtain ⟨i, hi, rfl⟩ := List.mem_map.1 hx
  have hi' : i < K := by have := List.mem_range'_1.1 hi; omega
  show (defF (PB z P4 K) nm8 ((PB z P4 K).extract (28 * i) (28 * i + 20)) (28 * i)).2 = 0
  rw [PB_def z K i hi']

theorem defs_ok (z : Nat → Nat) (K n : Nat) (w : World) (hK : K ≤ 20) (hn : n ≤ K) :
    Calls Try.prog 11 #[.string (PB z P4 K), .string nm8, .int .i64 (n : Int)] w fun e w' => (∃ v, e = .returned (.tuple #[v, flt 0 0]) ∧ ((∃ a c, v = .slice a 0 c ∧ n = 0) ∨ ∃ g cap, v = .slice (some ⟨g, 0, none⟩) n cap ∧ 0 < n ∧ n ≤ cap ∧ cap ≤ 9223372036854775807 ∧ Hid (DefRow w' g n z))) ∧ Below w.heap.size w w' := by
  have hz := PB_size z P4 K
  have hb : (PB z P4 K).size ≤ 140737488351232 := by omega
  refine (defs_any (PB z P4 K) nm8 n w hb (by decide) (by omega)).mono ?_
  rintro e w' ⟨h, hB⟩
  have ha := ents_all z K n hb hn
  have hl : (ents (PB z P4 K) hb n).length = n := by rw [ents_range z K n hb hn]; simp
  rcases h with ⟨v, rfl, hr, _⟩ | ⟨q, x, hp, _, hx, _⟩
  · refine ⟨⟨v, rfl, ?_⟩, hB⟩
    rw [hl] at hr
    rcases hr.2 with ⟨rfl, h1⟩ | ⟨g, cap, cur, rfl, _, hg, h2, h3, _⟩
    · exact .inl ⟨none, 0, rfl, by omega⟩
    · by_cases h0 : n = 0
      · subst h0; exact .inl ⟨_, _, rfl, rfl⟩
      · refine .inr ⟨g, cap, rfl, by omega, h2, by unfold maxLen at h3; omega, fun i hi => ?_⟩
        have k : ∀ j, j < 2 → w'.cell? ⟨g, i * 2 + j, none⟩ = (defC (PB z P4 K) nm8 (28 * i, (PB z P4 K).extract (28 * i) (28 * i + 20)))[j]? := by
          intro j hj
          rw [hr.cellAt (i * 2 + j) (by omega), cellsD_at _ _ _ i (by omega) j hj]
          congr 2
          have e : (ents (PB z P4 K) hb n)[i]? = some (28 * i, (PB z P4 K).extract (28 * i) (28 * i + 20)) := by
            rw [ents_range z K n hb hn, List.getElem?_map, List.getElem?_range' (by omega)]
            simp
          rw [List.getElem?_eq_getElem (by omega)] at e
          exact Option.some.inj e
        have k0 := k 0 (by omega)
        have k1 := k 1 (by omega)
        unfold defC at k0 k1
        rw [PB_def z K i (by omega)] at k0 k1
        exact ⟨k0, k1⟩
  · exact absurd (ha x (hp.subset (by simp))) hx

theorem defs_more (z : Nat → Nat) (K : Nat) (w : World) (hK : K ≤ 20) :
    Calls Try.prog 11 #[.string (PB z P4 K), .string nm8, .int .i64 ((K + 1 : Nat) : Int)] w fun e w' => e = .returned (.tuple #[.slice none 0 0, flt 2 (28 * (K : Int))]) ∧ Below w.heap.size w w' := by
  have hz := PB_size z P4 K
  have hb : (PB z P4 K).size ≤ 140737488351232 := by omega
  refine (defs_any (PB z P4 K) nm8 (K + 1) w hb (by decide) (by omega)).mono ?_
  rintro e w' ⟨h, hB⟩
  have hl : ents (PB z P4 K) hb (K + 1) = ents (PB z P4 K) hb K ++ [(28 * K, ⟨#[]⟩)] := by
    rw [ents_range z K K hb (by omega)]
    exact PB_ents_more z K hb K 0 0 (by omega) rfl (by omega)
  have ha := ents_all z K K hb (by omega)
  have hlast : (defF (PB z P4 K) nm8 ⟨#[]⟩ (28 * K)).2 = 2 := by unfold defF; rw [if_pos (show (⟨#[]⟩ : ByteArray).size = 0 from rfl)]
  rcases h with ⟨v, rfl, _, hall⟩ | ⟨q, x, hp, hq, hx, he⟩
  · have := hall (28 * K, ⟨#[]⟩) (by rw [hl]; simp)
    rw [hlast] at this
    omega
  · have hxe : x = (28 * K, ⟨#[]⟩) := by
      have hm := hp.subset (show x ∈ q ++ [x] by simp)
      rw [hl, List.mem_append] at hm
      rcases hm with hm | hm
      · exact absurd (ha x hm) hx
      · simpa using hm
    subst hxe
    refine ⟨?_, hB⟩
    rw [he]
    show Ending.returned (.tuple #[.slice none 0 0, flt (defF (PB z P4 K) nm8 ⟨#[]⟩ (28 * K)).2 ((28 * K : Nat) : Int)]) = _
    rw [hlast]
    push_cast
    rfl

theorem n_of (count : Int) (k : Nat) (hk : k ≤ 20) : ∃ n : Nat, (wrap64 (wrap64 (count.tmod ((k : Int) + 2) + (k : Int)) + 2)).tmod ((k : Int) + 2) = (n : Int) ∧ n ≤ k + 1 := by
  have h1 := Int.tmod_lt_of_pos count (show (0 : Int) < (k : Int) + 2 by omega)
  have h2 : -((k : Int) + 2) < count.tmod ((k : Int) + 2) := by
    have := Int.tmod_lt_of_pos (-count) (show (0 : Int) < (k : Int) + 2 by omega)
    rw [Int.neg_tmod] at this
    omega
  generalize count.tmod ((k : Int) + 2) = r at *
  have e : wrap64 (wrap64 (r + (k : Int)) + 2) = r + k + 2 := by unfold wrap64; omega
  rw [e, Int.tmod_eq_emod_of_nonneg (by omega)]
  have h3 := Int.emod_nonneg (r + k + 2) (show ((k : Int) + 2) ≠ 0 by omega)
  have h4 := Int.emod_lt_of_pos (r + k + 2) (show (0 : Int) < (k : Int) + 2 by omega)
  exact ⟨((r + k + 2) % ((k : Int) + 2)).toNat, by omega, by omega⟩
end Go.Proofs.Ytnlpncgblegbkaa
