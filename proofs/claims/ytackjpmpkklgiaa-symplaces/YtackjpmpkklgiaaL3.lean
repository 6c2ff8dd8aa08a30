/-
  Symbols one behind the other: what is read of them. No condition.
-/
import Derived.Test.YtackjpmpkklgiaaL1
import Derived.Test.YtackjpmpkklgiaaQ1
namespace Go.Proofs.Ytackjpmpkklgiaa
open Go.RowKit
set_option linter.unusedVariables false

theorem Cs_len (f : Nat → E6) : ∀ n, (Cs f n).length = n * 7
  | 0 => rfl
  | n + 1 => by
    show (Cs f n ++ (f n).sy.cells).length = _
    rw [List.length_append, Cs_len f n]
    simp [Sy.cells]
    omega
theorem Cs_at (f : Nat → E6) : ∀ (n i : Nat) (hi : i < n) (j : Nat) (hj : j < 7), (Cs f n)[i * 7 + j]? = (f i).sy.cells[j]?
  | 0, i, hi, _, _ => absurd hi (by omega)
  | n + 1, i, hi, j, hj => by
    show (Cs f n ++ (f n).sy.cells)[i * 7 + j]? = _
    by_cases h : i = n
    · subst h
      rw [List.getElem?_append_right (by rw [Cs_len]; omega), Cs_len]
      rw [show i * 7 + j - i * 7 = j by omega]
    · rw [List.getElem?_append_left (by rw [Cs_len]; omega)]
      exact Cs_at f n i (by omega) j hj
theorem syO_row {W : World} {base n : Nat} {v : Value} {f : Nat → E6} (h : W.ownsRow base 35 7 v n (Cs f n)) (hn : 0 < n) : ∃ g cap, v = .slice (some ⟨g, 0, none⟩) n cap ∧ n ≤ cap ∧ cap ≤ 9223372036854775807 ∧ ∀ i, i < n → SyO W g (i * 7) (f i).sy := by
  rcases h.2 with ⟨rfl, h1⟩ | ⟨g, cap, cur, rfl, hb, hg, h2, h3, _⟩
  · omega
  · refine ⟨g, cap, rfl, h2, by unfold maxLen at h3; omega, fun i hi => ?_⟩
    have k : ∀ j, j < 7 → W.cell? ⟨g, i * 7 + j, none⟩ = (f i).sy.cells[j]? := fun j hj => (h.cellAt (i * 7 + j) (by omega)).trans (Cs_at f n i hi j hj)
    exact ⟨k 0 (by omega), k 1 (by omega), k 2 (by omega), k 3 (by omega), k 4 (by omega), k 5 (by omega), k 6 (by omega)⟩

theorem reads_back (f : Nat → E6) (n : Nat) (w : World) (h0 : 0 < n) (hn : n ≤ 30) (hf : ∀ j, j < n → (f j).ok) :
    Calls Try.prog 10 #[.string (Bs f n), .string ⟨#[120, 0]⟩] w fun e w' => ∃ g cap, e = .returned (.tuple #[.slice (some ⟨g, 0, none⟩) n cap, flt 0 0]) ∧ (n ≤ cap ∧ cap ≤ 9223372036854775807) ∧ Hid (∀ i, i < n → SyO w' g (i * 7) (f i).sy) ∧ Below w.heap.size w w' := by
  have hs := each_ok f (Bs f n) n hf (fun j hj => Bs_at f n j hj)
  have hc := each_cells f (Bs f n) n hf (fun j hj => Bs_at f n j hj)
  refine (read_ok (Bs f n) ⟨#[120, 0]⟩ n w (by decide) (Bs_size f n) (by omega) hs).mono ?_
  rintro e w' ⟨v, rfl, hr, hb⟩
  rw [hc] at hr
  obtain ⟨g, cap, rfl, h1, h2, h3⟩ := syO_row hr h0
  exact ⟨g, cap, rfl, ⟨h1, h2⟩, h3, hb⟩

theorem reads_wrong (f : Nat → E6) (n k o : Nat) (w : World) (hn : n ≤ 30) (hk : k < n) (ho : 24 * k = o) (hf : ∀ j, j < n → (f j).ok) :
    Calls Try.prog 10 #[.string (((Bs f n).extract 0 o ++ ⟨#[9]⟩) ++ (Bs f n).extract (o + 1) (Bs f n).size), .string ⟨#[120, 0]⟩] w fun e w' => e = .returned (.tuple #[.slice none 0 0, flt 25 (o : Int)]) ∧ Below w.heap.size w w' := by
  subst ho
  rw [Bs_size]
  refine (read_bad (wrongB f n k) ⟨#[120, 0]⟩ n k 25 w (by decide) (wrong_size f n k hk) (by omega) hk (each_ok f _ k (fun j hj => hf j (by omega)) (fun j hj => wrong_at f n k hk j hj)) (wrong_sym f n k hk) (by omega)).mono ?_
  rintro e w' ⟨rfl, hb⟩
  exact ⟨by rw [show ((24 * k : Nat) : Int) = (k : Int) * 24 by omega], hb⟩

theorem n_of (count : Int) (k : Nat) (hk0 : 0 < k) (hk : k ≤ 30) : ∃ n : Nat, (wrap64 (count.tmod (k : Int) + (k : Int))).tmod (k : Int) = (n : Int) ∧ n < k := by
  have h1 := Int.tmod_lt_of_pos count (show (0 : Int) < (k : Int) by omega)
  have h2 : -(k : Int) < count.tmod (k : Int) := by
    have := Int.tmod_lt_of_pos (-count) (show (0 : Int) < (k : Int) by omega)
    rw [Int.neg_tmod] at this
    omega
  generalize count.tmod (k : Int) = r at *
  have e : wrap64 (r + (k : Int)) = r + k := by unfold wrap64; omega
  rw [e, Int.tmod_eq_emod_of_nonneg (by omega)]
  have h3 := Int.emod_nonneg (r + k) (show (k : Int) ≠ 0 by omega)
  have h4 := Int.emod_lt_of_pos (r + k) (show (0 : Int) < (k : Int) by omega)
  exact ⟨((r + k) % (k : Int)).toNat, by omega, by omega⟩
end Go.Proofs.Ytackjpmpkklgiaa
