/-
  Layer 11: Put and Read as the statements use them; what each statement asks first.
-/
import Derived.Test.YtackjpmpkklgiaaS4
namespace Go.Proofs.Ytackjpmpkklgiaa
open Go.RowKit
set_option linter.unusedVariables false

theorem put_any (nm : ByteArray) (b k v x z n : Nat) (d : Bool) (w : World) (hb : b ≤ 2) (hk : k ≤ 15) (hv : v ≤ 3) (hx : x < 18446744073709551616) (hz : z < 18446744073709551616) (hn : n < 4294967296) :
    Calls Try.prog 15 #[(⟨nm, (b : Int), (k : Int), (v : Int), d, (x : Int), (z : Int)⟩ : Sy).val, .int .u32 (n : Int)] w fun e w' => e = .returned (.string (symB b k v d x z n)) ∧ Below w.heap.size w w' := by
  have P2 : ∀ W, Calls Try.prog 30 #[.int .u64 ((b : Int) * 16 + (k : Int)), .int .i64 1] W fun e w' => e = .returned (.string ⟨(enc (b * 16 + k) 1).toArray⟩) ∧ Below W.heap.size W w' := by
    intro W
    have h := put_yes (b * 16 + k) 1 W (by omega) (by omega)
    have e : (((b * 16 + k : Nat)) : Int) = (b : Int) * 16 + (k : Int) := by omega
    rw [e] at h
    exact h
  have P4 : ∀ W, Calls Try.prog 30 #[.int .u64 (if d then 1 else 0), .int .i64 2] W fun e w' => e = .returned (.string ⟨(enc (if d then 1 else 0) 2).toArray⟩) ∧ Below W.heap.size W w' := by
    intro W
    cases d
    · exact put_yes 0 2 W (by omega) (by omega)
    · exact put_yes 1 2 W (by omega) (by omega)
  exact put_d nm _ _ _ _ _ _ b k v x z n _ d w hb hk hv hx hz hn rfl (fun W => put_yes n 4 W (by omega) (by omega)) P2 (fun W => put_yes v 1 W (by omega) (by omega)) P4 (fun W => put_yes x 8 W (by omega) (by omega)) (fun W => put_yes z 8 W (by omega) (by omega)) (encA_size _ _) (encA_size _ _) (encA_size _ _) (encA_size _ _) (encA_size _ _) (encA_size _ _)

theorem symB_size (b k v x z n : Nat) (d : Bool) : (symB b k v d x z n).size = 24 := by
  unfold symB
  simp only [ByteArray.size_append, encA_size]

/-- Bytes of which each part is a symbol. -/
theorem read_ok (b names : ByteArray) (n : Nat) (w : World) (hnm : names.size ≤ 9223372036854775807) (hb : b.size = 24 * n) (hn : n ≤ 256) (hs : ∀ x ∈ eachL b 24 n, (symF x.2 names).2 = 0) :
    Calls Try.prog 10 #[.string b, .string names] w fun e w' => ∃ v, e = .returned (.tuple #[v, flt 0 0]) ∧ w'.ownsRow w.heap.size 35 7 v n (cellsL names (eachL b 24 n)) ∧ Below w.heap.size w w' := by
  refine (read_any b names w (by omega) hnm).mono ?_
  rintro e w' ⟨h, hB⟩
  have e0 : b.size / 24 = n := by omega
  rcases h with ⟨h, _⟩ | ⟨_, h, _⟩ | ⟨_, _, h⟩
  · omega
  · omega
  · rw [e0] at h
    rcases h with ⟨v, rfl, h1, _⟩ | ⟨q, x, h1, _, h3, _⟩
    · exact ⟨v, rfl, h1, hB⟩
    · exact absurd (hs x (h1.subset (by simp))) h3

theorem bad_unique {α : Type} (f : α → Int) (L A : List α) (y : α) (hp : A ++ [y] <+: L) (hA : ∀ x ∈ A, f x = 0) (hy : f y ≠ 0) (q : List α) (x : α) (h1 : q ++ [x] <+: L) (h2 : ∀ z ∈ q, f z = 0) (h3 : f x ≠ 0) : q = A ∧ x = y := by
  have hl : q.length = A.length := by
    rcases Nat.lt_trichotomy q.length A.length with h | h | h
    · exfalso
      have hx : q ++ [x] <+: A := List.prefix_of_prefix_length_le h1 ((List.prefix_append _ _).trans hp) (by simp; omega)
      exact h3 (hA x (hx.subset (by simp)))
    · exact h
    · exfalso
      have hx : A ++ [y] <+: q := List.prefix_of_prefix_length_le hp ((List.prefix_append _ _).trans h1) (by simp; omega)
      exact hy (h2 _ (hx.subset (by simp)))
  have he : q ++ [x] = A ++ [y] := (List.prefix_of_prefix_length_le h1 hp (by simp [hl])).eq_of_length (by simp [hl])
  exact (List.append_inj' he rfl).imp id (fun h => by simpa using h)

/-- The first part that is none. -/
theorem read_bad (b names : ByteArray) (n k : Nat) (c : Int) (w : World) (hnm : names.size ≤ 9223372036854775807) (hb : b.size = 24 * n) (hn : n ≤ 256) (hk : k < n) (hs : ∀ x ∈ eachL b 24 k, (symF x.2 names).2 = 0) (hc : (symF (b.extract (k * 24) ((k + 1) * 24)) names).2 = c) (hc0 : c ≠ 0) :
    Calls Try.prog 10 #[.string b, .string names] w fun e w' => e = .returned (.tuple #[.slice none 0 0, flt c ((k : Int) * 24)]) ∧ Below w.heap.size w w' := by
  obtain ⟨f, hf⟩ : ∃ f : Pt → Int, f = fun x => (symF x.2 names).2 := ⟨_, rfl⟩
  have ff : ∀ x, (symF x.2 names).2 = f x := fun x => by rw [hf]
  obtain ⟨y, hy⟩ : ∃ y : Pt, y = (k, b.extract (k * 24) ((k + 1) * 24)) := ⟨_, rfl⟩
  have hp : eachL b 24 k ++ [y] <+: eachL b 24 n := by rw [hy, ← eachL_succ]; exact eachL_prefix b 24 hk
  have hcy : f y = c := by rw [hf, hy]; exact hc
  have hy1 : y.1 = k := by rw [hy]
  refine (read_any b names w (by omega) hnm).mono ?_
  rintro e w' ⟨h, hB⟩
  have e0 : b.size / 24 = n := by omega
  simp only [ff] at h hs
  clear hf hy hc ff
  rcases h with ⟨h, _⟩ | ⟨_, h, _⟩ | ⟨_, _, h⟩
  · omega
  · omega
  · rw [e0] at h
    rcases h with ⟨v, _, _, h2⟩ | ⟨q, x, h1, h2, h3, he⟩
    · exact absurd (hcy.symm.trans (h2 _ (hp.subset (by simp)))) hc0
    · obtain ⟨_, rfl⟩ := bad_unique f _ _ y hp hs (by rw [hcy]; exact hc0) q x h1 h2 h3
      exact ⟨by rw [he, hcy, hy1], hB⟩

/-- The cells of a slice of symbols. -/
theorem row_cells {W : World} {base n : Nat} {v : Value} {xs : List Value} (h : W.ownsRow base 35 7 v (n + 1) xs) : ∃ g cap, v = .slice (some ⟨g, 0, none⟩) (n + 1) cap ∧ base ≤ g ∧ g < W.heap.size ∧ n + 1 ≤ cap ∧ ∀ j, j < xs.length → W.cell? ⟨g, j, none⟩ = xs[j]? := by
  rcases h.2 with ⟨rfl, h0⟩ | ⟨g, cap, cur, rfl, hb, hg, h2⟩
  · omega
  · refine ⟨g, cap, rfl, hb, (Array.getElem?_eq_some_iff.1 hg).1, ?_, fun j hj => ?_⟩
    · exact h2.1
    · exact h.cellAt j (by rw [← h.1]; exact hj)
end Go.Proofs.Ytackjpmpkklgiaa
