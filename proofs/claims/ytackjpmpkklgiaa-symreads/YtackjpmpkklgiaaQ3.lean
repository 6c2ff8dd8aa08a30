/-
  The statement SymReads, whole.
-/
import Derived.Test.YtackjpmpkklgiaaQ2
import Derived.Test.YtackjpmpkklgiaaR1
namespace Go.Proofs.Ytackjpmpkklgiaa
open Go.RowKit
set_option linter.unusedVariables false

theorem symF_ok (e names : ByteArray) (h : (symF e names).2 = 0) : 0 ≤ (symF e names).1.bind ∧ (symF e names).1.bind ≤ 2 ∧ 0 ≤ (symF e names).1.vis := by
  unfold symF at *
  split at h
  · rename_i h1
    rw [if_pos h1]
    split at h
    · simp at h
    · rename_i h2
      rw [if_neg h2]
      show 0 ≤ ((byteAt e 4 / 16 : Nat) : Int) ∧ ((byteAt e 4 / 16 : Nat) : Int) ≤ 2 ∧ 0 ≤ ((byteAt e 5 % 4 : Nat) : Int)
      omega
  · simp at h

theorem cellsL_at (names : ByteArray) : ∀ (l : List Pt) (i : Nat) (hi : i < l.length) (j : Nat) (hj : j < 7), (cellsL names l)[i * 7 + j]? = (symF (l[i]).2 names).1.cells[j]?
  | [], i, hi, _, _ => absurd hi (by simp)
  | x :: l, 0, _, j, hj => by
    show ((symF x.2 names).1.cells ++ cellsL names l)[0 * 7 + j]? = _
    rw [List.getElem?_append_left (by simp [Sy.cells]; omega), show 0 * 7 + j = j by omega]
    rfl
  | x :: l, i + 1, hi, j, hj => by
    show ((symF x.2 names).1.cells ++ cellsL names l)[(i + 1) * 7 + j]? = _
    rw [List.getElem?_append_right (by simp [Sy.cells]; omega)]
    rw [show (i + 1) * 7 + j - (symF x.2 names).1.cells.length = i * 7 + j by simp [Sy.cells]; omega]
    exact cellsL_at names l i (by simpa using hi) j hj

theorem syO_of {W : World} {g n : Nat} {names : ByteArray} {l : List Pt} (hl : l.length = n) (h : ∀ j, j < n * 7 → W.cell? ⟨g, j, none⟩ = (cellsL names l)[j]?) (i : Nat) (hi : i < n) (d : Pt) : SyO W g (i * 7) (symF (l.getD i d).2 names).1 := by
  have hi' : i < l.length := by omega
  have e : l.getD i d = l[i] := by simp [List.getD, hi']
  rw [e]
  have k : ∀ j, j < 7 → W.cell? ⟨g, i * 7 + j, none⟩ = (symF (l[i]).2 names).1.cells[j]? := fun j hj => (h _ (by omega)).trans (cellsL_at names l i hi' j hj)
  exact ⟨k 0 (by omega), k 1 (by omega), k 2 (by omega), k 3 (by omega), k 4 (by omega), k 5 (by omega), k 6 (by omega)⟩

theorem row_zero {W : World} {base size : Nat} {e : TypeId} {v : Value} {xs : List Value} (h : W.ownsRow base e size v 0 xs) : ∃ a c, v = .slice a 0 c := by
  rcases h.2 with ⟨rfl, _⟩ | ⟨g, cap, cur, rfl, _, _, _, hc, _⟩
  · exact ⟨none, 0, rfl⟩
  · exact ⟨_, _, rfl⟩

theorem bad_first {α : Type} (f : α → Int) : ∀ (L : List α), (¬ ∀ x ∈ L, f x = 0) → ∃ A y, A ++ [y] <+: L ∧ (∀ x ∈ A, f x = 0) ∧ f y ≠ 0
  | [], h => absurd (fun x hx => by simp at hx) h
  | x :: L, h => by
    by_cases hx : f x = 0
    · have h' : ¬ ∀ y ∈ L, f y = 0 := fun h2 => h (fun y hy => by
        rcases List.mem_cons.1 hy with rfl | hy
        · exact hx
        · exact h2 y hy)
      obtain ⟨A, y, h1, h2, h3⟩ := bad_first f L h'
      refine ⟨x :: A, y, ?_, ?_, h3⟩
      · obtain ⟨r, hr⟩ := h1
        exact ⟨r, by rw [← hr]; rfl⟩
      · intro z hz
        rcases List.mem_cons.1 hz with rfl | hz
        · exact hx
        · exact h2 z hz
    · exact ⟨[], x, ⟨L, rfl⟩, (fun z hz => by simp at hz), hx⟩

theorem eachL_len (b : ByteArray) (m n : Nat) : (eachL b m n).length = n := by
  simp [eachL]

theorem symreads_walk (b0 names : ByteArray) (cut : Int) (w : World) (hs0 : b0.size ≤ 9223372036854775807) (hnm : names.size ≤ 9223372036854775807) :
    Calls Try.prog 3 #[.string b0, .string names, .int .i64 cut] w fun e w' => e = .returned (.bool true) ∧ Below w.heap.size w w' := by
  obtain ⟨c, hc⟩ : ∃ c, b0.extract 0 (min b0.size 7000) = c := ⟨_, rfl⟩
  have hcz : c.size ≤ 7000 := by rw [← hc]; simp; omega
  obtain ⟨c3, h3⟩ : ∃ c3, bits BinOp.and IntKind.i64 cut 3 = c3 := ⟨_, rfl⟩
  obtain ⟨B, hB, hBz⟩ : ∃ B : ByteArray, ((¬ 0 < c3 ∧ c = B) ∨ (0 < c3 ∧ c.extract 0 (c.size / 24 * 24) = B)) ∧ B.size ≤ 7000 := by
    by_cases h : 0 < c3
    · exact ⟨_, .inr ⟨h, rfl⟩, by simp; omega⟩
    · exact ⟨c, .inl ⟨h, rfl⟩, hcz⟩
  have D := fun W => read_any B names W (by omega) hnm
  have R := fun W => rread_any B names W (by omega) hnm
  by_cases h24' : B.size % 24 ≠ 0
  · refine reads_zero b0 c B names cut c3 4 0 w hs0 hc hcz h3 hB (fun W => (D W).mono ?_) (fun W => (R W).mono ?_)
    · rintro r w' ⟨⟨_, h⟩ | ⟨h, _⟩ | ⟨h, _⟩, hb⟩
      · exact ⟨_, _, h, hb⟩
      · omega
      · omega
    · rintro r w' ⟨⟨_, h⟩ | ⟨h, _⟩ | ⟨h, _⟩, hb⟩
      · exact ⟨_, _, h, hb⟩
      · omega
      · omega
  have h24 : B.size % 24 = 0 := by omega
  clear h24'
  by_cases h256' : 256 < B.size / 24
  · refine reads_zero b0 c B names cut c3 6 0 w hs0 hc hcz h3 hB (fun W => (D W).mono ?_) (fun W => (R W).mono ?_)
    · rintro r w' ⟨⟨h, _⟩ | ⟨_, _, h⟩ | ⟨_, h, _⟩, hb⟩
      · omega
      · exact ⟨_, _, h, hb⟩
      · omega
    · rintro r w' ⟨⟨h, _⟩ | ⟨_, _, h⟩ | ⟨_, h, _⟩, hb⟩
      · omega
      · exact ⟨_, _, h, hb⟩
      · omega
  have h256 : B.size / 24 ≤ 256 := by omega
  clear h256'
  obtain ⟨n, hn⟩ : ∃ n, B.size / 24 = n := ⟨_, rfl⟩
  unfold ReadPost at D
  unfold RReadPost at R
  rw [hn] at D R h256
  obtain ⟨L, hL⟩ : ∃ L, eachL B 24 n = L := ⟨_, rfl⟩
  have hLn : L.length = n := by rw [← hL]; exact eachL_len B 24 n
  rw [hL] at D R
  by_cases hok : ∀ x ∈ L, (symF x.2 names).2 = 0
  · have D2 : ∀ W, Calls Try.prog 10 #[.string B, .string names] W fun r w' => ∃ v, r = .returned (.tuple #[v, flt 0 0]) ∧ w'.ownsRow W.heap.size 35 7 v n (cellsL names L) ∧ Below W.heap.size W w' := fun W => (D W).mono (by
      rintro r w' ⟨⟨h, _⟩ | ⟨_, h, _⟩ | ⟨_, _, ⟨v, he, hr, _⟩ | ⟨q, x, hp, _, hx, _⟩⟩, hb⟩
      · omega
      · omega
      · exact ⟨v, he, hr, hb⟩
      · exact absurd (hok x (hp.subset (by simp))) hx)
    have R2 : ∀ W, Calls Try.prog 11 #[.string B, .string names] W fun r w' => ∃ v, r = .returned (.tuple #[v, .int .i64 0, .int .u64 0]) ∧ w'.ownsRow W.heap.size 36 7 v n (cellsL names L) ∧ Below W.heap.size W w' := fun W => (R W).mono (by
      rintro r w' ⟨⟨h, _⟩ | ⟨_, h, _⟩ | ⟨_, _, ⟨v, he, hr, _⟩ | ⟨q, x, hp, _, hx, _⟩⟩, hb⟩
      · omega
      · omega
      · exact ⟨v, he, hr, hb⟩
      · exact absurd (hok x (hp.subset (by simp))) hx)
    by_cases h0 : n = 0
    · subst h0
      refine reads_zero b0 c B names cut c3 0 0 w hs0 hc hcz h3 hB (fun W => (D2 W).mono ?_) (fun W => (R2 W).mono ?_)
      · rintro r w' ⟨v, rfl, hr, hb⟩
        obtain ⟨a, k, rfl⟩ := row_zero hr
        exact ⟨a, k, rfl, hb⟩
      · rintro r w' ⟨v, rfl, hr, hb⟩
        obtain ⟨a, k, rfl⟩ := row_zero hr
        exact ⟨a, k, rfl, hb⟩
    · refine reads_some b0 c B names cut c3 n (fun i => (symF (L.getD i (0, ⟨#[]⟩)).2 names).1) w hs0 hc hcz h3 hB h256 (by omega) ?_ (fun W => (D2 W).mono ?_) (fun W => (R2 W).mono ?_)
      · intro i hi
        refine symF_ok _ _ (hok _ ?_)
        have hi' : i < L.length := by omega
        have e : L.getD i (0, ⟨#[]⟩) = L[i] := by simp [List.getD, hi']
        rw [e]
        exact List.getElem_mem hi'
      · rintro r w' ⟨v, rfl, hr, hb⟩
        rcases hr.2 with ⟨rfl, hz⟩ | ⟨g, cap, cur, rfl, _, _, hc1, hc2, _⟩
        · omega
        · exact ⟨g, cap, rfl, ⟨hc1, by unfold maxLen at hc2; omega⟩, fun i hi => syO_of hLn (fun j hj => hr.cellAt j hj) i hi _, hb⟩
      · rintro r w' ⟨v, rfl, hr, hb⟩
        rcases hr.2 with ⟨rfl, hz⟩ | ⟨g, cap, cur, rfl, _, _, hc1, hc2, _⟩
        · omega
        · exact ⟨g, cap, rfl, ⟨hc1, by unfold maxLen at hc2; omega⟩, fun i hi => syO_of hLn (fun j hj => hr.cellAt j hj) i hi _, hb⟩
  · obtain ⟨f, hf⟩ : ∃ f : Pt → Int, f = fun x => (symF x.2 names).2 := ⟨_, rfl⟩
    have ff : ∀ x, (symF x.2 names).2 = f x := fun x => by rw [hf]
    simp only [ff] at D R hok
    clear hf ff
    obtain ⟨A, y, hp, hA, hy⟩ := bad_first f _ hok
    refine reads_zero b0 c B names cut c3 (f y) ((y.1 : Int) * 24) w hs0 hc hcz h3 hB (fun W => (D W).mono ?_) (fun W => (R W).mono ?_)
    · rintro r w' ⟨⟨h, _⟩ | ⟨_, h, _⟩ | ⟨_, _, ⟨v, _, _, h2⟩ | ⟨q, x, h1, h2, h3, he⟩⟩, hb⟩
      · omega
      · omega
      · exact absurd h2 hok
      · obtain ⟨_, rfl⟩ := bad_unique f _ _ y hp hA hy q x h1 h2 h3
        exact ⟨_, _, he, hb⟩
    · rintro r w' ⟨⟨h, _⟩ | ⟨_, h, _⟩ | ⟨_, _, ⟨v, _, _, h2⟩ | ⟨q, x, h1, h2, h3, he⟩⟩, hb⟩
      · omega
      · omega
      · exact absurd h2 hok
      · obtain ⟨_, rfl⟩ := bad_unique f _ _ y hp hA hy q x h1 h2 h3
        exact ⟨_, _, he, hb⟩
end Go.Proofs.Ytackjpmpkklgiaa
