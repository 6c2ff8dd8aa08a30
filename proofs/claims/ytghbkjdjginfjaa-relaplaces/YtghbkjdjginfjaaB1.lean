/-
  Layer 15: what Read and the document's Read answer of the same bytes.
-/
import Derived.Test.YtghbkjdjginfjaaS1
import Derived.Test.YtghbkjdjginfjaaQ1
import Derived.Test.YtghbkjdjginfjaaO1
namespace Go.Proofs.Ytghbkjdjginfjaa
open Go.RowKit
set_option linter.unusedVariables false

theorem first_one (P : Pt → Prop) : ∀ (l q q' : List Pt) (x x' : Pt), q ++ [x] <+: l → q' ++ [x'] <+: l → (∀ y ∈ q, P y) → (∀ y ∈ q', P y) → ¬ P x → ¬ P x' → x = x'
  | [], q, q', x, x', h, _, _, _, _, _ => by
    have := h.length_le
    simp at this
  | z :: l, [], [], x, x', h, h', _, _, _, _ => by
    have e := (List.cons_prefix_cons.1 h).1
    have e' := (List.cons_prefix_cons.1 h').1
    exact e.trans e'.symm
  | z :: l, [], y :: q', x, x', h, h', _, g', n, _ => by
    have e := (List.cons_prefix_cons.1 h).1
    have e' := (List.cons_prefix_cons.1 h').1
    exact absurd (g' y (by simp)) (by rw [e', ← e]; exact n)
  | z :: l, y :: q, [], x, x', h, h', g, _, _, n' => by
    have e := (List.cons_prefix_cons.1 h).1
    have e' := (List.cons_prefix_cons.1 h').1
    exact absurd (g y (by simp)) (by rw [e, ← e']; exact n')
  | z :: l, y :: q, y' :: q', x, x', h, h', g, g', n, n' =>
    first_one P l q q' x x' (List.cons_prefix_cons.1 h).2 (List.cons_prefix_cons.1 h').2 (fun a ha => g a (by simp [ha])) (fun a ha => g' a (by simp [ha])) n n'
theorem first_bad (g : Pt → Int) : ∀ l : List Pt, (∀ x ∈ l, g x = 0) ∨ ∃ q x, q ++ [x] <+: l ∧ (∀ y ∈ q, g y = 0) ∧ g x ≠ 0
  | [] => .inl (by simp)
  | z :: l => by
    by_cases hz : g z = 0
    · rcases first_bad g l with h | ⟨q, x, h1, h2, h3⟩
      · refine .inl fun x hx => ?_
        rcases List.mem_cons.1 hx with rfl | hx
        · exact hz
        · exact h x hx
      · refine .inr ⟨z :: q, x, ?_, ?_, h3⟩
        · exact List.cons_prefix_cons.2 ⟨rfl, h1⟩
        · intro y hy
          rcases List.mem_cons.1 hy with rfl | hy
          · exact hz
          · exact h2 y hy
    · exact .inr ⟨[], z, List.cons_prefix_cons.2 ⟨rfl, List.nil_prefix⟩, by simp, hz⟩

/-- Both tell the same fault at the same place. -/
def Wrong (b : ByteArray) (sy c a : Int) : Prop :=
  (∀ w, Calls Try.prog 9 #[.string b, .int .i64 sy] w fun e w' => e = .returned (.tuple #[.slice none 0 0, flt c a]) ∧ Below w.heap.size w w') ∧
  (∀ w, Calls Try.prog 10 #[.string b, .int .i64 sy] w fun e w' => e = .returned (.tuple #[.slice none 0 0, .int .i64 c, .int .u64 a]) ∧ Below w.heap.size w w')
/-- Both read n relocations. -/
def Right (b : ByteArray) (sy : Int) (n : Nat) : Prop :=
  (∀ w, Calls Try.prog 9 #[.string b, .int .i64 sy] w fun e w' => ∃ v, e = .returned (.tuple #[v, flt 0 0]) ∧ w'.ownsRow w.heap.size 38 4 v n (cellsL sy (eachL b 24 n)) ∧ Below w.heap.size w w') ∧
  (∀ w, Calls Try.prog 10 #[.string b, .int .i64 sy] w fun e w' => ∃ v, e = .returned (.tuple #[v, .int .i64 0, .int .u64 0]) ∧ w'.ownsRow w.heap.size 27 4 v n (cellsL sy (eachL b 24 n)) ∧ Below w.heap.size w w')
theorem read_both (b : ByteArray) (sy : Int) (hb : b.size ≤ 140737488351232) (n0 : -9223372036854775808 ≤ sy) (n1 : sy ≤ 9223372036854775807) :
    (∃ c a, c ≠ 0 ∧ Wrong b sy c a) ∨ ∃ n, b.size = n * 24 ∧ n ≤ 256 ∧ (∀ x ∈ eachL b 24 n, (relF x.2 sy).2 = 0) ∧ Right b sy n := by
  by_cases h1 : b.size % 24 = 0
  · by_cases h2 : 256 < b.size / 24
    · refine .inl ⟨6, 0, by decide, fun w => (read_any b sy w hb n0 n1).mono ?_, fun w => (rread_any b sy w hb).mono ?_⟩
      · rintro e w' ⟨⟨g, _⟩ | ⟨_, _, rfl⟩ | ⟨_, g, _⟩, hB⟩
        · exact absurd h1 g
        · exact ⟨rfl, hB⟩
        · omega
      · rintro e w' ⟨⟨g, _⟩ | ⟨_, _, rfl⟩ | ⟨_, g, _⟩, hB⟩
        · exact absurd h1 g
        · exact ⟨rfl, hB⟩
        · omega
    · rcases first_bad (fun x => (relF x.2 sy).2) (eachL b 24 (b.size / 24)) with h | ⟨q, x, h3, h4, h5⟩
      · refine .inr ⟨b.size / 24, by omega, by omega, h, fun w => (read_any b sy w hb n0 n1).mono ?_, fun w => (rread_any b sy w hb).mono ?_⟩
        · rintro e w' ⟨⟨g, _⟩ | ⟨_, g, _⟩ | ⟨_, _, ⟨v, rfl, g, _⟩ | ⟨q, x, g1, _, g2, _⟩⟩, hB⟩
          · exact absurd h1 g
          · exact absurd g h2
          · exact ⟨v, rfl, g, hB⟩
          · exact absurd (h x (g1.subset (by simp))) g2
        · rintro e w' ⟨⟨g, _⟩ | ⟨_, g, _⟩ | ⟨_, _, ⟨v, rfl, g, _⟩ | ⟨q, x, g1, _, g2, _⟩⟩, hB⟩
          · exact absurd h1 g
          · exact absurd g h2
          · exact ⟨v, rfl, g, hB⟩
          · exact absurd (h x (g1.subset (by simp))) g2
      · refine .inl ⟨(relF x.2 sy).2, (x.1 : Int) * 24, h5, fun w => (read_any b sy w hb n0 n1).mono ?_, fun w => (rread_any b sy w hb).mono ?_⟩
        · rintro e w' ⟨⟨g, _⟩ | ⟨_, g, _⟩ | ⟨_, _, ⟨v, rfl, _, g⟩ | ⟨q', x', g1, g2, g3, rfl⟩⟩, hB⟩
          · exact absurd h1 g
          · exact absurd g h2
          · exact absurd (g x (h3.subset (by simp))) h5
          · obtain rfl := first_one (fun x => (relF x.2 sy).2 = 0) _ _ _ _ _ h3 g1 h4 g2 h5 g3
            exact ⟨rfl, hB⟩
        · rintro e w' ⟨⟨g, _⟩ | ⟨_, g, _⟩ | ⟨_, _, ⟨v, rfl, _, g⟩ | ⟨q', x', g1, g2, g3, rfl⟩⟩, hB⟩
          · exact absurd h1 g
          · exact absurd g h2
          · exact absurd (g x (h3.subset (by simp))) h5
          · obtain rfl := first_one (fun x => (relF x.2 sy).2 = 0) _ _ _ _ _ h3 g1 h4 g2 h5 g3
            exact ⟨rfl, hB⟩
  · refine .inl ⟨4, 0, by decide, fun w => (read_any b sy w hb n0 n1).mono ?_, fun w => (rread_any b sy w hb).mono ?_⟩
    · rintro e w' ⟨⟨_, rfl⟩ | ⟨g, _⟩ | ⟨g, _⟩, hB⟩
      · exact ⟨rfl, hB⟩
      · exact absurd g h1
      · exact absurd g h1
    · rintro e w' ⟨⟨_, rfl⟩ | ⟨g, _⟩ | ⟨g, _⟩, hB⟩
      · exact ⟨rfl, hB⟩
      · exact absurd g h1
      · exact absurd g h1

theorem cells_at (b : ByteArray) (sy : Int) : ∀ (n j i : Nat), j < n → i < 4 → (cellsL sy (eachL b 24 n))[j * 4 + i]? = (rlc (relF (b.extract (j * 24) ((j + 1) * 24)) sy).1)[i]?
  | 0, j, i, hj, _ => absurd hj (by omega)
  | n + 1, j, i, hj, hi => by
    rw [eachL_succ, cellsL_snoc]
    by_cases h : j = n
    · subst h
      rw [List.getElem?_append_right (by rw [cellsL_length, eachL_length]; omega), cellsL_length, eachL_length]
      rw [show j * 4 + i - j * 4 = i by omega]
    · rw [List.getElem?_append_left (by rw [cellsL_length, eachL_length]; omega)]
      exact cells_at b sy n j i (by omega) hi
/-- Four cells of a relocation at a place. -/
def RlO (W : World) (g o : Nat) (x : Rl) : Prop :=
  W.cell? ⟨g, o, none⟩ = some (.int .u64 x.1) ∧ W.cell? ⟨g, o + 1, none⟩ = some (.int .i64 x.2.1) ∧ W.cell? ⟨g, o + 2, none⟩ = some (.int .i64 x.2.2.1) ∧ W.cell? ⟨g, o + 3, none⟩ = some (.int .u64 x.2.2.2)
theorem RlO.next {W W' : World} {g o : Nat} {x : Rl} (hb : Below W.heap.size W W') (h : RlO W g o x) : RlO W' g o x := by
  have k : ∀ {a : Addr} {v}, W.cell? a = some v → W'.cell? a = some v := fun hc => (hb.cell (World.block_lt_of_cell? _ _ hc)).trans hc
  obtain ⟨h0, h1, h2, h3⟩ := h
  exact ⟨k h0, k h1, k h2, k h3⟩
theorem row_rl {W : World} {base n : Nat} {t : TypeId} {v : Value} {b : ByteArray} {sy : Int} (h : W.ownsRow base t 4 v n (cellsL sy (eachL b 24 n))) :
    ∃ a c g, v = .slice a n c ∧ (0 < n → a = some ⟨g, 0, none⟩) ∧ n ≤ c ∧ c ≤ 9223372036854775807 ∧ ∀ j, j < n → RlO W g (j * 4) (relF (b.extract (j * 24) ((j + 1) * 24)) sy).1 := by
  rcases h.2 with ⟨rfl, h1⟩ | ⟨g, cap, cur, rfl, hb, hg, h2, h3, _⟩
  · exact ⟨none, 0, 0, by rw [h1], fun h => by omega, by omega, by omega, fun j hj => absurd hj (by omega)⟩
  · refine ⟨_, cap, g, rfl, fun _ => rfl, h2, by unfold maxLen at h3; omega, fun j hj => ?_⟩
    have k : ∀ i, i < 4 → W.cell? ⟨g, j * 4 + i, none⟩ = (rlc (relF (b.extract (j * 24) ((j + 1) * 24)) sy).1)[i]? := fun i hi => (h.cellAt (j * 4 + i) (by omega)).trans (cells_at b sy n j i hj hi)
    exact ⟨k 0 (by omega), k 1 (by omega), k 2 (by omega), k 3 (by omega)⟩
theorem loc1 {w2 w3 : World} {u v z : Value} {t : TypeId} (hb : Below (w2.alloc (.cells #[u, v, z] t)).heap.size (w2.alloc (.cells #[u, v, z] t)) w3) :
    w3.cell? ⟨w2.heap.size, 0, none⟩ = some u ∧ w3.cell? ⟨w2.heap.size, 1, none⟩ = some v := by
  have h0 : (w2.alloc (.cells #[u, v, z] t)).cell? ⟨w2.heap.size, 0, none⟩ = some u := by simp [go_sem]
  have h1 : (w2.alloc (.cells #[u, v, z] t)).cell? ⟨w2.heap.size, 1, none⟩ = some v := by simp [go_sem]
  exact ⟨(hb.cell (World.block_lt_of_cell? _ _ h0)).trans h0, (hb.cell (World.block_lt_of_cell? _ _ h1)).trans h1⟩
/-- What a drawn region holds of a relocation's cells. -/
theorem rl_next {w W W' : World} {g o : Nat} {v0 v1 v2 v3 : Value} (hb : Below W.heap.size W W')
    (hS : W.cell? ⟨g, o, none⟩ = some v0 ∧ W.cell? ⟨g, o + 1, none⟩ = some v1 ∧ W.cell? ⟨g, o + 2, none⟩ = some v2 ∧ W.cell? ⟨g, o + 3, none⟩ = some v3 ∧ Below w.heap.size w W) :
    W'.cell? ⟨g, o, none⟩ = some v0 ∧ W'.cell? ⟨g, o + 1, none⟩ = some v1 ∧ W'.cell? ⟨g, o + 2, none⟩ = some v2 ∧ W'.cell? ⟨g, o + 3, none⟩ = some v3 ∧ Below w.heap.size w W' := by
  obtain ⟨h0, h1, h2, h3, h⟩ := hS
  have k : ∀ {j v}, W.cell? ⟨g, j, none⟩ = some v → W'.cell? ⟨g, j, none⟩ = some v := fun hc => (hb.cell (World.block_lt_of_cell? W _ hc)).trans hc
  exact ⟨k h0, k h1, k h2, k h3, h.trans (hb.mono h.size)⟩
end Go.Proofs.Ytghbkjdjginfjaa
