/-
  Layer 13: what Read's loop keeps.
-/
import Derived.Test.YtffmkkfacemchaaU0
import Derived.Maps.AppendAt
namespace Go.Proofs.Ytffmkkfacemchaa
open Go.RowKit Go.Shelf
set_option linter.unusedVariables false

theorem obj_own {β : Type} (B : Nat) (o : β → Obj) (h : ∀ s, (o s).isCells = true) : Own (fun s W => W.heap[B]? = some (o s)) := fun s X Y row hs hg hrow =>
  (hg.block B (Array.getElem?_eq_some_iff.1 hs).1 (fun e => by obtain ⟨o', ho, hc⟩ := hrow B e.symm; rw [hs] at ho; cases ho; rw [h] at hc; cases hc)).trans hs
/-- A block of another type is not the row's. -/
theorem obj_not_row {W : World} {B : Nat} {cs : Array Value} {t e : TypeId} {fr : Nat × Nat} (h : W.heap[B]? = some (.cells cs t fr)) (hte : t ≠ e) {base size k : Nat} {v : Value} {xs : List Value} (hr : W.ownsRow base e size v k xs) : some B ≠ v.ownBlock := by
  intro e1
  rcases hr.2 with ⟨rfl, _⟩ | ⟨g, cap, cur, rfl, _, hgb, _⟩
  · simp [Value.ownBlock] at e1
  · obtain rfl : B = g := by simpa [Value.ownBlock] using e1
    rw [h] at hgb
    cases hgb
    exact hte rfl
theorem grownBy_setAt (W : World) (B j : Nat) (u : Value) : W.grownBy (W.setCell ⟨B, j, none⟩ u) (some B) := ⟨rfl, rfl, rfl, by simp, fun q hq hne => Below.heap_setCell _ _ _ _ (fun e => hne (by rw [e]))⟩
theorem set3_blk {W : World} {B : Nat} {a b c : Value} (h : W.heap[B]? = some (.cells #[a, b, c] 29 (0, 0))) (x y z : Value) : (((W.setCell ⟨B, 0, none⟩ x).setCell ⟨B, 1, none⟩ y).setCell ⟨B, 2, none⟩ z).heap[B]? = some (.cells #[x, y, z] 29 (0, 0)) := by
  obtain ⟨hlt, hk⟩ := Array.getElem?_eq_some_iff.1 h
  have h1 : (W.setCell ⟨B, 0, none⟩ x).heap[B]? = some (.cells #[x, b, c] 29 (0, 0)) := by
    show (W.heap.modify B _)[B]? = _
    rw [Array.getElem?_eq_getElem (by rw [Array.size_modify]; exact hlt), Array.getElem_modify_self, hk]
    rfl
  obtain ⟨hlt2, hk2⟩ := Array.getElem?_eq_some_iff.1 h1
  have h2 : ((W.setCell ⟨B, 0, none⟩ x).setCell ⟨B, 1, none⟩ y).heap[B]? = some (.cells #[x, y, c] 29 (0, 0)) := by
    show ((W.setCell ⟨B, 0, none⟩ x).heap.modify B _)[B]? = _
    rw [Array.getElem?_eq_getElem (by rw [Array.size_modify]; exact hlt2), Array.getElem_modify_self, hk2]
    rfl
  obtain ⟨hlt3, hk3⟩ := Array.getElem?_eq_some_iff.1 h2
  show (((W.setCell ⟨B, 0, none⟩ x).setCell ⟨B, 1, none⟩ y).heap.modify B _)[B]? = _
  rw [Array.getElem?_eq_getElem (by rw [Array.size_modify]; exact hlt3), Array.getElem_modify_self, hk3]
  rfl

abbrev NPt := Nat × ByteArray
def valE (x : NPt) : Nat := (num x.2).toNat
def offE (m : Nat) (x : NPt) : Prop := valE x ≠ 0 ∧ m ≤ valE x
def cellsE (l : List NPt) : List Value := l.map fun x => Value.int .u32 (valE x : Int)
theorem cellsE_snoc (l : List NPt) (x : NPt) : cellsE (l ++ [x]) = cellsE l ++ [Value.int .u32 (valE x : Int)] := by simp [cellsE]

/-- What Read keeps, round by round. -/
def RDI (w : World) (bo : ByteArray) (m : Nat) (pre : List NPt) (W : World) : Prop :=
  (∃ v, Boxed W (w.heap.size + 3) 23 v ∧ W.ownsRow w.heap.size 51 1 v pre.length (cellsE pre) ∧ True) ∧
  ((Boxed W (w.heap.size + 3 + 1) 9 (.string bo) ∧ Boxed W (w.heap.size + 3 + 1 + 1) 3 (.int .i64 4)) ∧ Boxed W (w.heap.size + 1 + 1) 27 (.int .u64 (m : Int)) ∧ W.heap[w.heap.size]? = some (.cells #[.slice none 0 0, .slice none 0 0] 25 (0, 0)) ∧ W.heap[w.heap.size + 1]? = some (.cells #[.int .i64 0, .int .u64 0, .string ⟨#[]⟩] 29 (0, 0))) ∧
  (∀ x ∈ pre, ¬ offE m x) ∧ Below w.heap.size w W
/-- .. and where it ends early. -/
def RDX (w : World) (m : Nat) (pre : List NPt) (W : World) : Prop :=
  ∃ q x, pre = q ++ [x] ∧ (∀ y ∈ q, ¬ offE m y) ∧ offE m x ∧ W.heap[w.heap.size]? = some (.cells #[.slice none 0 0, .slice none 0 0] 25 (0, 0)) ∧ W.heap[w.heap.size + 1]? = some (.cells #[.int .i64 5, .int .u64 (8 + (x.1 : Int) * 4), .string ⟨#[]⟩] 29 (0, 0)) ∧ Below w.heap.size w W
theorem RDI_own (w : World) (bo : ByteArray) (m : Nat) (B : Nat) (hB : w.heap.size ≤ B) : OwnFrom B (RDI w bo m) :=
  OwnFrom.and (Own.from (holdsRow_own w.heap.size (w.heap.size + 3) 23 51 1 (fun pre : List NPt => pre.length) (fun pre => cellsE pre) (fun _ _ => True)) _)
    (OwnFrom.and (OwnFrom.and (OwnFrom.and (Own.from (boxed_own _ _ _) _) (Own.from (boxed_own _ _ _) _)) (OwnFrom.and (Own.from (boxed_own _ _ _) _) (OwnFrom.and (Own.from (obj_own _ (fun _ : List NPt => Obj.cells #[.slice none 0 0, .slice none 0 0] 25 (0, 0)) (fun _ => rfl)) _) (Own.from (obj_own _ (fun _ : List NPt => Obj.cells #[.int .i64 0, .int .u64 0, .string ⟨#[]⟩] 29 (0, 0)) (fun _ => rfl)) _))))
      (OwnFrom.and (ownFrom_pure _ _) (ownFrom_below (Nat.le_refl _) hB)))
theorem RDX_own (w : World) (m : Nat) (B : Nat) (hB : w.heap.size ≤ B) : OwnFrom B (RDX w m) := fun s X Y row hs hg hr => by
  obtain ⟨q, x, h1, h2, h3, h4, h5, h6⟩ := hs
  exact ⟨q, x, h1, h2, h3, (Own.from (obj_own (β := Unit) w.heap.size (fun _ => Obj.cells #[.slice none 0 0, .slice none 0 0] 25 (0, 0)) (fun _ => rfl)) B) () X Y row h4 hg hr,
    (Own.from (obj_own (β := Unit) (w.heap.size + 1) (fun _ => Obj.cells #[.int .i64 5, .int .u64 (8 + (x.1 : Int) * 4), .string ⟨#[]⟩] 29 (0, 0)) (fun _ => rfl)) B) () X Y row h5 hg hr, (ownFrom_below (β := Unit) (Nat.le_refl _) hB) () X Y row h6 hg hr⟩
theorem load_slice23 {w : World} {B : Nat} {v : Value} (h : w.cell? ⟨B, 0, none⟩ = some v) : (loadVar 23 ⟨B, 0, none⟩).run Try.prog w = .ok v w := by
  have hagg : (isAgg 23).run Try.prog w = .ok false w := by
    simp [isAgg, go_sem]
  simp [loadVar, Sem.run_bind, hagg, Result.andThen, go_sem, h]
theorem own_cap {W : World} {base N g c : Nat} {xs : List Value} (h : W.ownsRow base 51 1 (.slice (some ⟨g, 0, none⟩) N c) N xs) : N ≤ c ∧ base ≤ g ∧ g < W.heap.size := by
  rcases h.2 with ⟨h1, _⟩ | ⟨g', cap, cur, h1, h2, h3, h4, _⟩
  · cases h1
  · cases h1
    exact ⟨h4, h2, (Array.getElem?_eq_some_iff.1 h3).1⟩
theorem own_row {W : World} {base N g c : Nat} {f : Nat → Nat} (h : W.ownsRow base 51 1 (.slice (some ⟨g, 0, none⟩) N c) N (u32C f N)) : RowU W g 0 N f := by
  rcases h.2 with ⟨h1, _⟩ | ⟨g', cap, cur, h1, h2, h3, h4, h5, h6, h7⟩
  · cases h1
  · cases h1
    intro j hj
    have h8 : (cur.toList.take (N * 1))[j]? = some (.int .u32 (f j : Int)) := by rw [h7]; exact u32C_at f N j hj
    rw [List.getElem?_take_of_lt (by omega)] at h8
    simp only [World.cell?, h3, Nat.zero_add]
    simpa using h8
theorem eachL_val (b bo : ByteArray) (N i : Nat) (hbo : bo = b.extract 8 (8 + 4 * N)) (hN : 8 + 4 * N ≤ b.size) (hi : i < N) : valE (i, bo.extract (i * 4) ((i + 1) * 4)) = vN b i := by
  unfold valE vN
  have e : bo.extract (i * 4) ((i + 1) * 4) = b.extract (8 + 4 * i) (12 + 4 * i) := by
    rw [hbo, ByteArray.extract_extract]
    congr 1 <;> omega
  show (num (bo.extract (i * 4) ((i + 1) * 4))).toNat = _
  rw [e]
theorem cellsE_u32 (b bo : ByteArray) (N : Nat) (hbo : bo = b.extract 8 (8 + 4 * N)) (hN : 8 + 4 * N ≤ b.size) : ∀ k, k ≤ N → cellsE (eachL bo 4 k) = u32C (vN b) k
  | 0, _ => rfl
  | k + 1, hk => by rw [eachL_succ, cellsE_snoc, u32C_snoc, cellsE_u32 b bo N hbo hN k (by omega), eachL_val b bo N k hbo hN (by omega)]
theorem offE_off (b bo : ByteArray) (N m i : Nat) (hbo : bo = b.extract 8 (8 + 4 * N)) (hN : 8 + 4 * N ≤ b.size) (hi : i < N) : offE m (i, bo.extract (i * 4) ((i + 1) * 4)) ↔ offN b m i := by
  unfold offE offN
  rw [eachL_val b bo N i hbo hN hi]
theorem pre_each (bo : ByteArray) (N : Nat) (q : List NPt) (x : NPt) (h : q ++ [x] <+: eachL bo 4 N) : ∃ j, j < N ∧ q = eachL bo 4 j ∧ x = (j, bo.extract (j * 4) ((j + 1) * 4)) := by
  have hlen := h.length_le
  rw [List.length_append, eachL_length] at hlen
  simp only [List.length_cons, List.length_nil] at hlen
  have e1 := List.prefix_iff_eq_take.1 h
  have e2 := List.prefix_iff_eq_take.1 (eachL_prefix bo 4 (k := q.length + 1) (n := N) hlen)
  rw [eachL_length] at e2
  rw [List.length_append] at e1
  simp only [List.length_cons, List.length_nil, Nat.zero_add] at e1
  have e3 := e1.trans e2.symm
  rw [eachL_succ] at e3
  obtain ⟨h1, h2⟩ := List.append_inj' e3 rfl
  exact ⟨q.length, by omega, h1, by simpa using h2⟩
/-- What Read answers where all numbers are there. -/
def RdP (w : World) (b : ByteArray) (n m : Nat) (e : Ending) (w' : World) : Prop :=
  ((∃ g c a1, e = .returned (.tuple #[tbv (slv (some ⟨g, 0, none⟩) n n) (slv a1 m m), flt 0 0]) ∧ (0 < m → a1 = some ⟨g, n, none⟩) ∧ w'.ownsRow w.heap.size 51 1 (.slice (some ⟨g, 0, none⟩) (n + m) c) (n + m) (u32C (vN b) (n + m)) ∧ ∀ i, i < n + m → ¬ offN b m i) ∨
   (∃ j, j < n + m ∧ (∀ i, i < j → ¬ offN b m i) ∧ offN b m j ∧ e = .returned (.tuple #[tbv (slv none 0 0) (slv none 0 0), flt 5 (8 + (j : Int) * 4)]))) ∧ Below w.heap.size w w'
theorem fin_world (w W : World) (D : Nat) (x y v : Value) (k : Nat) (xs : List Value) (bR : W.heap[w.heap.size]? = some (.cells #[.slice none 0 0, .slice none 0 0] 25 (0, 0))) (bF : W.heap[w.heap.size + 1]? = some (.cells #[.int .i64 0, .int .u64 0, .string ⟨#[]⟩] 29 (0, 0)))
    (hh : W.ownsRow w.heap.size 51 1 v k xs) (hB : Below w.heap.size w W) (hK : W.heap[D]? = some (.deferred (some []))) (hD : w.heap.size + 6 ≤ D) :
    ∃ Y : World, (((((W.setCell ⟨w.heap.size, 0, none⟩ x).setCell ⟨w.heap.size, 1, none⟩ y).setCell ⟨w.heap.size + 1, 0, none⟩ (.int .i64 0)).setCell ⟨w.heap.size + 1, 1, none⟩ (.int .u64 0)).setCell ⟨w.heap.size + 1, 2, none⟩ (.string ⟨#[]⟩)).drew = Y ∧ Y.heap[w.heap.size]? = some (.cells #[x, y] 25 (0, 0)) ∧ Y.heap[w.heap.size + 1]? = some (.cells #[.int .i64 0, .int .u64 0, .string ⟨#[]⟩] 29 (0, 0)) ∧ Y.heap[D]? = some (.deferred (some [])) ∧ Below w.heap.size w Y ∧ Y.ownsRow w.heap.size 51 1 v k xs := by
  have n1 := obj_not_row (e := 51) bR (by decide) hh
  have n2 := obj_not_row (e := 51) bF (by decide) hh
  have k2 := set2_blk bR x y
  have b2 : Below w.heap.size w ((W.setCell ⟨w.heap.size, 0, none⟩ x).setCell ⟨w.heap.size, 1, none⟩ y) := (hB.setCell (p := ⟨w.heap.size, 0, none⟩) (by show w.heap.size ≤ w.heap.size; omega) x).setCell (p := ⟨w.heap.size, 1, none⟩) (by show w.heap.size ≤ w.heap.size; omega) y
  have k1 : ((W.setCell ⟨w.heap.size, 0, none⟩ x).setCell ⟨w.heap.size, 1, none⟩ y).heap[w.heap.size + 1]? = some (.cells #[.int .i64 0, .int .u64 0, .string ⟨#[]⟩] 29 (0, 0)) := (Below.heap_setCell _ _ _ _ (by show w.heap.size + 1 ≠ w.heap.size; omega)).trans ((Below.heap_setCell _ _ _ _ (by show w.heap.size + 1 ≠ w.heap.size; omega)).trans bF)
  have kD : ((W.setCell ⟨w.heap.size, 0, none⟩ x).setCell ⟨w.heap.size, 1, none⟩ y).heap[D]? = some (.deferred (some [])) := (Below.heap_setCell _ _ _ _ (by show D ≠ w.heap.size; omega)).trans ((Below.heap_setCell _ _ _ _ (by show D ≠ w.heap.size; omega)).trans hK)
  have kO : ((W.setCell ⟨w.heap.size, 0, none⟩ x).setCell ⟨w.heap.size, 1, none⟩ y).ownsRow w.heap.size 51 1 v k xs := (hh.kept (grownBy_setAt _ w.heap.size 0 x) (.inr n1.symm)).kept (grownBy_setAt _ w.heap.size 1 y) (.inr n1.symm)
  generalize (W.setCell ⟨w.heap.size, 0, none⟩ x).setCell ⟨w.heap.size, 1, none⟩ y = X at k2 b2 k1 kD kO ⊢
  have k3 := set3_blk k1 (.int .i64 0) (.int .u64 0) (.string ⟨#[]⟩)
  refine ⟨_, rfl, ?_, k3, ?_, ?_, ?_⟩
  · refine (Below.heap_setCell _ _ _ _ (by show w.heap.size ≠ w.heap.size + 1; omega)).trans ?_
    refine (Below.heap_setCell _ _ _ _ (by show w.heap.size ≠ w.heap.size + 1; omega)).trans ?_
    exact (Below.heap_setCell _ _ _ _ (by show w.heap.size ≠ w.heap.size + 1; omega)).trans k2
  · refine (Below.heap_setCell _ _ _ _ (by show D ≠ w.heap.size + 1; omega)).trans ?_
    refine (Below.heap_setCell _ _ _ _ (by show D ≠ w.heap.size + 1; omega)).trans ?_
    exact (Below.heap_setCell _ _ _ _ (by show D ≠ w.heap.size + 1; omega)).trans kD
  · exact (((b2.setCell (p := ⟨w.heap.size + 1, 0, none⟩) (by show w.heap.size ≤ w.heap.size + 1; omega) (.int .i64 0)).setCell (p := ⟨w.heap.size + 1, 1, none⟩) (by show w.heap.size ≤ w.heap.size + 1; omega) (.int .u64 0)).setCell (p := ⟨w.heap.size + 1, 2, none⟩) (by show w.heap.size ≤ w.heap.size + 1; omega) (.string ⟨#[]⟩)).drew
  · have h6 := ((kO.kept (grownBy_setAt _ (w.heap.size + 1) 0 (.int .i64 0)) (.inr n2.symm)).kept (grownBy_setAt _ (w.heap.size + 1) 1 (.int .u64 0)) (.inr n2.symm)).kept (grownBy_setAt _ (w.heap.size + 1) 2 (.string ⟨#[]⟩)) (.inr n2.symm)
    exact h6
end Go.Proofs.Ytffmkkfacemchaa
