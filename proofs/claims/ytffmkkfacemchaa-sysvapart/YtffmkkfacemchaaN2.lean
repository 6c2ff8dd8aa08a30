/-
  Layer 13: which buckets were gone through, and what was counted. No condition.
-/
import Derived.Test.YtffmkkfacemchaaD1
import Derived.Test.YtffmkkfacemchaaN1
import Derived.Test.YtffmkkfacemchaaW3
import Derived.Maps.OwnOps
import Derived.Maps.Views
namespace Go.Proofs.Ytffmkkfacemchaa
open Go.RowKit Go.Sort Go.Maps
set_option linter.unusedVariables false

/-- Was the bucket gone through by a symbol below k? -/
def doneB (hf : Nat → Nat) : Nat → Nat → Bool
  | 0, _ => false
  | k + 1, h => (k != 0 && hf k == h) || doneB hf k h
theorem doneB_iff (hf : Nat → Nat) : ∀ k h, doneB hf k h = true ↔ ∃ j, j ≠ 0 ∧ j < k ∧ hf j = h
  | 0, h => by simp [doneB]
  | k + 1, h => by
    unfold doneB
    rw [Bool.or_eq_true, doneB_iff hf k h, Bool.and_eq_true]
    constructor
    · rintro (⟨h1, h2⟩ | ⟨j, h1, h2, h3⟩)
      · exact ⟨k, by simpa using h1, by omega, by simpa using h2⟩
      · exact ⟨j, h1, by omega, h3⟩
    · rintro ⟨j, h1, h2, h3⟩
      by_cases e : j = k
      · subst e
        exact .inl ⟨by simpa using h1, by simpa using h3⟩
      · exact .inr ⟨j, h1, by omega, h3⟩
/-- The first symbol of a bucket's walk. -/
def topF (hf : Nat → Nat) (N h : Nat) : Nat := (prevs hf h N).headD 0
theorem topF_mem (hf : Nat → Nat) (N h i : Nat) (h0 : i ≠ 0) (hi : i < N) (hh : hf i = h) : topF hf N h ∈ prevs hf h N := by
  have hm := (prevs_mem hf h N i).2 ⟨h0, hi, hh⟩
  unfold topF
  cases e : prevs hf h N with
  | nil => rw [e] at hm; cases hm
  | cons x l => simp
/-- How often a symbol was counted. -/
def cntF (hf : Nat → Nat) (k j : Nat) : Nat := if j ≠ 0 ∧ doneB hf k (hf j) = true then 1 else 0
/-- What is seen at a first symbol. -/
def seenF (hf : Nat → Nat) (N k x : Nat) : Nat := if x ≠ 0 ∧ x < N ∧ doneB hf k (hf x) = true ∧ topF hf N (hf x) = x then 1 else 0
theorem seen_at (hf : Nat → Nat) (N k i : Nat) (h0 : i ≠ 0) (hi : i < N) : seenF hf N k (topF hf N (hf i)) = if doneB hf k (hf i) = true then 1 else 0 := by
  obtain ⟨m1, m2, m3⟩ := (prevs_mem hf (hf i) N _).1 (topF_mem hf N (hf i) i h0 hi rfl)
  unfold seenF
  rw [m3]
  by_cases c : doneB hf k (hf i) = true
  · rw [if_pos c, if_pos ⟨m1, m2, c, rfl⟩]
  · rw [if_neg c, if_neg (fun h => c h.2.2.1)]
theorem done_same (hf : Nat → Nat) (k h : Nat) (hk : doneB hf k (hf k) = true) : doneB hf (k + 1) h = doneB hf k h := by
  have e : doneB hf (k + 1) h = ((k != 0 && hf k == h) || doneB hf k h) := rfl
  rw [e]
  by_cases c : hf k = h
  · subst c
    rw [hk]
    simp
  · have : (hf k == h) = false := by simpa using c
    rw [this, Bool.and_false, Bool.false_or]
theorem cnt_same (hf : Nat → Nat) (k j : Nat) (hk : doneB hf k (hf k) = true) : cntF hf (k + 1) j = cntF hf k j := by
  unfold cntF
  rw [done_same hf k _ hk]
theorem seen_same (hf : Nat → Nat) (N k x : Nat) (hk : doneB hf k (hf k) = true) : seenF hf N (k + 1) x = seenF hf N k x := by
  unfold seenF
  rw [done_same hf k _ hk]
theorem done_new (hf : Nat → Nat) (k h : Nat) (h0 : k ≠ 0) : doneB hf (k + 1) h = (hf k == h || doneB hf k h) := by
  show ((k != 0 && hf k == h) || doneB hf k h) = _
  have : (k != 0) = true := by simpa using h0
  rw [this]
  rfl
theorem seen_new (hf : Nat → Nat) (N k x : Nat) (h0 : k ≠ 0) (hk : k < N) : seenF hf N (k + 1) x = if x = topF hf N (hf k) then 1 else seenF hf N k x := by
  obtain ⟨m1, m2, m3⟩ := (prevs_mem hf (hf k) N _).1 (topF_mem hf N (hf k) k h0 hk rfl)
  by_cases c : x = topF hf N (hf k)
  · rw [if_pos c]
    subst c
    rw [seen_at hf N (k + 1) k h0 hk, done_new hf k _ h0]
    simp
  · rw [if_neg c]
    unfold seenF
    rw [done_new hf k _ h0]
    by_cases d : hf k = hf x
    · rw [if_neg (fun h => c (by rw [d]; exact h.2.2.2.symm)), if_neg (fun h => c (by rw [d]; exact h.2.2.2.symm))]
    · have : (hf k == hf x) = false := by simpa using d
      rw [this, Bool.false_or]
theorem cnt_new (hf : Nat → Nat) (N k j : Nat) (h0 : k ≠ 0) (hj : j < N) (hk : doneB hf k (hf k) = false) : cntF hf (k + 1) j = cntF hf k j + if j ∈ prevs hf (hf k) N then 1 else 0 := by
  have hm := prevs_mem hf (hf k) N j
  unfold cntF
  rw [done_new hf k _ h0]
  by_cases c : j ≠ 0
  · by_cases d : hf j = hf k
    · rw [if_pos (hm.2 ⟨c, hj, d⟩), d, hk]
      simp [c]
    · rw [if_neg (fun h => d (hm.1 h).2.2)]
      have : (hf k == hf j) = false := by simpa using fun e => d e.symm
      rw [this, Bool.false_or]
      rfl
  · rw [if_neg (fun h => c h.1), if_neg (fun h => c h.1), if_neg (fun h => c (hm.1 h).1)]
theorem cnt_all (hf : Nat → Nat) (N j : Nat) (h0 : j ≠ 0) (hj : j < N) : cntF hf N j = 1 := by
  unfold cntF
  exact if_pos ⟨h0, (doneB_iff hf N _).2 ⟨j, h0, hj, rfl⟩⟩
theorem prevs_nodup (hf : Nat → Nat) (h : Nat) : ∀ n, (prevs hf h n).Nodup
  | 0 => List.nodup_nil
  | n + 1 => by
    unfold prevs
    split
    · refine List.nodup_cons.2 ⟨fun hm => ?_, prevs_nodup hf h n⟩
      have := ((prevs_mem hf h n n).1 hm).2.1
      omega
    · exact prevs_nodup hf h n
theorem take_mem {l : List Nat} (hn : l.Nodup) (t j : Nat) (ht : t < l.length) : (j ∈ l.take (t + 1)) ↔ (j = l[t] ∨ j ∈ l.take t) := by
  rw [List.take_succ_eq_append_getElem ht, List.mem_append]
  simp [or_comm]
theorem take_not {l : List Nat} (hn : l.Nodup) (t : Nat) (ht : t < l.length) : l[t] ∉ l.take t := by
  intro hm
  obtain ⟨i, hi, e⟩ := List.mem_iff_getElem.1 hm
  rw [List.length_take] at hi
  rw [List.getElem_take] at e
  exact (List.pairwise_iff_getElem.1 hn i t (by omega) ht (by omega)) e

/-! A block of numbers of eight bytes. -/
def rowI (n : Nat) (f : Nat → Nat) : Array Value := ((List.range n).map fun j => Value.int .i64 (f j : Int)).toArray
def RowC (W : World) (g n : Nat) (f : Nat → Nat) : Prop := W.heap[g]? = some (.cells (rowI n f) 3 (0, 0))
theorem RowC.lt {W : World} {g n : Nat} {f : Nat → Nat} (h : RowC W g n f) : g < W.heap.size := (Array.getElem?_eq_some_iff.1 h).1
theorem RowC.cell {W : World} {g n : Nat} {f : Nat → Nat} (h : RowC W g n f) (j : Nat) (hj : j < n) : W.cell? ⟨g, j, none⟩ = some (.int .i64 (f j)) := by
  simp [World.cell?, show W.heap[g]? = _ from h, rowI, hj]
theorem RowC.fz {W : World} {g n : Nat} {f : Nat → Nat} (h : RowC W g n f) (j : Nat) : W.frozen? ⟨g, j, none⟩ = false := by simp [World.frozen?, show W.heap[g]? = _ from h]
theorem RowC.same {W W' : World} {g n : Nat} {f : Nat → Nat} (h : RowC W g n f) (e : W'.heap[g]? = W.heap[g]?) : RowC W' g n f := e.trans h
theorem rowI_congr {n : Nat} {f f' : Nat → Nat} (h : ∀ j, j < n → f j = f' j) : rowI n f = rowI n f' := by
  unfold rowI
  congr 1
  apply List.map_congr_left
  intro j hj
  rw [h j (List.mem_range.1 hj)]
theorem RowC.congr {W : World} {g n : Nat} {f f' : Nat → Nat} (h : RowC W g n f) (e : ∀ j, j < n → f j = f' j) : RowC W g n f' := by
  unfold RowC at *
  rw [h, rowI_congr e]
theorem rowI_set (n : Nat) (f : Nat → Nat) (j v : Nat) (hj : j < n) : (rowI n f).setIfInBounds j (.int .i64 (v : Int)) = rowI n (upd f j v) := by
  unfold rowI
  apply Array.ext
  · simp
  · intro i h1 h2
    simp at h1 h2
    rw [Array.getElem_setIfInBounds (by simpa using h1)]
    by_cases hi : j = i
    · subst hi; simp [upd]
    · have hi' : ¬ i = j := fun e => hi e.symm
      simp [upd, hi, hi']
theorem RowC.set {W : World} {g n : Nat} {f : Nat → Nat} (h : RowC W g n f) (j v : Nat) (hj : j < n) : RowC (W.setCell ⟨g, j, none⟩ (.int .i64 (v : Int))) g n (upd f j v) := by
  obtain ⟨hlt, hk⟩ := Array.getElem?_eq_some_iff.1 h
  show (W.heap.modify g _)[g]? = _
  rw [Array.getElem?_eq_getElem (by rw [Array.size_modify]; exact hlt), Array.getElem_modify_self, hk]
  simp only [← rowI_set n f j v hj]
  rfl
theorem made_zeroI (n : Nat) : madeCells (Value.int IntKind.i64 0).cells (n * 1) = rowI n (fun _ => 0) := by
  unfold madeCells rowI
  apply Array.ext
  · simp
  · intro i h1 h2
    simp [Value.cells, Nat.mod_one]
theorem makeI_any (n : Nat) (hn : n ≤ 256) (W : World) : (Instr.makeSlice 38 (.int .i64 (n : Int)) (.int .i64 (n : Int))).run Try.prog W = .ok (.slice (some ⟨W.heap.size, 0, none⟩) n n) (W.alloc (.cells (rowI n (fun _ => 0)) 3)) := by
  obtain ⟨i0, hi, hz0, hz1, hz2⟩ := info_parts Try.info3
  have h := run_make (P := Try.prog) W 38 3 i0 _ Try.underlying38 hi hz0 .i64 .i64 (n : Int) (n : Int) (by omega) (Int.le_refl _) (by rw [hz2]; omega) (by omega)
  rw [hz1, Int.toNat_natCast, made_zeroI] at h
  exact h
end Go.Proofs.Ytffmkkfacemchaa
