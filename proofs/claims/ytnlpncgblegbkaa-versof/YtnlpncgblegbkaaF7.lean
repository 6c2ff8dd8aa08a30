/-
  Layer 12, VersOf: what is found among the rows; rows as slices; a version's bits.
-/
import Derived.Test.YtnlpncgblegbkaaF5
import Derived.Test.YtnlpncgblegbkaaH1
namespace Go.Proofs.Ytnlpncgblegbkaa
open Go.RowKit
set_option linter.unusedVariables false

theorem flat_at {α : Type} [Inhabited α] (f : α → List Value) (m : Nat) (hf : ∀ x, (f x).length = m) : ∀ (l : List α) (j i : Nat), j < l.length → i < m → (l.flatMap f)[j * m + i]? = (f l[j]!)[i]?
  | [], j, i, h, _ => absurd h (by simp)
  | x :: l, 0, i, _, hi => by
    rw [List.flatMap_cons, Nat.zero_mul, Nat.zero_add, List.getElem?_append_left (by rw [hf]; exact hi)]
    rfl
  | x :: l, j + 1, i, h, hi => by
    have e : (j + 1) * m + i = (f x).length + (j * m + i) := by rw [hf, Nat.succ_mul]; omega
    rw [List.flatMap_cons, e, List.getElem?_append_right (by omega), Nat.add_sub_cancel_left, flat_at f m hf l j i (by simpa using h) hi]
    rfl

theorem slD_of {W : World} {base : Nat} {v : Value} {l : List Df} {k : Nat} (h : W.ownsRow base 38 2 v k (dfCs l)) (hl : l.length = k) : SlD W v l ∧ ∃ a c, v = .slice a k c := by
  rcases h.2 with ⟨rfl, h0⟩ | ⟨g, cap, cur, rfl, hb, hg, hc1, hc2, _⟩
  · obtain rfl : l = [] := List.length_eq_zero_iff.1 (by omega)
    exact ⟨.inl ⟨rfl, rfl⟩, _, _, by rw [h0]⟩
  · refine ⟨.inr ⟨g, 0, cap, by rw [hl], (Array.getElem?_eq_some_iff.1 hg).1, fun j hj i u hu => ?_⟩, _, _, rfl⟩
    have hi : i < 2 := by
      have := (List.getElem?_eq_some_iff.1 hu).1
      simpa [dfC] using this
    have e : (0 + j * 2 + i) = j * 2 + i := by omega
    rw [e]
    refine (h.cellAt _ (by omega)).trans ?_
    unfold dfCs
    rw [flat_at dfC 2 (fun _ => rfl) l j i hj hi, hu]
theorem slN_of [Inhabited Nd] {W : World} {base : Nat} {v : Value} {l : List Nd} {k : Nat} (h : W.ownsRow base 48 4 v k (l.flatMap Nd.cells)) (hl : l.length = k) : SlN W v l ∧ ∃ a c, v = .slice a k c := by
  rcases h.2 with ⟨rfl, h0⟩ | ⟨g, cap, cur, rfl, hb, hg, hc1, hc2, _⟩
  · obtain rfl : l = [] := List.length_eq_zero_iff.1 (by omega)
    exact ⟨.inl ⟨rfl, rfl⟩, _, _, by rw [h0]⟩
  · refine ⟨.inr ⟨g, 0, cap, by rw [hl], (Array.getElem?_eq_some_iff.1 hg).1, fun j hj i u hu => ?_⟩, _, _, rfl⟩
    have hi : i < 4 := by
      have := (List.getElem?_eq_some_iff.1 hu).1
      simpa [Nd.cells] using this
    have e : (0 + j * 4 + i) = j * 4 + i := by omega
    rw [e]
    refine (h.cellAt _ (by omega)).trans ?_
    rw [flat_at Nd.cells 4 (fun _ => rfl) l j i hj hi, hu]
/-- The numbers of bytes, two each. -/
def nums (b : ByteArray) (N : Nat) : List Int := (eachL b 2 N).map fun x => num x.2
theorem nums_len (b : ByteArray) (N : Nat) : (nums b N).length = N := by simp [nums, eachL_length]
theorem slI_of {W : World} {base : Nat} {v : Value} {b : ByteArray} {k : Nat} (h : W.ownsRow base 3 1 v k (cellsI (eachL b 2 k))) : SlI W v (nums b k) ∧ ∃ a c, v = .slice a k c := by
  rcases h.2 with ⟨rfl, h0⟩ | ⟨g, cap, cur, rfl, hb, hg, hc1, hc2, _⟩
  · subst h0
    exact ⟨.inl ⟨rfl, rfl⟩, _, _, rfl⟩
  · refine ⟨.inr ⟨g, 0, cap, by rw [nums_len], (Array.getElem?_eq_some_iff.1 hg).1, fun j hj => ?_⟩, _, _, rfl⟩
    rw [nums_len] at hj
    have e : (0 + j) = j := by omega
    rw [e]
    refine (h.cellAt _ (by omega)).trans ?_
    have hj2 : j < (eachL b 2 k).length := by rw [eachL_length]; exact hj
    have hj3 : j < (nums b k).length := by rw [nums_len]; exact hj
    rw [getElem!_pos (nums b k) j hj3]
    simp [cellsI, nums, List.getElem?_eq_getElem hj2]
theorem DL_len (z : Nat → Int) (k : Nat) : (DL z k).length = k := by simp [DL]
theorem NL_len (z : Nat → Int) (k : Nat) : (NL z k).length = k := by simp [NL]
theorem DL_at (z : Nat → Int) (k j : Nat) (h : j < k) : (DL z k)[j]! = (z j, nmD 100 j) := by
  rw [getElem!_pos _ j (by rw [DL_len]; exact h)]; simp [DL]
theorem NL_at [Inhabited Nd] (z : Nat → Int) (k j : Nat) (h : j < k) : (NL z k)[j]! = ⟨z j, ⟨#[102]⟩, nmD 110 j, false⟩ := by
  rw [getElem!_pos _ j (by rw [NL_len]; exact h)]; simp [NL]

theorem findD_none (z : Nat → Int) (c : Int) : ∀ k, (∀ j, j < k → z j ≠ c) → (DL z k).find? (fun y => y.1 == c) = none := by
  intro k h
  rw [List.find?_eq_none]
  intro x hx
  simp [DL] at hx
  obtain ⟨j, hj, rfl⟩ := hx
  simpa using h j hj
theorem findN_none (z : Nat → Int) (c : Int) : ∀ k, (∀ j, j < k → z j ≠ c) → (NL z k).find? (fun y => y.n == c) = none := by
  intro k h
  rw [List.find?_eq_none]
  intro x hx
  simp [NL] at hx
  obtain ⟨j, hj, rfl⟩ := hx
  simpa using h j hj
theorem findD_some (z : Nat → Int) (c : Int) (j : Nat) (hz : z j = c) (h0 : ∀ i, i < j → z i ≠ c) : ∀ k, j < k → (DL z k).find? (fun y => y.1 == c) = some (z j, nmD 100 j)
  | 0, h => absurd h (Nat.not_lt_zero _)
  | k + 1, h => by
    have e : DL z (k + 1) = DL z k ++ [(z k, nmD 100 k)] := by simp [DL, List.range_succ]
    rw [e, List.find?_append]
    by_cases hj : j < k
    · rw [findD_some z c j hz h0 k hj]; rfl
    · obtain rfl : j = k := by omega
      rw [findD_none z c j h0]
      simp [List.find?, hz]
theorem findN_some (z : Nat → Int) (c : Int) (j : Nat) (hz : z j = c) (h0 : ∀ i, i < j → z i ≠ c) : ∀ k, j < k → (NL z k).find? (fun y => y.n == c) = some ⟨z j, ⟨#[102]⟩, nmD 110 j, false⟩
  | 0, h => absurd h (Nat.not_lt_zero _)
  | k + 1, h => by
    have e : NL z (k + 1) = NL z k ++ [⟨z k, ⟨#[102]⟩, nmD 110 k, false⟩] := by simp [NL, List.range_succ]
    rw [e, List.find?_append]
    by_cases hj : j < k
    · rw [findN_some z c j hz h0 k hj]; rfl
    · obtain rfl : j = k := by omega
      rw [findN_none z c j h0]
      simp [List.find?, hz]

theorem num_lt2 (s : ByteArray) (h : s.size ≤ 2) : (num s).toNat < 65536 := by
  rw [num_small s (by omega), Int.toNat_natCast]
  have h1 := dec_lt s.data.toList
  have h2 : s.data.toList.length ≤ 2 := by simpa using h
  have h3 : 256 ^ s.data.toList.length ≤ 256 ^ 2 := Nat.pow_le_pow_right (by omega) h2
  omega
theorem low15 (n : Nat) (h : n < 65536) : bits BinOp.and IntKind.i64 (n : Int) 32767 = ((n % 32768 : Nat) : Int) := by
  have e : ((BitVec.ofInt 64 (n : Int)) &&& (BitVec.ofInt 64 32767)).toNat = n % 32768 := by
    rw [BitVec.toNat_and]
    have e1 : (BitVec.ofInt 64 (n : Int)).toNat = n := by simp; omega
    have e2 : (BitVec.ofInt 64 32767).toNat = 2 ^ 15 - 1 := by decide
    rw [e1, e2, Nat.and_two_pow_sub_one_eq_mod]
  show IntKind.i64.wrap (((BitVec.ofInt 64 (n : Int)) &&& (BitVec.ofInt 64 32767)).toNat : Int) = _
  rw [e, IntKind.wrap_i64]
  omega
theorem high15 (n : Nat) (h : n < 65536) : (bits BinOp.and IntKind.i64 (n : Int) 32768 != 0) = decide (32768 ≤ n) := by
  have e : ((BitVec.ofInt 64 (n : Int)) &&& (BitVec.ofInt 64 32768)).toNat = n / 32768 * 32768 := by
    rw [BitVec.toNat_and]
    have e1 : (BitVec.ofInt 64 (n : Int)).toNat = n := by simp; omega
    have e2 : (BitVec.ofInt 64 32768).toNat = 2 ^ 15 := by decide
    have e3 : n &&& 2 ^ 15 = n / 32768 % 2 * 32768 := and_field n 1 15
    rw [e1, e2, e3]
    omega
  have e3 : bits BinOp.and IntKind.i64 (n : Int) 32768 = ((n / 32768 * 32768 : Nat) : Int) := by
    show IntKind.i64.wrap (((BitVec.ofInt 64 (n : Int)) &&& (BitVec.ofInt 64 32768)).toNat : Int) = _
    rw [e, IntKind.wrap_i64]
    omega
  rw [e3]
  by_cases hn : 32768 ≤ n
  · have : n / 32768 = 1 := by omega
    rw [this]; simp [hn]
  · have : n / 32768 = 0 := by omega
    rw [this]; simp [hn]

/-- What Of answers of the statement's table, and what the statement's searches look for. -/
theorem ofF_d (z y : Nat → Int) (K1 K2 n j : Nat) (hn : n < 65536) (hj : j < K1) (hz : z j = ((n % 32768 : Nat) : Int)) (h0 : ∀ i, i < j → z i ≠ ((n % 32768 : Nat) : Int)) :
    ofF (DL z K1) (NL y K2) (n : Int) = (nmD 100 j, ⟨#[]⟩, decide (32768 ≤ n)) := by
  unfold ofF
  rw [low15 n hn, findD_some z _ j hz h0 K1 hj, high15 n hn]
theorem ofF_n (z y : Nat → Int) (K1 K2 n j : Nat) (hn : n < 65536) (hd : ∀ i, i < K1 → z i ≠ ((n % 32768 : Nat) : Int)) (hj : j < K2) (hz : y j = ((n % 32768 : Nat) : Int)) (h0 : ∀ i, i < j → y i ≠ ((n % 32768 : Nat) : Int)) :
    ofF (DL z K1) (NL y K2) (n : Int) = (nmD 110 j, ⟨#[102]⟩, decide (32768 ≤ n)) := by
  unfold ofF
  rw [low15 n hn, findD_none z _ K1 hd, findN_some y _ j hz h0 K2 hj, high15 n hn]
theorem ofF_0 (z y : Nat → Int) (K1 K2 n : Nat) (hn : n < 65536) (hd : ∀ i, i < K1 → z i ≠ ((n % 32768 : Nat) : Int)) (hy : ∀ i, i < K2 → y i ≠ ((n % 32768 : Nat) : Int)) :
    ofF (DL z K1) (NL y K2) (n : Int) = (⟨#[]⟩, ⟨#[]⟩, decide (32768 ≤ n)) := by
  unfold ofF
  rw [low15 n hn, findD_none z _ K1 hd, findN_none y _ K2 hy, high15 n hn]
theorem ofF_h (z y : Nat → Int) (K1 K2 n : Nat) (hn : n < 65536) : (ofF (DL z K1) (NL y K2) (n : Int)).2.2 = decide (32768 ≤ n) := by
  unfold ofF
  rw [high15 n hn]
  split
  · rfl
  · split <;> rfl
end Go.Proofs.Ytnlpncgblegbkaa
