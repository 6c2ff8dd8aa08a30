/-
  Symbols one behind the other, as bytes and as cells; the first one that is wrong. No condition.
-/
import Derived.Test.YtackjpmpkklgiaaS7
namespace Go.Proofs.Ytackjpmpkklgiaa
open Go.RowKit
set_option linter.unusedVariables false

/-- What a symbol of the statement is made of. -/
structure E6 where
  b : Nat
  k : Nat
  v : Nat
  d : Bool
  x : Nat
  z : Nat
def E6.bytes (s : E6) : ByteArray := symB s.b s.k s.v s.d s.x s.z 0
def E6.sy (s : E6) : Sy := ⟨⟨#[120]⟩, (s.b : Int), (s.k : Int), (s.v : Int), s.d, (s.x : Int), (s.z : Int)⟩
def E6.ok (s : E6) : Prop := s.b ≤ 2 ∧ s.k ≤ 15 ∧ s.v ≤ 3 ∧ s.x < 18446744073709551616 ∧ s.z < 18446744073709551616
def Bs (f : Nat → E6) : Nat → ByteArray
  | 0 => ⟨#[]⟩
  | k + 1 => Bs f k ++ (f k).bytes
def Cs (f : Nat → E6) : Nat → List Value
  | 0 => []
  | k + 1 => Cs f k ++ (f k).sy.cells

theorem ba_ext {s t : ByteArray} (h : s.data.toList = t.data.toList) : s = t := by
  obtain ⟨⟨a⟩⟩ := s
  obtain ⟨⟨b⟩⟩ := t
  simp only at h
  rw [h]
theorem bytes_len (s : E6) : s.bytes.data.toList.length = 24 := by
  have h := symB_size s.b s.k s.v s.x s.z 0 s.d
  show (symB s.b s.k s.v s.d s.x s.z 0).data.toList.length = 24
  rw [← h]; simp
theorem Bs_list (f : Nat → E6) (k : Nat) : (Bs f (k + 1)).data.toList = (Bs f k).data.toList ++ (f k).bytes.data.toList := by
  show (Bs f k ++ (f k).bytes).data.toList = _
  simp
theorem Bs_len (f : Nat → E6) : ∀ k, (Bs f k).data.toList.length = k * 24
  | 0 => rfl
  | k + 1 => by rw [Bs_list, List.length_append, Bs_len f k, bytes_len]; omega
theorem Bs_size (f : Nat → E6) (k : Nat) : (Bs f k).size = 24 * k := by
  have h := Bs_len f k
  have e : (Bs f k).data.toList.length = (Bs f k).size := by simp
  omega
theorem Bs_split (f : Nat → E6) : ∀ (n k : Nat), k < n → ∃ R, (Bs f n).data.toList = (Bs f k).data.toList ++ ((f k).bytes.data.toList ++ R)
  | 0, k, h => absurd h (by omega)
  | n + 1, k, h => by
    by_cases e : k = n
    · subst e
      exact ⟨[], by rw [Bs_list, List.append_nil]⟩
    · obtain ⟨R, hR⟩ := Bs_split f n k (by omega)
      exact ⟨R ++ (f n).bytes.data.toList, by rw [Bs_list, hR]; simp⟩
theorem ext_at {s : ByteArray} {f : Nat → E6} {j : Nat} {e R : List UInt8} (h : s.data.toList = (Bs f j).data.toList ++ (e ++ R)) (he : e.length = 24) : (s.extract (j * 24) ((j + 1) * 24)).data.toList = e := by
  have := part_of _ e R s h
  rw [Bs_len, he, show j * 24 + 24 = (j + 1) * 24 by omega] at this
  exact this
theorem Bs_at (f : Nat → E6) (n j : Nat) (h : j < n) : (Bs f n).extract (j * 24) ((j + 1) * 24) = (f j).bytes := by
  obtain ⟨R, hR⟩ := Bs_split f n j h
  exact ba_ext (ext_at hR (bytes_len _))

theorem tab_x : txt ⟨#[120, 0]⟩ ((0 : Nat) : Int) 32 = (⟨#[120]⟩, true) := by kernel_rfl
theorem tab_9 : (txt ⟨#[120, 0]⟩ (num ⟨#[9, 0, 0, 0]⟩) 32).2 = false := by kernel_rfl

theorem bytes_sym (s : E6) (h : s.ok) : symF s.bytes ⟨#[120, 0]⟩ = (s.sy, 0) := by
  obtain ⟨h1, h2, h3, h4, h5⟩ := h
  exact symF_symB s.b s.k s.v s.x s.z 0 s.d _ _ h1 h2 h3 h4 h5 (by omega) tab_x

theorem each_ok (f : Nat → E6) (s : ByteArray) (n : Nat) (hf : ∀ j, j < n → (f j).ok) (hs : ∀ j, j < n → s.extract (j * 24) ((j + 1) * 24) = (f j).bytes) : ∀ x ∈ eachL s 24 n, (symF x.2 ⟨#[120, 0]⟩).2 = 0 := by
  intro x hx
  unfold eachL at hx
  obtain ⟨j, hj, rfl⟩ := List.mem_map.1 hx
  have hj' := List.mem_range.1 hj
  show (symF (s.extract (j * 24) ((j + 1) * 24)) ⟨#[120, 0]⟩).2 = 0
  rw [hs j hj', bytes_sym _ (hf j hj')]
theorem each_cells (f : Nat → E6) (s : ByteArray) : ∀ n, (∀ j, j < n → (f j).ok) → (∀ j, j < n → s.extract (j * 24) ((j + 1) * 24) = (f j).bytes) → cellsL ⟨#[120, 0]⟩ (eachL s 24 n) = Cs f n
  | 0, _, _ => rfl
  | n + 1, hf, hs => by
    rw [eachL_succ, cellsL_snoc, each_cells f s n (fun j hj => hf j (by omega)) (fun j hj => hs j (by omega))]
    show _ ++ (symF (s.extract (n * 24) ((n + 1) * 24)) ⟨#[120, 0]⟩).1.cells = _
    rw [hs n (by omega), bytes_sym _ (hf n (by omega))]
    rfl

/-- The bytes with one symbol's name changed. -/
def wrongB (f : Nat → E6) (n k : Nat) : ByteArray := ((Bs f n).extract 0 (24 * k) ++ ⟨#[9]⟩) ++ (Bs f n).extract (24 * k + 1) (24 * n)
theorem bytes_head (s : E6) : ∃ r, s.bytes.data.toList = 0 :: 0 :: 0 :: 0 :: r := by
  refine ⟨(enc (s.b * 16 + s.k) 1 ++ (enc s.v 1 ++ (enc (if s.d then 1 else 0) 2 ++ (enc s.x 8 ++ enc s.z 8)))), ?_⟩
  show (symB s.b s.k s.v s.d s.x s.z 0).data.toList = _
  rw [symB_list]
  rfl
theorem wrong_list (f : Nat → E6) (n k : Nat) (h : k < n) : ∃ r R, (f k).bytes.data.toList = 0 :: 0 :: 0 :: 0 :: r ∧ (wrongB f n k).data.toList = (Bs f k).data.toList ++ ((9 :: 0 :: 0 :: 0 :: r) ++ R) := by
  obtain ⟨R, hR⟩ := Bs_split f n k h
  obtain ⟨r, hr⟩ := bytes_head (f k)
  refine ⟨r, R, hr, ?_⟩
  have hl := Bs_len f k
  have hn := Bs_len f n
  have e : (wrongB f n k).data.toList = ((Bs f n).extract 0 (24 * k)).data.toList ++ 9 :: ((Bs f n).extract (24 * k + 1) (24 * n)).data.toList := by
    unfold wrongB
    simp
  rw [e, extract_list, extract_list, hR]
  have hb := bytes_len (f k)
  rw [hR] at hn
  simp only [List.length_append] at hn
  have t1 : List.take (24 * k - 0) (List.drop 0 ((Bs f k).data.toList ++ ((f k).bytes.data.toList ++ R))) = (Bs f k).data.toList := by
    rw [List.drop_zero, show 24 * k - 0 = (Bs f k).data.toList.length by omega, List.take_left]
  have t2 : List.drop (24 * k + 1) ((Bs f k).data.toList ++ ((f k).bytes.data.toList ++ R)) = (f k).bytes.data.toList.drop 1 ++ R := by
    rw [show 24 * k + 1 = (Bs f k).data.toList.length + 1 by omega, ← List.drop_drop, List.drop_left, List.drop_append_of_le_length (by omega)]
  rw [t1, t2, List.take_of_length_le (by rw [List.length_append, List.length_drop]; omega), hr]
  rfl
theorem wrong_size (f : Nat → E6) (n k : Nat) (h : k < n) : (wrongB f n k).size = 24 * n := by
  unfold wrongB
  simp only [ByteArray.size_append, ByteArray.size_extract, Bs_size]
  show min (24 * k) (24 * n) - 0 + 1 + (min (24 * n) (24 * n) - (24 * k + 1)) = 24 * n
  omega
theorem wrong_at (f : Nat → E6) (n k : Nat) (h : k < n) (j : Nat) (hj : j < k) : (wrongB f n k).extract (j * 24) ((j + 1) * 24) = (f j).bytes := by
  obtain ⟨r, R, _, hw⟩ := wrong_list f n k h
  obtain ⟨R', hR'⟩ := Bs_split f k j hj
  rw [hR'] at hw
  exact ba_ext (ext_at (f := f) (e := (f j).bytes.data.toList) (R := R' ++ ((9 :: 0 :: 0 :: 0 :: r) ++ R)) (by rw [hw]; simp) (bytes_len _))
theorem wrong_sym (f : Nat → E6) (n k : Nat) (h : k < n) : (symF ((wrongB f n k).extract (k * 24) ((k + 1) * 24)) ⟨#[120, 0]⟩).2 = 25 := by
  obtain ⟨r, R, hr, hw⟩ := wrong_list f n k h
  have hb := bytes_len (f k)
  rw [hr] at hb
  have e := ext_at hw (by simpa using hb)
  have e4 : ((wrongB f n k).extract (k * 24) ((k + 1) * 24)).extract 0 4 = ⟨#[9, 0, 0, 0]⟩ := by
    apply ba_ext
    rw [extract_list, e]
    rfl
  unfold symF
  rw [e4, tab_9]
  rfl
end Go.Proofs.Ytackjpmpkklgiaa
