/-
  Layer 15: the document's Read of any bytes.
-/
import Derived.Test.YtghbkjdjginfjaaR2
import Derived.Deep.RegionHeldLaw
import Derived.Deep.AppendLies
import Derived.Deep.QuietTactic
import Derived.BigQuiet
namespace Go.Proofs.Ytghbkjdjginfjaa
open Go.RowKit
set_option linter.unusedVariables false

theorem Try.info27 : (Try.prog.info? 27).map (fun i => (i.zero, i.size, i.bytes)) = some (some (rlv (0, 0, 0, 0)), 4, 32) := by kernel_rfl

theorem sub_part (b : ByteArray) (k i j : Nat) (hj : j ≤ 24) (h : (k + 1) * 24 ≤ b.size) : (b.extract (k * 24) ((k + 1) * 24)).extract i j = b.extract (k * 24 + i) (k * 24 + j) := by
  apply ByteArray.ext
  apply Array.toList_inj.1
  rw [Lib.extract_data, Lib.extract_data, Lib.extract_data, List.drop_take, List.drop_drop, List.take_take]
  congr 1
  omega
theorem rel_cases (a k s d n r : Int) (hr : a % 8 = r) (s0 : 0 ≤ s) :
      (k < 2 ∧ ¬ k = 3 ∧ n ≤ s ∧ r = 0 ∧ relN a k s d n = ((0, 0, 0, 0), 22)) ∨
      (k < 2 ∧ ¬ k = 3 ∧ n ≤ s ∧ ¬ r = 0 ∧ relN a k s d n = ((0, 0, 0, 0), 22)) ∨
      (k < 2 ∧ ¬ k = 3 ∧ ¬ n ≤ s ∧ r = 0 ∧ relN a k s d n = ((0, 0, 0, 0), 22)) ∨
      (k < 2 ∧ ¬ k = 3 ∧ ¬ n ≤ s ∧ ¬ r = 0 ∧ relN a k s d n = ((0, 0, 0, 0), 22)) ∨
      (¬ k < 2 ∧ 5 < k ∧ ¬ k = 3 ∧ n ≤ s ∧ r = 0 ∧ relN a k s d n = ((0, 0, 0, 0), 22)) ∨
      (¬ k < 2 ∧ 5 < k ∧ ¬ k = 3 ∧ n ≤ s ∧ ¬ r = 0 ∧ relN a k s d n = ((0, 0, 0, 0), 22)) ∨
      (¬ k < 2 ∧ 5 < k ∧ ¬ k = 3 ∧ ¬ n ≤ s ∧ r = 0 ∧ relN a k s d n = ((0, 0, 0, 0), 22)) ∨
      (¬ k < 2 ∧ 5 < k ∧ ¬ k = 3 ∧ ¬ n ≤ s ∧ ¬ r = 0 ∧ relN a k s d n = ((0, 0, 0, 0), 22)) ∨
      (k = 3 ∧ 0 < s ∧ r = 0 ∧ relN a k s d n = ((0, 0, 0, 0), 4)) ∨
      (k = 3 ∧ 0 < s ∧ ¬ r = 0 ∧ relN a k s d n = ((0, 0, 0, 0), 4)) ∨
      (k = 3 ∧ ¬ 0 < s ∧ ¬ r = 0 ∧ relN a k s d n = ((0, 0, 0, 0), 13)) ∨
      (¬ k < 2 ∧ ¬ 5 < k ∧ ¬ k = 3 ∧ n ≤ s ∧ r = 0 ∧ relN a k s d n = ((0, 0, 0, 0), 5)) ∨
      (¬ k < 2 ∧ ¬ 5 < k ∧ ¬ k = 3 ∧ n ≤ s ∧ ¬ r = 0 ∧ relN a k s d n = ((0, 0, 0, 0), 5)) ∨
      (¬ k < 2 ∧ ¬ 5 < k ∧ ¬ k = 3 ∧ ¬ n ≤ s ∧ ¬ r = 0 ∧ relN a k s d n = ((0, 0, 0, 0), 13)) ∨
      (k = 3 ∧ ¬ 0 < s ∧ r = 0 ∧ relN a k s d n = ((a, k, s, d), 0)) ∨
      (¬ k < 2 ∧ ¬ 5 < k ∧ ¬ k = 3 ∧ ¬ n ≤ s ∧ r = 0 ∧ relN a k s d n = ((a, k, s, d), 0)) := by
  have H : relN a k s d n = if k < 2 ∨ 5 < k then ((0, 0, 0, 0), 22) else if k = 3 ∧ s ≠ 0 then ((0, 0, 0, 0), 4) else if k ≠ 3 ∧ (n < 0 ∨ n ≤ s) then ((0, 0, 0, 0), 5) else if a % 8 ≠ 0 then ((0, 0, 0, 0), 13) else ((a, k, s, d), 0) := rfl
  generalize relN a k s d n = v at *
  by_cases c1 : k < 2
  · rw [if_pos (by omega)] at H
    subst H
    by_cases c2 : n ≤ s <;> by_cases c3 : r = 0 <;> simp [c1, c2, c3, show ¬ k = 3 by omega]
  by_cases c2 : 5 < k
  · rw [if_pos (by omega)] at H
    subst H
    by_cases c3 : n ≤ s <;> by_cases c4 : r = 0 <;> simp [c1, c2, c3, c4, show ¬ k = 3 by omega]
  rw [if_neg (by omega)] at H
  by_cases c3 : k = 3
  · by_cases c4 : 0 < s
    · rw [if_pos ⟨c3, by omega⟩] at H
      subst H
      by_cases c5 : r = 0 <;> simp [c3, c4, c5]
    · rw [if_neg (by omega), if_neg (by omega)] at H
      by_cases c5 : r = 0
      · rw [if_neg (by omega)] at H
        subst H
        simp [c3, c4, c5]
      · rw [if_pos (by omega)] at H
        subst H
        simp [c3, c4, c5]
  · rw [if_neg (by omega)] at H
    by_cases c4 : n ≤ s
    · rw [if_pos (by omega)] at H
      subst H
      by_cases c5 : r = 0 <;> simp [c1, c2, c3, c4, c5]
    · rw [if_neg (by omega)] at H
      by_cases c5 : r = 0
      · rw [if_neg (by omega)] at H
        subst H
        simp [c1, c2, c3, c4, c5]
      · rw [if_pos (by omega)] at H
        subst H
        simp [c1, c2, c3, c4, c5]

/-- What the document's Read answers. -/
def RReadPost (w : World) (b : ByteArray) (sy : Int) (e : Ending) (w' : World) : Prop :=
  ((b.size % 24 ≠ 0 ∧ e = .returned (.tuple #[.slice none 0 0, .int .i64 4, .int .u64 0])) ∨ (b.size % 24 = 0 ∧ 256 < b.size / 24 ∧ e = .returned (.tuple #[.slice none 0 0, .int .i64 6, .int .u64 0])) ∨
    (b.size % 24 = 0 ∧ b.size / 24 ≤ 256 ∧
      ((∃ v, e = .returned (.tuple #[v, .int .i64 0, .int .u64 0]) ∧ w'.ownsRow w.heap.size 27 4 v (b.size / 24) (cellsL sy (eachL b 24 (b.size / 24))) ∧ ∀ x ∈ eachL b 24 (b.size / 24), (relF x.2 sy).2 = 0) ∨
       (∃ q x, q ++ [x] <+: eachL b 24 (b.size / 24) ∧ (∀ y ∈ q, (relF y.2 sy).2 = 0) ∧ (relF x.2 sy).2 ≠ 0 ∧ e = .returned (.tuple #[.slice none 0 0, .int .i64 (relF x.2 sy).2, .int .u64 ((x.1 : Int) * 24)]))))) ∧
  Below w.heap.size w w'

theorem rread_bad {w wr : World} {b : ByteArray} {sy : Int} {n k : Nat} {c : Int} {e : Ending} (h0 : b.size % 24 = 0) (hn : b.size / 24 = n) (hn256 : n ≤ 256) (hk : k < n) (hok : ∀ y ∈ eachL b 24 k, (relF y.2 sy).2 = 0) (hx : (relF (b.extract (k * 24) ((k + 1) * 24)) sy).2 = c) (hc : c ≠ 0)
    (he : e = .returned (.tuple #[.slice none 0 0, .int .i64 c, .int .u64 ((k : Int) * 24)])) (hB : Below w.heap.size w wr) : RReadPost w b sy e wr := by
  refine ⟨.inr (.inr ⟨h0, by omega, .inr ⟨eachL b 24 k, (k, b.extract (k * 24) ((k + 1) * 24)), ?_, hok, ?_, ?_⟩⟩), hB⟩
  · rw [← eachL_succ, hn]; exact eachL_prefix b 24 hk
  · rw [hx]; exact hc
  · rw [he, hx]

theorem results_three' {P : Program} {fn : Func} {p q r : Tmp} (h : fn.results = #[.tmp p, .tmp q, .tmp r]) (tmps : Array Value) (w : World) :
    (results fn tmps).run P w = .ok (.tuple #[tmps.getD p undef, tmps.getD q undef, tmps.getD r undef]) w := by
  simp [results, h]

set_option maxHeartbeats 2000000 in
theorem rread_form (b : ByteArray) (sy : Int) (w : World) (hb : b.size ≤ 140737488351232) (h : b.size % 24 ≠ 0) : Calls Try.prog 10 #[.string b, .int .i64 sy] w (RReadPost w b sy) := by
  have h0 : ((((b.size : Nat) : Int)) % 24 != 0) = true := by simp; omega
  have HH : Hid (b.size % 24 ≠ 0) := h
  clear h
  go_enter Try.func10, Try.ntmps10
  go_wp2
  exact ⟨rfl, _, results_three' rfl _ _, .inl ⟨HH.out, rfl⟩, Below.refl _ _⟩

set_option maxHeartbeats 2000000 in
theorem rread_many (b : ByteArray) (sy : Int) (w : World) (hb : b.size ≤ 140737488351232) (h : b.size % 24 = 0) (h2 : 256 < b.size / 24) : Calls Try.prog 10 #[.string b, .int .i64 sy] w (RReadPost w b sy) := by
  have h0 : ((((b.size : Nat) : Int)) % 24 != 0) = false := by simp; omega
  have h1 : (256 : Int) < ((b.size : Nat) : Int) / 24 := by omega
  have HH : Hid (b.size % 24 = 0 ∧ 256 < b.size / 24) := ⟨h, h2⟩
  clear h h2
  go_enter Try.func10, Try.ntmps10
  go_wp2
  exact ⟨rfl, _, results_three' rfl _ _, .inr (.inl ⟨HH.out.1, HH.out.2, rfl⟩), Below.refl _ _⟩

theorem row_ge {W : World} {base k size : Nat} {e : TypeId} {v : Value} {xs : List Value} (h : W.ownsRow base e size v k xs) : ∀ j, v.ownBlock = some j → base ≤ j := by
  intro j ej
  rcases h.2 with ⟨rfl, _⟩ | ⟨g, cap, cur, rfl, hb, _⟩
  · simp [Value.ownBlock] at ej
  · obtain rfl : g = j := by simpa [Value.ownBlock] using ej
    exact hb
theorem own_d {W : World} {base k size : Nat} {e : TypeId} {v : Value} {xs : List Value} (h : W.ownsRow base e size v k xs) : W.drew.ownsRow base e size v k xs := h
theorem size_d {w W : World} {o o' : Obj} (h : w.heap.size ≤ W.heap.size) : w.heap.size ≤ ((W.alloc o).alloc o').drew.heap.size := by
  show w.heap.size ≤ ((W.alloc o).alloc o').heap.size
  rw [World.size_alloc, World.size_alloc]
  omega
theorem news4 (W : World) (x : Rl) (t : TypeId) : ∀ j u, (rlc x)[j]? = some u → ((W.alloc (.cells #[.int .u64 x.1, .int .i64 x.2.1, .int .i64 x.2.2.1, .int .u64 x.2.2.2] t)).drew).cell? ((⟨W.heap.size, 0, none⟩ : Addr).add j) = some u := fun j u hu =>
  World.news_of_block (w := (W.alloc (.cells #[.int .u64 x.1, .int .i64 x.2.1, .int .i64 x.2.2.1, .int .u64 x.2.2.2] t)).drew) (World.alloc_heap_new W (.cells #[.int .u64 x.1, .int .i64 x.2.1, .int .i64 x.2.2.1, .int .u64 x.2.2.2] t)) j u hu
theorem one4 (x : Rl) : ∀ u ∈ rlc x, u.oneCell' = true := by
  intro u hu
  simp [rlc] at hu
  rcases hu with rfl | rfl | rfl | rfl <;> rfl

end Go.Proofs.Ytghbkjdjginfjaa
