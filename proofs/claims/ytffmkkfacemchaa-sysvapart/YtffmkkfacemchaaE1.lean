/-
  Layer 1: Each, gone through by whatever loop.
-/
import Derived.Test.YtffmkkfacemchaaA2
import Derived.RangeFuncNested
import Derived.RangeFuncBound
import Derived.RangeFuncCalls
import Derived.RangeFuncLeaves
import Derived.RangeFuncBox
import Derived.Shelf.Abstract
import Derived.Shelf.RegionOpen
import Derived.OwnWalkIn
import Derived.TacticsInMore
import Derived.LoopNIn
import Derived.LoopIn
namespace Go.Proofs.Ytffmkkfacemchaa
open Go.RowKit Go.Shelf
attribute [local go_sem] Oper.semAt_some

set_option maxRecDepth 100000 in
set_option maxHeartbeats 2000000 in
theorem each_in (F : Fence) (n : Nat) (h24 : F.fn 37) (hro : F.round = none) (s : ByteArray) (m : Int) (w : World) :
    CallsIn F n Try.prog 37 #[.string s, .int .i64 m] w fun e w' => e = .returned (.func (.func 62) #[] #[.pointer (some ⟨w.heap.size + 1, 0, none⟩), .pointer (some ⟨w.heap.size, 0, none⟩)]) ∧ w' = (w.alloc (.cells #[.string s] 9)).alloc (.cells #[.int .i64 m] 3) := by
  refine callsIn_of_wp Try.func37 rfl h24 ?_ hro
  simp only [Try.ntmps37, List.size_toArray, List.length_cons, List.length_nil, Nat.reduceAdd, Nat.reduceSub, Array.replicate_succ, Array.replicate_zero, List.push_toArray, List.append_toArray, List.nil_append, List.cons_append]
  gi_wp2
  go_ret
  exact ⟨rfl, rfl⟩

/-- The first k parts of m bytes, with their numbers. -/
def eachL (s : ByteArray) (m k : Nat) : List (Nat × ByteArray) := (List.range k).map fun i => (i, s.extract (i * m) ((i + 1) * m))
theorem eachL_succ (s : ByteArray) (m k : Nat) : eachL s m (k + 1) = eachL s m k ++ [(k, s.extract (k * m) ((k + 1) * m))] := by simp [eachL, List.range_succ]
theorem eachL_length (s : ByteArray) (m k : Nat) : (eachL s m k).length = k := by simp [eachL]
theorem eachL_prefix (s : ByteArray) (m : Nat) {k n : Nat} (h : k ≤ n) : eachL s m k <+: eachL s m n := by
  obtain ⟨d, rfl⟩ := Nat.exists_eq_add_of_le h
  induction d with
  | zero => exact List.prefix_refl _
  | succ d ih =>
    exact (ih (by omega)).trans (by rw [← Nat.add_assoc, eachL_succ]; exact List.prefix_append _ _)

/-- The two blocks of Each are as they were. -/
def KZ (Z S : Nat) (A B : World) : Prop := B.heap[Z]? = A.heap[Z]? ∧ B.heap[S]? = A.heap[S]?
theorem KZ.refl (Z S : Nat) (A : World) : KZ Z S A A := ⟨rfl, rfl⟩
theorem KZ.trans {Z S : Nat} {A B C : World} (h : KZ Z S A B) (k : KZ Z S B C) : KZ Z S A C := ⟨k.1.trans h.1, k.2.trans h.2⟩
theorem KZ.cellZ {Z S : Nat} {A B : World} (h : KZ Z S A B) : B.cell? ⟨Z, 0, none⟩ = A.cell? ⟨Z, 0, none⟩ := World.cell?_of_block (a := ⟨Z, 0, none⟩) h.1
theorem KZ.cellS {Z S : Nat} {A B : World} (h : KZ Z S A B) : B.cell? ⟨S, 0, none⟩ = A.cell? ⟨S, 0, none⟩ := World.cell?_of_block (a := ⟨S, 0, none⟩) h.2

/-- A part, of which one knows how many bytes it has. -/
structure Part (m N : Nat) where
  i : Nat
  p : ByteArray
  hi : i < N
  hp : p.size = m
def Part.pl {m N : Nat} (x : Part m N) : Nat × ByteArray := (x.i, x.p)
theorem part_size (s : ByteArray) (m k N : Nat) (h : N * m ≤ s.size) (hk : k < N) : (s.extract (k * m) ((k + 1) * m)).size = m := by
  have h1 : (k + 1) * m ≤ N * m := Nat.mul_le_mul_right m hk
  have h2 : (k + 1) * m = k * m + m := Nat.succ_mul k m
  simp
  omega
def eachP (s : ByteArray) (m N : Nat) (h : N * m ≤ s.size) : (k : Nat) → k ≤ N → List (Part m N)
  | 0, _ => []
  | k + 1, hk => eachP s m N h k (by omega) ++ [⟨k, s.extract (k * m) ((k + 1) * m), hk, part_size s m k N h hk⟩]
theorem eachP_length (s : ByteArray) (m N : Nat) (h : N * m ≤ s.size) : ∀ (k : Nat) (hk : k ≤ N), (eachP s m N h k hk).length = k
  | 0, _ => rfl
  | k + 1, hk => by simp [eachP, eachP_length s m N h k (by omega)]
theorem eachP_pl (s : ByteArray) (m N : Nat) (h : N * m ≤ s.size) : ∀ (k : Nat) (hk : k ≤ N), (eachP s m N h k hk).map Part.pl = eachL s m k
  | 0, _ => rfl
  | k + 1, hk => by rw [eachL_succ, ← eachP_pl s m N h k (by omega)]; simp [eachP, Part.pl]
theorem eachP_prefix (s : ByteArray) (m N : Nat) (h : N * m ≤ s.size) (k : Nat) : ∀ (n : Nat) (hn : n ≤ N) (hk : k ≤ n), eachP s m N h k (by omega) <+: eachP s m N h n hn
  | 0, _, hk => by obtain rfl : k = 0 := by omega
                   exact List.prefix_refl _
  | n + 1, hn, hk => by
    by_cases e : k = n + 1
    · subst e; exact List.prefix_refl _
    · exact (eachP_prefix s m N h k n (by omega) (by omega)).trans (by simp [eachP])

abbrev encE {m N : Nat} (p : Part m N) : Array Value := #[.int .i64 (p.i : Int), .string p.p]

set_option maxRecDepth 100000 in
set_option maxHeartbeats 2000000 in
theorem each1_in (F : Fence) (n : Nat) (h37 : F.fn 62) (hro : F.round = none) (hn : 1 ≤ n) (l Z S : Nat) (s : ByteArray) (m N : Nat) (hm : 1 ≤ m) (hm1 : m ≤ 9223372036854775807) (hs : s.size ≤ 140737488351232) (hNm : N * m ≤ s.size) (hN : s.size / m = N) (J Jx : List (Part m N) → World → Prop)
    (hY : ∀ pre x W, J pre W → pre.length < N → YieldAt F (n - 1) Try.prog l (encE x) W fun e W' =>
      (e = .returned (.bool true) ∧ J (pre ++ [x]) W' ∧ KZ Z S W W') ∨ (e = .returned (.bool false) ∧ Jx (pre ++ [x]) W'))
    (W : World) (hZ : W.cell? ⟨Z, 0, none⟩ = some (.int .i64 (m : Int))) (hS : W.cell? ⟨S, 0, none⟩ = some (.string s)) (h0 : J [] W) :
    CallsIn F n Try.prog 62 #[.func (.yield l) #[] #[], .pointer (some ⟨Z, 0, none⟩), .pointer (some ⟨S, 0, none⟩)] W fun e W' => (∃ v, e = .returned v) ∧
      ((∃ ys, ys = eachP s m N hNm N (Nat.le_refl _) ∧ J ys W') ∨ (∃ pre, pre <+: eachP s m N hNm N (Nat.le_refl _) ∧ Jx pre W')) := by
  have hNi : ((s.size : Int)).tdiv (m : Int) = (N : Int) := by rw [← hN]; simp [Int.tdiv_eq_ediv_of_nonneg]
  have hNs : N ≤ s.size := by rw [← hN]; exact Nat.div_le_self _ _
  have HZ : Hid (W.cell? ⟨Z, 0, none⟩ = some (.int .i64 (m : Int))) := hZ
  have HS : Hid (W.cell? ⟨S, 0, none⟩ = some (.string s)) := hS
  have hmi : ¬ (m : Int) < 1 := by omega
  have hmz : ¬ (m : Int) = 0 := by omega
  have HN : Hid (N * m ≤ s.size) := hNm
  clear hN
  refine callsIn_of_wp Try.func62 rfl h37 ?_ hro
  simp only [Try.ntmps62, List.size_toArray, List.length_cons, List.length_nil, Nat.reduceAdd, Nat.reduceSub, Array.replicate_succ, Array.replicate_zero, List.push_toArray, List.append_toArray, List.nil_append, List.cons_append]
  gi_wp2
  gi_loopw [11] (fun i wr => ∃ k : Nat, ∃ hk : k ≤ N, i = .int .i64 k ∧ J (eachP s m N hNm k hk) wr ∧ KZ Z S W wr)
    (fun i _ => N - (intOf i).toNat)
  case atStart => exact ⟨0, Nat.zero_le _, rfl, h0, KZ.refl _ _ _⟩
  case round =>
    obtain ⟨k, hk, rfl, hJs, hnx⟩ := hrel
    by_cases hlt : k < N
    · have cZ : wr.cell? ⟨Z, 0, none⟩ = some (.int .i64 (m : Int)) := hnx.cellZ.trans HZ.out
      have cS : wr.cell? ⟨S, 0, none⟩ = some (.string s) := hnx.cellS.trans HS.out
      obtain ⟨o, ho⟩ : ∃ o : Nat, k * m = o := ⟨_, rfl⟩
      obtain ⟨o2, ho2⟩ : ∃ o2 : Nat, (k + 1) * m = o2 := ⟨_, rfl⟩
      have h12 : o2 = o + m := by rw [← ho, ← ho2, Nat.succ_mul]
      have h2s : o2 ≤ s.size := by rw [← ho2]; exact Nat.le_trans (Nat.mul_le_mul_right m hlt) HN.out
      have m1 : (k : Int) * (m : Int) = (o : Int) := by rw [← ho]; push_cast; rfl
      have m2 : ((k : Int) + 1) * (m : Int) = (o2 : Int) := by rw [← ho2]; push_cast; rfl
      obtain ⟨p, hp⟩ : ∃ p, s.extract o o2 = p := ⟨_, rfl⟩
      have hpm : p.size = m := by rw [← hp, ← ho, ← ho2]; exact part_size s m k N HN.out hlt
      have HT : Hid (eachP s m N hNm (k + 1) hlt = eachP s m N hNm k hk ++ [⟨k, p, hlt, hpm⟩]) := by
        show _ = _
        subst ho ho2 hp
        rfl
      have hle : o ≤ o2 := by omega
      obtain ⟨fn, tmps, assign, body, hy, hR⟩ := hY _ ⟨k, p, hlt, hpm⟩ _ hJs (by rw [eachP_length]; exact hlt)
      have HPM : Hid (p.size = m) := hpm
      clear ho ho2 h12
      dsimp only [encE] at hy
      have hki : (k : Int) < (N : Int) := by omega
      gi_wp2
      refine hR.mono ?_
      rintro e W3 (⟨rfl, hJ3, hk3⟩ | ⟨rfl, hJx3⟩)
      · gi_wp2
        go_roundw
        case rel => exact ⟨k + 1, by omega, by simp, by rw [HT.out]; exact hJ3, hnx.trans hk3⟩
        case measure => simp [intOf]; omega
      · gi_wp2
        refine bodyPost_ret (results_none rfl _ _ _) rfl ?_
        refine ⟨⟨_, rfl⟩, .inr ⟨_, ?_, hJx3⟩⟩
        rw [← HT.out]
        exact eachP_prefix s m N hNm (k + 1) N (Nat.le_refl _) hlt
    · obtain rfl : k = N := by omega
      gi_wp2
      go_end0
      exact ⟨⟨_, rfl⟩, .inl ⟨_, rfl, hJs⟩⟩

theorem each_stops (F : Fence) (n : Nat) (h37 : F.fn 62) (hro : F.round = none) (hn : 1 ≤ n) (Z S : Nat) (s : ByteArray) (m N : Nat) (hm : 1 ≤ m) (hm1 : m ≤ 9223372036854775807) (hs : s.size ≤ 140737488351232) (hNm : N * m ≤ s.size) (hN : s.size / m = N) (w : World)
    (hZ : w.cell? ⟨Z, 0, none⟩ = some (.int .i64 (m : Int))) (hS : w.cell? ⟨S, 0, none⟩ = some (.string s)) :
    SeqStopsK F n Try.prog 62 #[.pointer (some ⟨Z, 0, none⟩), .pointer (some ⟨S, 0, none⟩)] encE (KZ Z S) (fun xs => xs = eachP s m N hNm N (Nat.le_refl _)) (fun pre => pre <+: eachP s m N hNm N (Nat.le_refl _)) N w := by
  intro l J Jx W hW hJ hJx hY h0
  exact each1_in F n h37 hro hn l Z S s m N hm hm1 hs hNm hN J Jx hY W ((hW.cell (p := ⟨Z, 0, none⟩) (World.block_lt_of_cell? _ _ hZ)).trans hZ) ((hW.cell (p := ⟨S, 0, none⟩) (World.block_lt_of_cell? _ _ hS)).trans hS) h0
end Go.Proofs.Ytffmkkfacemchaa
