/-
  Layer 13: the closure that collects a walk.
-/
import Derived.Test.YtffmkkfacemchaaC1
import Derived.Test.YtffmkkfacemchaaB1
import Derived.RangeFuncNested
import Derived.Maps.AppendAt
namespace Go.Proofs.Ytffmkkfacemchaa
open Go.RowKit Go.Sort
set_option linter.unusedVariables false

theorem ownsRow_keep {W Y : World} {base e size n : Nat} {v : Value} {xs : List Value} (h : W.ownsRow base e size v n xs) (hk : ∀ q, v.ownBlock = some q → Y.heap[q]? = W.heap[q]?) : Y.ownsRow base e size v n xs := by
  refine ⟨h.1, ?_⟩
  rcases h.2 with ⟨rfl, h1⟩ | ⟨g, cap, cur, rfl, h2, h3, h4⟩
  · exact .inl ⟨rfl, h1⟩
  · exact .inr ⟨g, cap, cur, rfl, h2, (hk g rfl).trans h3, h4⟩
theorem ownsRow_blk {W : World} {base e size n : Nat} {v : Value} {xs : List Value} (h : W.ownsRow base e size v n xs) : ∀ q, v.ownBlock = some q → base ≤ q ∧ q < W.heap.size := by
  intro q hq
  rcases h.2 with ⟨rfl, h1⟩ | ⟨g, cap, cur, rfl, hb, hg, _⟩
  · cases hq
  · cases hq; exact ⟨hb, (Array.getElem?_eq_some_iff.1 hg).1⟩

/-- What was collected: the variable's box is Bk, all else that lay in W0 is as it was. -/
def Coll (W0 : World) (Bk : Nat) (pre : List Nat) (W : World) : Prop :=
  (∃ v, Boxed W Bk 38 v ∧ W.ownsRow W0.heap.size 3 1 v pre.length (syC pre)) ∧ W0.grownBy W (some Bk) ∧ Bk < W0.heap.size
theorem Coll.grow {W0 : World} {Bk : Nat} {pre : List Nat} {X Y : World} (hg : X.grownBy Y none) (h : Coll W0 Bk pre X) : Coll W0 Bk pre Y := by
  obtain ⟨⟨v, hb, hr⟩, hk, hlt⟩ := h
  refine ⟨⟨v, (hg.block Bk hb.lt (by simp)).trans hb, ownsRow_keep hr fun q hq => hg.block q (ownsRow_blk hr q hq).2 (by simp)⟩, ⟨hg.os.trans hk.os, hg.tape.trans hk.tape, hg.output.trans hk.output, Nat.le_trans hk.size hg.size, fun k hk1 hne => (hg.block k (Nat.lt_of_lt_of_le hk1 hk.size) (by simp)).trans (hk.block k hk1 hne)⟩, hlt⟩

set_option maxRecDepth 100000 in
set_option maxHeartbeats 4000000 in
theorem clos21 (W0 : World) (Bk : Nat) (pre : List Nat) (x : Nat) (W : World) (hl : pre.length ≤ 1000) (h : Coll W0 Bk pre W) :
    Calls Try.prog 21 #[.int .i64 (x : Int), .pointer (some ⟨Bk, 0, none⟩)] W fun e W' => e = .returned (.bool true) ∧ Coll W0 Bk (pre ++ [x]) W' := by
  obtain ⟨⟨v, hb, hr⟩, hk, hlt⟩ := h
  have HV : Hid (Boxed W Bk 38 v) := hb
  have HR : Hid (W.ownsRow W0.heap.size 3 1 v pre.length (syC pre)) := hr
  have HK : Hid (W0.grownBy W (some Bk)) := hk
  have c0 := hb.cell
  have f0 := hb.frozen
  have l0 := hb.lt
  obtain ⟨i0, hi0, hz0, hz1, hz2⟩ := info_parts Try.info3
  have m1 : pre.length + 1 ≤ maxLen := by unfold maxLen; omega
  have m2 : (pre.length + 1) * 8 ≤ 140737488355328 := by omega
  have m3 : ∀ o : Obj, W0.heap.size ≤ (W.alloc o).heap.size := fun o => by rw [World.size_alloc]; have := hk.size; omega
  have FAR : Hid (∀ (o : Obj) (w2 : World), (W.alloc o).grownBy w2 v.ownBlock → Boxed w2 Bk 38 v ∧ Hid (W0.grownBy w2 (some Bk))) := by
    intro o w2 hg
    have hz := HK.out.size
    have hne : ∀ k, k < W0.heap.size → some k ≠ v.ownBlock := fun k hk e => by have := (ownsRow_blk HR.out k e.symm).1; omega
    refine ⟨(hg.block Bk (by rw [World.size_alloc]; omega) (hne _ hlt)).trans ((Below.heap_alloc W o Bk l0).trans HV.out), ?_⟩
    refine ⟨hg.os.trans HK.out.os, hg.tape.trans HK.out.tape, hg.output.trans HK.out.output, Nat.le_trans hz (Nat.le_trans (by rw [World.size_alloc]; omega) hg.size), fun k hk1 hk2 => ?_⟩
    exact (hg.block k (by rw [World.size_alloc]; omega) (hne _ hk1)).trans ((Below.heap_alloc W o k (by omega)).trans (HK.out.block k hk1 hk2))
  clear hb hr hk
  go_enter Try.func21, Try.ntmps21
  go_wp2_with (at_builtin; refine wpList_append_own _ rfl _ _ 38 rfl W0.heap.size 3 i0 (.int .i64 0) 1 8 Try.underlying38 hi0 hz0 hz1 hz2 rfl (by decide) _ _ _ rfl (HR.out.alloc _) ⟨W.heap.size, 0, none⟩ 1 1 [.int .i64 (x : Int)] rfl rfl (one_n W x) (one_c x) m1 m2 (m3 _) ?_; intro v' w2 hown' hgrow _; obtain ⟨vg, vcap, rfl⟩ := ownsRow_succ hown'; obtain ⟨bx, hk2⟩ := FAR.out _ _ hgrow; have c2 := bx.cell; have f2 := bx.frozen; have l2 := bx.lt)

  go_ret
  have hz2 := hk2.out.size
  refine ⟨rfl, ⟨_, bx.set _, ?_⟩, ?_, hlt⟩
  · rw [syC_snoc, List.length_append]
    refine ownsRow_keep hown' fun q hq => Below.heap_setCell _ _ _ _ ?_
    have := (ownsRow_blk hown' q hq).1
    show q ≠ Bk
    omega
  · refine ⟨hk2.out.os, hk2.out.tape, hk2.out.output, by simpa using hz2, fun k hk1 hne => ?_⟩
    exact (Below.heap_setCell _ _ _ _ (fun e => hne (by rw [e]))).trans (hk2.out.block k hk1 hne)
end Go.Proofs.Ytffmkkfacemchaa
