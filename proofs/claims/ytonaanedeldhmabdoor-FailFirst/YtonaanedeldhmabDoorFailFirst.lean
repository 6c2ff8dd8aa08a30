/-
  Proved: 'Rows.FailFirstCardSaid': for every list of numbers the statement FailFirst of layer 2 (the first one of any faults that is one) returns true and leaves its argument as it was. Conditions: the row's own list of package variables, tied to the program's text by the given tie.
-/
import Derived.Test.YtonaanedeldhmabDoorFirst
import Derived.Test.YtonaanedeldhmabDoorTie
import Derived.Test.YtonaanedeldhmabDoorCards
import Derived.WalkKit
import Derived.ProofKit
import Derived.OpenShut
import Derived.LaidMore
import Derived.Lay
import Derived.SevenTiedAt
import Derived.Stop.Joined
import Derived.ChangeOld
import Derived.Below
namespace Go.Proofs.YtonaanedeldhmabDoor.failFirst
open Go.ChangeShapes Go.WideShapes Go.ChangeAt Go.RowKit
set_option linter.unusedVariables false

theorem own : ownKnob Tryd.prog.godebug = none := by kernel_rfl
theorem laidOut : laidOutB Tryd.prog = true := by kernel_rfl

/-- WHAT THE WALK IS TOLD OF A SLICE OF INTEGERS THAT CAME IN: it is nil; or it leads to a row of 'cap' cells, the numbers 'zs' (the first 'len' are its elements, the rest its spare room), each fitting its kind. -/
def IsRow (k : IntKind) (w : World) (a : Option Addr) (len cap : Nat) (zs : List Int) : Prop :=
  (a = none ∧ len = 0 ∧ cap = 0 ∧ zs = []) ∨
  ∃ x, a = some x ∧ len ≤ cap ∧ cap ≤ maxLen ∧ zs.length = cap ∧ (∀ i, i < zs.length → w.cell? (x.add i) = some (.int k (zs.getD i 0))) ∧ ∀ n ∈ zs, (Lit.int k n).wf = true


theorem Tryd.info26 : (Tryd.prog.info? 26).map (fun i => (i.zero, i.size, i.bytes)) = some (some (.agg #[.int .i64 0, .int .u64 0, .string ⟨#[]⟩]), 3, 32) := by kernel_rfl

/-- The cells of the faults, one behind the other. -/
def cellsF (z : Nat → Int) : Nat → List Value
  | 0 => []
  | k + 1 => cellsF z k ++ [.int .i64 (z k), .int .u64 (k : Int), .string ⟨#[]⟩]

theorem cellsF_len (z : Nat → Int) : ∀ k, (cellsF z k).length = k * 3
  | 0 => rfl
  | k + 1 => by simp [cellsF, cellsF_len z k]; omega
theorem cellsF_at (z : Nat → Int) : ∀ k j, j < k → (cellsF z k)[j * 3]? = some (.int .i64 (z j)) ∧ (cellsF z k)[j * 3 + 1]? = some (.int .u64 (j : Int)) ∧ (cellsF z k)[j * 3 + 1 + 1]? = some (.string ⟨#[]⟩)
  | 0, j, h => by omega
  | k + 1, j, h => by
    have hl := cellsF_len z k
    by_cases e : j = k
    · subst e
      unfold cellsF
      rw [List.getElem?_append_right (by omega), List.getElem?_append_right (by omega), List.getElem?_append_right (by omega), hl]
      have e1 : j * 3 - j * 3 = 0 := by omega
      have e2 : j * 3 + 1 - j * 3 = 1 := by omega
      have e3 : j * 3 + 1 + 1 - j * 3 = 2 := by omega
      rw [e1, e2, e3]
      exact ⟨rfl, rfl, rfl⟩
    · obtain ⟨a1, a2, a3⟩ := cellsF_at z k j (by omega)
      unfold cellsF
      rw [List.getElem?_append_left (by omega), List.getElem?_append_left (by omega), List.getElem?_append_left (by omega)]
      exact ⟨a1, a2, a3⟩

theorem own_ne {wr : World} {v : Value} {k base : Nat} {xs : List Value} (h : wr.ownsRow base 26 3 v k xs) (x : Nat) (hx : x < base ∨ wr.heap.size ≤ x) : some x ≠ v.ownBlock := by
  rcases h.2 with ⟨rfl, _⟩ | ⟨g, cap, cur, rfl, hb, hg, _⟩
  · simp [Value.ownBlock]
  · intro e
    simp only [Value.ownBlock, Option.some.injEq] at e
    subst e
    have : x < wr.heap.size := by
      obtain ⟨h1, _⟩ := Array.getElem?_eq_some_iff.1 hg
      exact h1
    omega
theorem grow_cell {W w3 : World} {row : Option Nat} (hg : W.grownBy w3 row) (x o : Nat) (hx : x < W.heap.size) (hne : some x ≠ row) : w3.cell? ⟨x, o, none⟩ = W.cell? ⟨x, o, none⟩ ∧ w3.frozen? ⟨x, o, none⟩ = W.frozen? ⟨x, o, none⟩ :=
  ⟨World.cell?_of_block (a := ⟨x, o, none⟩) (hg.block x hx hne), World.frozen?_of_block (a := ⟨x, o, none⟩) (hg.block x hx hne)⟩
theorem one_cell {w : World} {b o : Nat} {v : Value} (h : w.cell? ⟨b, o, none⟩ = some v) (hb : b < w.heap.size) (o1 : Obj) : (w.alloc o1).cell? ⟨b, o, none⟩ = some v := by
  have hbb : Below w.heap.size w (w.alloc o1) := by go_grown
  exact (hbb.cell (p := ⟨b, o, none⟩) hb).trans h
theorem one_frozen {w : World} {b o : Nat} (h : w.frozen? ⟨b, o, none⟩ = false) (hb : b < w.heap.size) (o1 : Obj) : (w.alloc o1).frozen? ⟨b, o, none⟩ = false := by
  have hbb : Below w.heap.size w (w.alloc o1) := by go_grown
  exact (hbb.frozen (p := ⟨b, o, none⟩) hb).trans h

theorem fs_next {w0 W w' : World} {b : Nat} {p : Int} {q : Nat} (hb : Below W.heap.size W w') (h : W.cell? ⟨b, 0, none⟩ = some (.int .i64 p) ∧ W.cell? ⟨b, 1, none⟩ = some (.int .u64 (q : Int)) ∧ W.cell? ⟨b, 2, none⟩ = some (.string ⟨#[]⟩) ∧ b < W.heap.size ∧ Below w0.heap.size w0 W) :
    w'.cell? ⟨b, 0, none⟩ = some (.int .i64 p) ∧ w'.cell? ⟨b, 1, none⟩ = some (.int .u64 (q : Int)) ∧ w'.cell? ⟨b, 2, none⟩ = some (.string ⟨#[]⟩) ∧ b < w'.heap.size ∧ Below w0.heap.size w0 w' := by
  obtain ⟨h1, h2, h3, h4, h6⟩ := h
  exact ⟨((bcell hb).1 b 0 h4).trans h1, ((bcell hb).1 b 1 h4).trans h2, ((bcell hb).1 b 2 h4).trans h3, Nat.lt_of_lt_of_le h4 hb.size, bt h6 hb⟩

set_option maxRecDepth 100000 in
set_option maxHeartbeats 3200000 in
theorem walk_row (b off len cap : Nat) (z : Nat → Int) (w : World) (ht : Tabs w) (hlen : len ≤ 9223372036854775807)
    (hc : ∀ j, j < len → w.cell? ⟨b, off + j, none⟩ = some (.int .i64 (z j))) (hbk : 0 < len → b < w.heap.size) :
    Calls Tryd.prog 4 #[.slice (some ⟨b, off, none⟩) len cap] w fun e w' => e = .returned (.bool true) ∧ Below w.heap.size w w' := by
  obtain ⟨i0, hi, hz0, hz1, hz2⟩ := info_parts Tryd.info26
  have HC : Hid (∀ j, j < len → w.cell? ⟨b, off + j, none⟩ = some (.int .i64 (z j))) := hc
  clear hc
  go_enter Tryd.func4, Tryd.ntmps4
  go_wp2_with (go_at_call 6; refine (speaks_any _ ht).mono ?_; rintro e w1 ⟨rfl, hb1⟩)
  clear ht
  go_loopw [3, 5] (fun v i wr => ∃ k : Nat, k ≤ len ∧ k ≤ 20 ∧ i = .int .i64 k ∧ wr.ownsRow (w1.heap.size + 1) 26 3 v k (cellsF z k) ∧
      wr.cell? ⟨w1.heap.size, 0, none⟩ = some (.int .i64 (fst z k).1) ∧ wr.cell? ⟨w1.heap.size, 1, none⟩ = some (.int .u64 ((fst z k).2 : Int)) ∧ wr.cell? ⟨w1.heap.size, 2, none⟩ = some (.string ⟨#[]⟩) ∧ (∀ o, wr.frozen? ⟨w1.heap.size, o, none⟩ = false) ∧ w1.heap.size < wr.heap.size ∧ Below w1.heap.size w1 wr) (fun _ i _ => len - (intOf i).toNat)
  case atStart => exact ⟨0, by omega, by omega, rfl, World.ownsRow_nil _ _ _ _, by simp [go_sem, fst], by simp [go_sem, fst], by simp [go_sem], fun o => by simp [go_sem], by simp, (Below.refl _ _).alloc (Nat.le_refl _) _⟩
  case round =>
    obtain ⟨k, hk, hk20, rfl, hown, r0, r1, r2, rf, hzz, hbr⟩ := hrel
    have HB : Hid (Below w.heap.size w wr) := hb1.trans (hbr.mono hb1.size)
    by_cases hgo : k < len ∧ k < 20
    · obtain ⟨hlt, h20⟩ := hgo
      have hcx := (HB.out.cell (p := ⟨b, off + k, none⟩) (hbk (by omega))).trans (HC.out k hlt)
      generalize hzk : z k = zk at hcx
      have HZ : Hid (z k = zk) := hzk
      clear hzk
      go_wp2_with (first
        | (go_at_call 10; refine (at_any _ _ _).mono ?_; rintro e w2 ⟨rfl, hw2⟩; subst hw2)
        | (at_builtin; refine wpList_append_own _ rfl _ _ 35 rfl (w1.heap.size + 1) 26 i0 _ 3 32 Tryd.underlying35 hi hz0 hz1 hz2 rfl (by decide) _ k _ rfl (((hown.alloc _).alloc _).alloc _) ⟨wr.heap.size + 1 + 1, 0, none⟩ 1 1 [.int .i64 zk, .int .u64 (k : Int), .string ⟨#[]⟩] rfl rfl ?c1 ?c2 ?c3 ?c4 ?c5 ?_))
      case c1 =>
        intro j u hj
        match j, hj with
        | 0, hj => simp at hj; subst hj; simp [Addr.add, go_sem]
        | 1, hj => simp at hj; subst hj; simp [Addr.add, go_sem]
        | 2, hj => simp at hj; subst hj; simp [Addr.add, go_sem]
      case c2 => intro u hu; simp at hu; rcases hu with rfl | rfl | rfl <;> rfl
      case c3 => unfold maxLen; omega
      case c4 => omega
      case c5 => simp; omega
      · intro v' w3 hown' hgrow _
        obtain ⟨p, q, hpq⟩ : ∃ p q, fst z k = (p, q) := ⟨_, _, rfl⟩
        rw [hpq] at r0 r1
        have HPQ : Hid (fst z k = (p, q)) := hpq
        clear hpq
        have hsz : wr.heap.size + 1 + 1 + 1 ≤ w3.heap.size := by have := hgrow.size; simpa using this
        have nw := own_ne hown w1.heap.size (.inl (by omega))
        have nf := own_ne hown (wr.heap.size + 1) (.inr (by omega))
        have nb := own_ne hown b (.inl (by have := hbk (by omega); have := hb1.size; omega))
        have hbb := hbk (by omega)
        have hb1s := hb1.size
        have W3 : Below wr.heap.size wr (((wr.alloc (.cells #[.int .i64 zk, .int .u64 (k : Int), .string ⟨#[]⟩] 26)).alloc (.cells #[.int .i64 zk, .int .u64 (k : Int), .string ⟨#[]⟩] 26)).alloc (.cells #[.int .i64 zk, .int .u64 (k : Int), .string ⟨#[]⟩] 26)) := by go_grown
        have e0 := ((grow_cell hgrow w1.heap.size 0 (by simp; omega) nw).1.trans (W3.cell (p := ⟨w1.heap.size, 0, none⟩) hzz)).trans r0
        have e1 := ((grow_cell hgrow w1.heap.size 1 (by simp; omega) nw).1.trans (W3.cell (p := ⟨w1.heap.size, 1, none⟩) hzz)).trans r1
        have e2 := ((grow_cell hgrow w1.heap.size 2 (by simp; omega) nw).1.trans (W3.cell (p := ⟨w1.heap.size, 2, none⟩) hzz)).trans r2
        have ef : ∀ o, w3.frozen? ⟨w1.heap.size, o, none⟩ = false := fun o => ((grow_cell hgrow w1.heap.size o (by simp; omega) nw).2.trans (W3.frozen (p := ⟨w1.heap.size, o, none⟩) hzz)).trans (rf o)
        have g0 : w3.cell? ⟨wr.heap.size + 1, 0, none⟩ = some (.int .i64 zk) := (grow_cell hgrow (wr.heap.size + 1) 0 (by simp) nf).1.trans (by simp [go_sem])
        have g1 : w3.cell? ⟨wr.heap.size + 1, 1, none⟩ = some (.int .u64 (k : Int)) := (grow_cell hgrow (wr.heap.size + 1) 1 (by simp) nf).1.trans (by simp [go_sem])
        have g2 : w3.cell? ⟨wr.heap.size + 1, 2, none⟩ = some (.string ⟨#[]⟩) := (grow_cell hgrow (wr.heap.size + 1) 2 (by simp) nf).1.trans (by simp [go_sem])
        have ex := ((grow_cell hgrow b (off + k) (by simp; omega) nb).1.trans (W3.cell (p := ⟨b, off + k, none⟩) (by show b < _; omega))).trans hcx
        have hB3 : Below w1.heap.size w1 w3 := (hbr.trans (W3.mono (by omega))).grown hgrow (by simp; omega) (fun x hx => by
          have := own_ne hown x
          by_cases hlt2 : x < w1.heap.size + 1
          · exact absurd hx.symm (this (.inl hlt2))
          · omega)
        have HB3 : Hid (Below w1.heap.size w1 w3) := hB3
        have HO : Hid (w3.ownsRow (w1.heap.size + 1) 26 3 v' (k + 1) (cellsF z (k + 1))) := by
          show World.ownsRow _ _ _ _ _ _ _
          rw [cellsF, HZ.out]
          exact hown'
        have hz3 : w1.heap.size < w3.heap.size := by omega
        have hf3 : wr.heap.size + 1 < w3.heap.size := by omega
        have hb3 : b < w3.heap.size := by omega
        have s0 := one_cell e0 hz3
        have s1 := one_cell e1 hz3
        have s2 := one_cell e2 hz3
        have sf0 := one_frozen (ef 0) hz3
        have sf1 := one_frozen (ef 1) hz3
        have sf2 := one_frozen (ef 2) hz3
        have t0 := one_cell g0 hf3
        have t1 := one_cell g1 hf3
        have t2 := one_cell g2 hf3
        have tx := one_cell ex hb3
        clear hown' hgrow hown W3 hB3 hbr HB r0 r1 r2 rf hcx nw nf nb hi hz0 hz1 hz2
        by_cases hp : p = 0 ∧ zk ≠ 0
        · obtain ⟨rfl, hz⟩ := hp
          have hzb : (zk != 0) = true := by simp [hz]
          have HF : Hid (fst z (k + 1) = (zk, k)) := by
            show _ = _
            rw [fst, HPQ.out, HZ.out, if_pos ⟨rfl, hz⟩]
          clear hz
          go_wp2_with (go_at_call 11; refine (ok_any _ _ _ _).mono ?_; rintro e w4 ⟨rfl, hw4⟩; subst hw4)
          go_roundw
          case rel =>
            have hB4 : Below w3.heap.size w3 w3 := Below.refl _ _
            refine ⟨k + 1, by omega, by omega, by go_num, ?_, ?_, ?_, ?_, fun o => ?_, by simp; omega, ?_⟩
            · exact (ownsRow_setCell_below (ownsRow_setCell_below (ownsRow_setCell_below HO.out (by show w1.heap.size < _; omega) _) (by show w1.heap.size < _; omega) _) (by show w1.heap.size < _; omega) _).alloc _
            · rw [HF.out]; exact one_cell (by simp [go_sem, e0]) (by simpa using hz3) _
            · rw [HF.out]; exact one_cell (by simp [go_sem, e1]) (by simpa using hz3) _
            · exact one_cell (by simp [go_sem, e2]) (by simpa using hz3) _
            · exact one_frozen (by simp [go_sem, ef]) (by simpa using hz3) _
            · exact (((HB3.out.setCell (Nat.le_refl _) _).setCell (Nat.le_refl _) _).setCell (Nat.le_refl _) _).alloc (by simp; omega) _
          case measure => simp [intOf]; omega
        · have HF : Hid (fst z (k + 1) = (p, q)) := by
            show _ = _
            rw [fst, HPQ.out, HZ.out, if_neg hp]
          by_cases hp0 : p = 0
          · subst hp0
            have hzk : zk = 0 := by
              by_cases h : zk = 0
              · exact h
              · exact absurd ⟨rfl, h⟩ hp
            have hzb : (zk != 0) = false := by simp [hzk]
            clear hp hzk
            go_wp2_with (go_at_call 11; refine (ok_any _ _ _ _).mono ?_; rintro e w4 ⟨rfl, hw4⟩; subst hw4)
            go_roundw
            case rel =>
              refine ⟨k + 1, by omega, by omega, by go_num, HO.out.alloc _, ?_, ?_, s2 _, fun o => one_frozen (ef o) hz3 _, by simp; omega, HB3.out.alloc (by omega) _⟩
              · rw [HF.out]; exact s0 _
              · rw [HF.out]; exact s1 _
            case measure => simp [intOf]; omega
          · have hpb : (p == 0) = false := by simp [hp0]
            clear hp hp0
            go_wp2_with (go_at_call 11; refine (ok_any _ _ _ _).mono ?_; rintro e w4 ⟨rfl, hw4⟩; subst hw4)
            go_roundw
            case rel =>
              refine ⟨k + 1, by omega, by omega, by go_num, HO.out.alloc _, ?_, ?_, s2 _, fun o => one_frozen (ef o) hz3 _, by simp; omega, HB3.out.alloc (by omega) _⟩
              · rw [HF.out]; exact s0 _
              · rw [HF.out]; exact s1 _
            case measure => simp [intOf]; omega
    · obtain ⟨p, q, hpq⟩ : ∃ p q, fst z k = (p, q) := ⟨_, _, rfl⟩
      have FC : Calls Tryd.prog 12 #[u3] wr.drew fun x w' => x = .returned (.agg #[.int .i64 p, .int .u64 (q : Int), .string ⟨#[]⟩]) ∧ Below wr.drew.heap.size wr.drew w' := by
        rcases hown.2 with ⟨rfl, hk0⟩ | ⟨g, cp, cur, rfl, hgb, hgg, _⟩
        · subst hk0
          have e : (p, q) = (0, 0) := hpq.symm
          simp only [Prod.mk.injEq] at e
          obtain ⟨rfl, rfl⟩ := e
          exact first_nil wr.drew
        · have hgs : g < wr.heap.size := (Array.getElem?_eq_some_iff.1 hgg).1
          have h := first_any g k cp z wr.drew hk20 hgs (fun j hj => by
            obtain ⟨a1, a2, a3⟩ := cellsF_at z k j hj
            exact ⟨(hown.cellAt (j * 3) (by omega)).trans a1, (hown.cellAt (j * 3 + 1) (by omega)).trans a2, (hown.cellAt (j * 3 + 1 + 1) (by omega)).trans a3⟩)
          rw [hpq] at h
          exact h
      rw [hpq] at r0 r1
      have hSd : wr.drew.cell? ⟨w1.heap.size, 0, none⟩ = some (.int .i64 p) ∧ wr.drew.cell? ⟨w1.heap.size, 1, none⟩ = some (.int .u64 (q : Int)) ∧ wr.drew.cell? ⟨w1.heap.size, 2, none⟩ = some (.string ⟨#[]⟩) ∧ w1.heap.size < wr.drew.heap.size ∧ Below w.heap.size w wr.drew := ⟨r0, r1, r2, hzz, HB.out.drew⟩
      clear hpq hown r0 r1 r2 rf hbr hi hz0 hz1 hz2 HB HC
      by_cases hlt : k < len
      all_goals
        go_wp2
        go_region_held3 (fun w' => w'.cell? ⟨w1.heap.size, 0, none⟩ = some (.int .i64 p) ∧ w'.cell? ⟨w1.heap.size, 1, none⟩ = some (.int .u64 (q : Int)) ∧ w'.cell? ⟨w1.heap.size, 2, none⟩ = some (.string ⟨#[]⟩) ∧ w1.heap.size < w'.heap.size ∧ Below w.heap.size w w')
          (first | assumption | exact fs_next (by assumption) (by assumption))
          (first
            | (go_at_call 12; with_reducible refine FC.mono ?_; rintro e w' ⟨rfl, hb⟩)
            | (go_at_call 12; with_reducible refine (first_nil _).mono ?_; rintro e w' ⟨rfl, hb⟩))
        go_wp2
        go_ret
        rename_i hH
        exact ⟨rfl, hH.2.2.2.2⟩

set_option maxRecDepth 100000 in
set_option maxHeartbeats 1600000 in
theorem walk_empty (a0 : Option Addr) (cap : Nat) (w : World) (ht : Tabs w) :
    Calls Tryd.prog 4 #[.slice a0 0 cap] w fun e w' => e = .returned (.bool true) ∧ Below w.heap.size w w' := by
  go_enter Tryd.func4, Tryd.ntmps4
  go_wp2_with (go_at_call 6; refine (speaks_any _ ht).mono ?_; rintro e w1 ⟨rfl, hb1⟩)
  clear ht
  obtain ⟨W, hW⟩ : ∃ W, W = w1.alloc (.cells #[.int .i64 0, .int .u64 0, .string ⟨#[]⟩] 26) := ⟨_, rfl⟩
  have hSd : W.drew.cell? ⟨w1.heap.size, 0, none⟩ = some (.int .i64 0) ∧ W.drew.cell? ⟨w1.heap.size, 1, none⟩ = some (.int .u64 ((0 : Nat) : Int)) ∧ W.drew.cell? ⟨w1.heap.size, 2, none⟩ = some (.string ⟨#[]⟩) ∧ w1.heap.size < W.drew.heap.size ∧ Below w.heap.size w W.drew := by
    rw [hW]
    refine ⟨by simp [go_sem], by simp [go_sem], by simp [go_sem], by simp, (hb1.alloc hb1.size _).drew⟩
  rw [← hW]
  clear hW
  go_loop [3, 5] (fun v i => v = .slice none 0 0 ∧ i = .int .i64 0) (fun _ _ => 0)
  case atStart => exact ⟨rfl, rfl⟩
  case round =>
    obtain ⟨rfl, rfl⟩ := hrel
    go_wp2
    go_region_held3 (fun w' => w'.cell? ⟨w1.heap.size, 0, none⟩ = some (.int .i64 0) ∧ w'.cell? ⟨w1.heap.size, 1, none⟩ = some (.int .u64 ((0 : Nat) : Int)) ∧ w'.cell? ⟨w1.heap.size, 2, none⟩ = some (.string ⟨#[]⟩) ∧ w1.heap.size < w'.heap.size ∧ Below w.heap.size w w')
      (first | assumption | exact fs_next (by assumption) (by assumption))
      (first | (go_at_call 12; with_reducible refine (first_nil _).mono ?_; rintro e w' ⟨rfl, hb⟩))
    go_wp2
    go_ret
    rename_i hH
    exact ⟨rfl, hH.2.2.2.2⟩

theorem walk (a0 : Option Addr) (len0 cap0 : Nat) (z0 : List Int) (w : World) (w0 : IsRow .i64 w a0 len0 cap0 z0) (hL : laidMetH Tryd.prog laid8 w) :
    Calls Tryd.prog 4 #[.slice a0 len0 cap0] w fun e w' => e = .returned (.bool true) ∧ Below w.heap.size w w' := by
  have ht : Tabs w := ⟨of_laid hL, tab_of_laid hL⟩
  rcases w0 with ⟨rfl, rfl, rfl, rfl⟩ | ⟨x, rfl, hl, hm, hz, hcell, hwz⟩
  · exact walk_empty none 0 w ht
  · by_cases h0 : 0 < z0.length
    · obtain ⟨b, off, rfl, hc⟩ := ints_at hcell h0
      refine walk_row b off len0 cap0 (fun j => z0.getD j 0) w ht (by unfold maxLen at hm; omega) (fun j hj => hc j (by omega)) (fun _ => World.block_lt_of_cell? w _ (hc 0 h0))
    · obtain rfl : len0 = 0 := by omega
      exact walk_empty _ _ w ht

set_option maxRecDepth 100000 in
theorem lifted (os : Os) (started : os.Started) (H : Type) (enc : TypeId × Value → H) :
    ReturnsInHanded {} Tryd.checked os 4 .any (fun w args => (Rows.failFirstSpec.pre enc Tryd.prog Tryd.f4 [] false w args ∧ laidMetH Tryd.prog laid8 w) ∧ sizedMet enc Tryd.prog Tryd.f4 (OpenSpec.ofChange Rows.failFirstSpec) false w args)
      (Rows.failFirstSpec.post enc Tryd.prog Tryd.f4 false true false false) := by
  refine returnsInHanded_of_change_and (C := Tryd.checked) (X := fun w _ => laidMetH Tryd.prog laid8 w) (fun _ _ _ hh h => h.of_heap hh) own started (by kernel_rfl) Tryd.func4
    (ChangeSpec.witness_shaped (enc := enc) (C := Tryd.checked) (os := os) (X := fun w _ => laidMetH Tryd.prog laid8 w) false (World.laidAll Tryd.prog os laid8) #[.slice none 0 0] 8 (World.laidAll_os _ _ _)
      (World.shaped_of_ZipB (by kernel_rfl) (by kernel_rfl)) (by kernel_rfl) (by kernel_rfl) (by kernel_rfl)
      (by rw [MakeChecks.laidMetH_plain _ _ _ (by kernel_rfl)]; exact laidMet_laidAll _ (by kernel_rfl) (by kernel_rfl))) ?_
  intro W base args ds gs before hval0 hW hc _ hL _
  have hval : ∀ (j : Nat) t v, Tryd.f4.params[j]? = some t → args[j]? = some v → Value.okWide Tryd.prog W .any base t v := hval0
  have hW' := hW
  obtain ⟨p, q, hA0, hV, rfl, hfz, hnd⟩ := hW
  have hA : DataW.TrodAll enc Tryd.prog W 0 (fun _ => true) true Tryd.f4.params.toList args.toList ds p := hA0
  rw [Tryd.params4] at hA hval
  obtain ⟨v0, vs0, d0, ds0, p0, q0, hargs, rfl, rfl, h0, r0⟩ := trodAll_cons hA
  obtain ⟨rfl, rfl, rfl⟩ := trodAll_nil r0
  obtain rfl : args = #[v0] := by cases args; simp_all
  obtain ⟨rfl, rfl⟩ := trodVars_none hV
  obtain ⟨a0, len0, cap0, rfl⟩ := okWide_slice Tryd.underlying34 (hval 0 34 v0 rfl rfl)
  have k0 := h0
  have lt0 : ∀ x ∈ p0, x.block < W.heap.size := by obtain ⟨m, hm⟩ := k0; exact DataW.trod_lt m _ _ _ hm
  obtain ⟨z0, w0⟩ : ∃ zs, IsRow .i64 W a0 len0 cap0 zs := by
    obtain ⟨fuel, hf⟩ := h0
    rcases open_ints Tryd.underlying34 Tryd.underlying3 (by kernel_rfl) hf with ⟨hcs, _⟩ | ⟨x, l, c, zs, hcs, _, hl, hm, hz, _, hcell, hwz⟩
    · simp [Value.cells] at hcs
      obtain ⟨rfl, rfl, rfl⟩ := hcs
      exact ⟨[], .inl ⟨rfl, rfl, rfl, rfl⟩⟩
    · simp [Value.cells] at hcs
      obtain ⟨rfl, rfl, rfl⟩ := hcs
      exact ⟨zs, .inr ⟨_, rfl, hl, hm, by simpa using hz, hcell, hwz⟩⟩
  clear hA0 hval0
  refine (walk a0 len0 cap0 z0 W w0 hL).mono fun e W' ⟨he, bel⟩ => ?_
  subst he
  exact ⟨_, rfl, _, _, _, [], _, [], hW', trodAll_mk1 (shut_bool Tryd.underlying4 _), (trodAll_cons_mk (Below.trod laidOut (by kernel_rfl) (of_decide_eq_true (by kernel_rfl)) k0 bel lt0) trodAll_mk0), rfl, bel.frame _, fun h => by cases h⟩

theorem over : Rows.FailFirstSaid :=
  OpenClaim.holds_of_wide 4 Tryd.f4 rfl rfl rfl rfl rfl rfl rfl ⟨rfl, rfl, rfl, rfl, rfl⟩ rfl rfl rfl rfl rfl (by kernel_rfl) Tryd.func4 (by kernel_rfl)
    (of_decide_eq_true (by kernel_rfl)) (by unfold Func.isWrapper; first | (rw [if_pos (by decide +kernel)]; kernel_rfl) | (rw [if_neg (by decide +kernel)]; exact ⟨rfl, rfl⟩))
    (fun os started H enc _ => lifted os started H enc)

theorem proved : Rows.FailFirstCardSaid :=
  Claim7.holds_tied_plain_at .later [] [.data, .data, .data, .data, .sentinel, .sentinel, .data, .pinned] true (true, "6f2f1eb41e3cac8e65f9ea939fa823a0eb8e666a9f35ba58c7ddfae8b1eddf39") true over (fun _ h => by cases h) (by kernel_rfl) (fun _ h => by cases h) failFirst_row_tie rfl ⟨rfl, rfl⟩ (by kernel_rfl) rfl
    (fun f fn hf hfn => by
      obtain rfl : f = 4 := Option.some.inj ((show Tryd.prog.funcNamed "turnbuckle/turnbucklelaw02.FailFirst" = some 4 by kernel_rfl).symm.trans hf) |>.symm
      obtain rfl : fn = Tryd.f4 := (Option.some.inj (Tryd.func4.symm.trans hfn)).symm
      exact ⟨by kernel_rfl, fun j t ht => by
        rw [Tryd.params4] at ht
        have hm : t ∈ [34] := by simpa using Array.mem_of_getElem? ht
        have hall : ([34].all fun u => !Tryd.prog.wantsStandIn u) = true := by kernel_rfl
        exact (show Tryd.prog.wantsStandIn t = false by simpa using List.all_eq_true.1 hall t hm)⟩)
    (by kernel_rfl)
#print axioms proved
end Go.Proofs.YtonaanedeldhmabDoor.failFirst
