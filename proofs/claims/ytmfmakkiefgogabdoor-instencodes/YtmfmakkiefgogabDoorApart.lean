/-
  Layer 6: the walk of InstApart. Conditions: the tables hold the forms and the codes.
-/
import Derived.Test.YtmfmakkiefgogabDoorSpeaks
namespace Go.Proofs.YtmfmakkiefgogabDoor
open Go.RowKit
set_option linter.unusedVariables false

theorem encF_dec {i : In} {x : Nat} (h : encF i = some x) : decF x = some i := by
  unfold encF at h
  split at h
  · rename_i hc
    obtain rfl := Option.some.inj h
    exact hc.2.2
  · cases h

theorem box23 (w : World) (a b c d e : Int) : (w.alloc (.cells #[.int .i64 a, .int .i64 b, .int .i64 c, .int .i64 d, .int .i64 e] 23)).cell? ⟨w.heap.size, 0, none⟩ = some (.int .i64 a) ∧ (w.alloc (.cells #[.int .i64 a, .int .i64 b, .int .i64 c, .int .i64 d, .int .i64 e] 23)).cell? ⟨w.heap.size, 1, none⟩ = some (.int .i64 b) ∧ (w.alloc (.cells #[.int .i64 a, .int .i64 b, .int .i64 c, .int .i64 d, .int .i64 e] 23)).cell? ⟨w.heap.size, 2, none⟩ = some (.int .i64 c) ∧ (w.alloc (.cells #[.int .i64 a, .int .i64 b, .int .i64 c, .int .i64 d, .int .i64 e] 23)).cell? ⟨w.heap.size, 3, none⟩ = some (.int .i64 d) ∧ (w.alloc (.cells #[.int .i64 a, .int .i64 b, .int .i64 c, .int .i64 d, .int .i64 e] 23)).cell? ⟨w.heap.size, 4, none⟩ = some (.int .i64 e) := by
  refine ⟨?_, ?_, ?_, ?_, ?_⟩
  all_goals (rw [World.cell?_alloc_at _ _ _ _ (by simp)]; rfl)

/-- An instruction lies in a block. -/
def InAt (W : World) (b : Nat) (i : In) : Prop := W.cell? ⟨b, 0, none⟩ = some (.int .i64 i.op) ∧ W.cell? ⟨b, 1, none⟩ = some (.int .i64 i.rd) ∧ W.cell? ⟨b, 2, none⟩ = some (.int .i64 i.r1) ∧ W.cell? ⟨b, 3, none⟩ = some (.int .i64 i.r2) ∧ W.cell? ⟨b, 4, none⟩ = some (.int .i64 i.imm)
theorem InAt.next {W W' : World} {b : Nat} {i : In} (h : InAt W b i) (hb : Below W.heap.size W W') : InAt W' b i := by
  obtain ⟨h0, h1, h2, h3, h4⟩ := h
  exact ⟨(hb.cell (World.block_lt_of_cell? _ _ h0)).trans h0, (hb.cell (World.block_lt_of_cell? _ _ h1)).trans h1, (hb.cell (World.block_lt_of_cell? _ _ h2)).trans h2, (hb.cell (World.block_lt_of_cell? _ _ h3)).trans h3, (hb.cell (World.block_lt_of_cell? _ _ h4)).trans h4⟩

set_option maxRecDepth 10000 in
set_option maxHeartbeats 3200000 in
theorem apart_any (i j : In) (w : World) (ht : Tabs w) :
    Calls Tryd.prog 5 #[i.agg, j.agg] w fun e w' => e = .returned (.bool true) ∧ Below w.heap.size w w' := by
  obtain ⟨a0, a1, a2, a3, a4⟩ := i
  obtain ⟨c0, c1, c2, c3, c4⟩ := j
  have hbb : Below w.heap.size w ((w.alloc (.cells #[.int .i64 a0, .int .i64 a1, .int .i64 a2, .int .i64 a3, .int .i64 a4] 23)).alloc (.cells #[.int .i64 c0, .int .i64 c1, .int .i64 c2, .int .i64 c3, .int .i64 c4] 23)) := by go_grown
  have hI : InAt ((w.alloc (.cells #[.int .i64 a0, .int .i64 a1, .int .i64 a2, .int .i64 a3, .int .i64 a4] 23)).alloc (.cells #[.int .i64 c0, .int .i64 c1, .int .i64 c2, .int .i64 c3, .int .i64 c4] 23)) w.heap.size ⟨a0, a1, a2, a3, a4⟩ :=
    InAt.next (box23 w a0 a1 a2 a3 a4) (by go_grown)
  have hJ : InAt ((w.alloc (.cells #[.int .i64 a0, .int .i64 a1, .int .i64 a2, .int .i64 a3, .int .i64 a4] 23)).alloc (.cells #[.int .i64 c0, .int .i64 c1, .int .i64 c2, .int .i64 c3, .int .i64 c4] 23)) (w.heap.size + 1) ⟨c0, c1, c2, c3, c4⟩ := by
    have := box23 (w.alloc (.cells #[.int .i64 a0, .int .i64 a1, .int .i64 a2, .int .i64 a3, .int .i64 a4] 23)) c0 c1 c2 c3 c4
    simp only [World.size_alloc] at this
    exact this
  have hT := ht.next hbb
  have HS : Hid (∀ W, Below w.heap.size w W → Tabs W) := fun W hb => ht.next hb
  clear ht
  have HXY : Hid (∀ x y, encF ⟨a0, a1, a2, a3, a4⟩ = some x → encF ⟨c0, c1, c2, c3, c4⟩ = some y → (x = y ↔ (a0 = c0 ∧ a1 = c1 ∧ a2 = c2 ∧ a3 = c3 ∧ a4 = c4))) := by
    intro x y hx hy
    constructor
    · rintro rfl
      have := (encF_dec hx).symm.trans (encF_dec hy)
      have := Option.some.inj this
      rw [In.mk.injEq] at this
      exact this
    · rintro ⟨rfl, rfl, rfl, rfl, rfl⟩
      exact Option.some.inj (hx.symm.trans hy)
  have E1 : Hid (∀ W, Tabs W → Calls Tryd.prog 8 #[.agg #[.int .i64 a0, .int .i64 a1, .int .i64 a2, .int .i64 a3, .int .i64 a4]] W fun e w' => e = .returned (encV ⟨a0, a1, a2, a3, a4⟩) ∧ Below W.heap.size W w') := fun W h => enc_any ⟨a0, a1, a2, a3, a4⟩ W h
  have E2 : Hid (∀ W, Tabs W → Calls Tryd.prog 8 #[.agg #[.int .i64 c0, .int .i64 c1, .int .i64 c2, .int .i64 c3, .int .i64 c4]] W fun e w' => e = .returned (encV ⟨c0, c1, c2, c3, c4⟩) ∧ Below W.heap.size W w') := fun W h => enc_any ⟨c0, c1, c2, c3, c4⟩ W h
  have HI : Hid (_) := hI
  have HJ : Hid (_) := hJ
  have HT : Hid (_) := hT
  have HBB : Hid (_) := hbb
  clear hI hJ hT hbb
  unfold In.agg
  simp only
  by_cases he : a0 = c0 ∧ a1 = c1 ∧ a2 = c2 ∧ a3 = c3 ∧ a4 = c4
  · obtain ⟨rfl, rfl, rfl, rfl, rfl⟩ := he
    clear HXY E2
    cases hi : encF ⟨a0, a1, a2, a3, a4⟩ with
    | none =>
      have hv : encV ⟨a0, a1, a2, a3, a4⟩ = .tuple #[.int .u32 0, .bool false] := by unfold encV; rw [hi]
      rw [hv] at E1
      clear hi hv
      go_enter Tryd.func5, Tryd.ntmps5
      go_wp2_with (first
        | (go_at_call 7; with_reducible refine (speaks_any _ HT.out).mono ?_; rintro e w1 ⟨rfl, hb1⟩
           have HT1 : Hid (Tabs w1) := Tabs.next HT.out hb1
           have HI1 : Hid (InAt w1 _ _) := InAt.next HI.out hb1
           have HJ1 : Hid (InAt w1 _ _) := InAt.next HJ.out hb1
           have HB1 : Hid (Below w.heap.size w w1) := HBB.out.trans (hb1.mono HBB.out.size)
           obtain ⟨i0, i1, i2, i3, i4⟩ := HI1.out
           clear hb1)
        | (go_at_call 8; with_reducible refine (E1.out _ HT1.out).mono ?_; rintro e w2 ⟨rfl, hb2⟩
           have HT2 : Hid (Tabs w2) := Tabs.next HT1.out hb2
           have HI2 : Hid (InAt w2 _ _) := InAt.next HI1.out hb2
           have HJ2 : Hid (InAt w2 _ _) := InAt.next HJ1.out hb2
           have HB2 : Hid (Below w.heap.size w w2) := HB1.out.trans (hb2.mono HB1.out.size)
           obtain ⟨j0, j1, j2, j3, j4⟩ := HJ2.out
           clear hb2 i0 i1 i2 i3 i4)
        | (go_at_call 8; with_reducible refine (E1.out _ HT2.out).mono ?_; rintro e w3 ⟨rfl, hb3⟩
           have HB3 : Hid (Below w.heap.size w w3) := HB2.out.trans (hb3.mono HB2.out.size)
           obtain ⟨p0, p1, p2, p3, p4⟩ := InAt.next HI2.out hb3
           obtain ⟨q0, q1, q2, q3, q4⟩ := InAt.next HJ2.out hb3
           clear hb3 j0 j1 j2 j3 j4))
      all_goals
        first
          | (go_ret; exact ⟨rfl, HB3.out⟩)
    | some x =>
      have hv : encV ⟨a0, a1, a2, a3, a4⟩ = .tuple #[.int .u32 x, .bool true] := by unfold encV; rw [hi]
      rw [hv] at E1
      clear hi hv
      go_enter Tryd.func5, Tryd.ntmps5
      go_wp2_with (first
        | (go_at_call 7; with_reducible refine (speaks_any _ HT.out).mono ?_; rintro e w1 ⟨rfl, hb1⟩
           have HT1 : Hid (Tabs w1) := Tabs.next HT.out hb1
           have HI1 : Hid (InAt w1 _ _) := InAt.next HI.out hb1
           have HJ1 : Hid (InAt w1 _ _) := InAt.next HJ.out hb1
           have HB1 : Hid (Below w.heap.size w w1) := HBB.out.trans (hb1.mono HBB.out.size)
           obtain ⟨i0, i1, i2, i3, i4⟩ := HI1.out
           clear hb1)
        | (go_at_call 8; with_reducible refine (E1.out _ HT1.out).mono ?_; rintro e w2 ⟨rfl, hb2⟩
           have HT2 : Hid (Tabs w2) := Tabs.next HT1.out hb2
           have HI2 : Hid (InAt w2 _ _) := InAt.next HI1.out hb2
           have HJ2 : Hid (InAt w2 _ _) := InAt.next HJ1.out hb2
           have HB2 : Hid (Below w.heap.size w w2) := HB1.out.trans (hb2.mono HB1.out.size)
           obtain ⟨j0, j1, j2, j3, j4⟩ := HJ2.out
           clear hb2 i0 i1 i2 i3 i4)
        | (go_at_call 8; with_reducible refine (E1.out _ HT2.out).mono ?_; rintro e w3 ⟨rfl, hb3⟩
           have HB3 : Hid (Below w.heap.size w w3) := HB2.out.trans (hb3.mono HB2.out.size)
           obtain ⟨p0, p1, p2, p3, p4⟩ := InAt.next HI2.out hb3
           obtain ⟨q0, q1, q2, q3, q4⟩ := InAt.next HJ2.out hb3
           clear hb3 j0 j1 j2 j3 j4))
      all_goals
        first
          | (go_ret; exact ⟨rfl, HB3.out⟩)
  · cases hi : encF ⟨a0, a1, a2, a3, a4⟩ with
    | none =>
      have hv : encV ⟨a0, a1, a2, a3, a4⟩ = .tuple #[.int .u32 0, .bool false] := by unfold encV; rw [hi]
      rw [hv] at E1
      cases hj : encF ⟨c0, c1, c2, c3, c4⟩ with
      | none =>
        have hv2 : encV ⟨c0, c1, c2, c3, c4⟩ = .tuple #[.int .u32 0, .bool false] := by unfold encV; rw [hj]
        rw [hv2] at E2
        clear hi hv hj hv2 HXY
        go_enter Tryd.func5, Tryd.ntmps5
        go_wp2_with (first
          | (go_at_call 7; with_reducible refine (speaks_any _ HT.out).mono ?_; rintro e w1 ⟨rfl, hb1⟩
             have HT1 : Hid (Tabs w1) := Tabs.next HT.out hb1
             have HI1 : Hid (InAt w1 _ _) := InAt.next HI.out hb1
             have HJ1 : Hid (InAt w1 _ _) := InAt.next HJ.out hb1
             have HB1 : Hid (Below w.heap.size w w1) := HBB.out.trans (hb1.mono HBB.out.size)
             obtain ⟨i0, i1, i2, i3, i4⟩ := HI1.out
             clear hb1)
          | (go_at_call 8; with_reducible refine (E1.out _ HT1.out).mono ?_; rintro e w2 ⟨rfl, hb2⟩
             have HT2 : Hid (Tabs w2) := Tabs.next HT1.out hb2
             have HI2 : Hid (InAt w2 _ _) := InAt.next HI1.out hb2
             have HJ2 : Hid (InAt w2 _ _) := InAt.next HJ1.out hb2
             have HB2 : Hid (Below w.heap.size w w2) := HB1.out.trans (hb2.mono HB1.out.size)
             obtain ⟨j0, j1, j2, j3, j4⟩ := HJ2.out
             clear hb2 i0 i1 i2 i3 i4)
          | (go_at_call 8; with_reducible refine (E2.out _ HT2.out).mono ?_; rintro e w3 ⟨rfl, hb3⟩
             have HB3 : Hid (Below w.heap.size w w3) := HB2.out.trans (hb3.mono HB2.out.size)
             obtain ⟨p0, p1, p2, p3, p4⟩ := InAt.next HI2.out hb3
             obtain ⟨q0, q1, q2, q3, q4⟩ := InAt.next HJ2.out hb3
             clear hb3 j0 j1 j2 j3 j4))
        all_goals
          first
            | (exfalso; exact he ⟨by assumption, by assumption, by assumption, by assumption, by assumption⟩)
            | (go_ret; exact ⟨rfl, HB3.out⟩)
      | some y =>
        have hv2 : encV ⟨c0, c1, c2, c3, c4⟩ = .tuple #[.int .u32 y, .bool true] := by unfold encV; rw [hj]
        rw [hv2] at E2
        clear hi hv hj hv2 HXY
        go_enter Tryd.func5, Tryd.ntmps5
        go_wp2_with (first
          | (go_at_call 7; with_reducible refine (speaks_any _ HT.out).mono ?_; rintro e w1 ⟨rfl, hb1⟩
             have HT1 : Hid (Tabs w1) := Tabs.next HT.out hb1
             have HI1 : Hid (InAt w1 _ _) := InAt.next HI.out hb1
             have HJ1 : Hid (InAt w1 _ _) := InAt.next HJ.out hb1
             have HB1 : Hid (Below w.heap.size w w1) := HBB.out.trans (hb1.mono HBB.out.size)
             obtain ⟨i0, i1, i2, i3, i4⟩ := HI1.out
             clear hb1)
          | (go_at_call 8; with_reducible refine (E1.out _ HT1.out).mono ?_; rintro e w2 ⟨rfl, hb2⟩
             have HT2 : Hid (Tabs w2) := Tabs.next HT1.out hb2
             have HI2 : Hid (InAt w2 _ _) := InAt.next HI1.out hb2
             have HJ2 : Hid (InAt w2 _ _) := InAt.next HJ1.out hb2
             have HB2 : Hid (Below w.heap.size w w2) := HB1.out.trans (hb2.mono HB1.out.size)
             obtain ⟨j0, j1, j2, j3, j4⟩ := HJ2.out
             clear hb2 i0 i1 i2 i3 i4)
          | (go_at_call 8; with_reducible refine (E2.out _ HT2.out).mono ?_; rintro e w3 ⟨rfl, hb3⟩
             have HB3 : Hid (Below w.heap.size w w3) := HB2.out.trans (hb3.mono HB2.out.size)
             obtain ⟨p0, p1, p2, p3, p4⟩ := InAt.next HI2.out hb3
             obtain ⟨q0, q1, q2, q3, q4⟩ := InAt.next HJ2.out hb3
             clear hb3 j0 j1 j2 j3 j4))
        all_goals
          first
            | (exfalso; exact he ⟨by assumption, by assumption, by assumption, by assumption, by assumption⟩)
            | (go_ret; exact ⟨rfl, HB3.out⟩)
    | some x =>
      have hv : encV ⟨a0, a1, a2, a3, a4⟩ = .tuple #[.int .u32 x, .bool true] := by unfold encV; rw [hi]
      rw [hv] at E1
      cases hj : encF ⟨c0, c1, c2, c3, c4⟩ with
      | none =>
        have hv2 : encV ⟨c0, c1, c2, c3, c4⟩ = .tuple #[.int .u32 0, .bool false] := by unfold encV; rw [hj]
        rw [hv2] at E2
        clear hi hv hj hv2 HXY
        go_enter Tryd.func5, Tryd.ntmps5
        go_wp2_with (first
          | (go_at_call 7; with_reducible refine (speaks_any _ HT.out).mono ?_; rintro e w1 ⟨rfl, hb1⟩
             have HT1 : Hid (Tabs w1) := Tabs.next HT.out hb1
             have HI1 : Hid (InAt w1 _ _) := InAt.next HI.out hb1
             have HJ1 : Hid (InAt w1 _ _) := InAt.next HJ.out hb1
             have HB1 : Hid (Below w.heap.size w w1) := HBB.out.trans (hb1.mono HBB.out.size)
             obtain ⟨i0, i1, i2, i3, i4⟩ := HI1.out
             clear hb1)
          | (go_at_call 8; with_reducible refine (E1.out _ HT1.out).mono ?_; rintro e w2 ⟨rfl, hb2⟩
             have HT2 : Hid (Tabs w2) := Tabs.next HT1.out hb2
             have HI2 : Hid (InAt w2 _ _) := InAt.next HI1.out hb2
             have HJ2 : Hid (InAt w2 _ _) := InAt.next HJ1.out hb2
             have HB2 : Hid (Below w.heap.size w w2) := HB1.out.trans (hb2.mono HB1.out.size)
             obtain ⟨j0, j1, j2, j3, j4⟩ := HJ2.out
             clear hb2 i0 i1 i2 i3 i4)
          | (go_at_call 8; with_reducible refine (E2.out _ HT2.out).mono ?_; rintro e w3 ⟨rfl, hb3⟩
             have HB3 : Hid (Below w.heap.size w w3) := HB2.out.trans (hb3.mono HB2.out.size)
             obtain ⟨p0, p1, p2, p3, p4⟩ := InAt.next HI2.out hb3
             obtain ⟨q0, q1, q2, q3, q4⟩ := InAt.next HJ2.out hb3
             clear hb3 j0 j1 j2 j3 j4))
        all_goals
          first
            | (exfalso; exact he ⟨by assumption, by assumption, by assumption, by assumption, by assumption⟩)
            | (go_ret; exact ⟨rfl, HB3.out⟩)
      | some y =>
        have hv2 : encV ⟨c0, c1, c2, c3, c4⟩ = .tuple #[.int .u32 y, .bool true] := by unfold encV; rw [hj]
        rw [hv2] at E2
        have hxy : x ≠ y := fun h => he ((HXY.out x y hi hj).1 h)
        have hxyb : ((x : Int) == (y : Int)) = false := by simp; omega
        clear hi hv hj hv2 HXY hxy
        go_enter Tryd.func5, Tryd.ntmps5
        go_wp2_with (first
          | (go_at_call 7; with_reducible refine (speaks_any _ HT.out).mono ?_; rintro e w1 ⟨rfl, hb1⟩
             have HT1 : Hid (Tabs w1) := Tabs.next HT.out hb1
             have HI1 : Hid (InAt w1 _ _) := InAt.next HI.out hb1
             have HJ1 : Hid (InAt w1 _ _) := InAt.next HJ.out hb1
             have HB1 : Hid (Below w.heap.size w w1) := HBB.out.trans (hb1.mono HBB.out.size)
             obtain ⟨i0, i1, i2, i3, i4⟩ := HI1.out
             clear hb1)
          | (go_at_call 8; with_reducible refine (E1.out _ HT1.out).mono ?_; rintro e w2 ⟨rfl, hb2⟩
             have HT2 : Hid (Tabs w2) := Tabs.next HT1.out hb2
             have HI2 : Hid (InAt w2 _ _) := InAt.next HI1.out hb2
             have HJ2 : Hid (InAt w2 _ _) := InAt.next HJ1.out hb2
             have HB2 : Hid (Below w.heap.size w w2) := HB1.out.trans (hb2.mono HB1.out.size)
             obtain ⟨j0, j1, j2, j3, j4⟩ := HJ2.out
             clear hb2 i0 i1 i2 i3 i4)
          | (go_at_call 8; with_reducible refine (E2.out _ HT2.out).mono ?_; rintro e w3 ⟨rfl, hb3⟩
             have HB3 : Hid (Below w.heap.size w w3) := HB2.out.trans (hb3.mono HB2.out.size)
             obtain ⟨p0, p1, p2, p3, p4⟩ := InAt.next HI2.out hb3
             obtain ⟨q0, q1, q2, q3, q4⟩ := InAt.next HJ2.out hb3
             clear hb3 j0 j1 j2 j3 j4))
        all_goals
          first
            | (exfalso; exact he ⟨by assumption, by assumption, by assumption, by assumption, by assumption⟩)
            | (go_ret; exact ⟨rfl, HB3.out⟩)
            | (go_ret; exact ⟨by simp [hxyb], HB3.out⟩)
end Go.Proofs.YtmfmakkiefgogabDoor
