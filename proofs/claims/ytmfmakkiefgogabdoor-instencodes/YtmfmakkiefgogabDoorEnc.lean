/-
  Layer 6: the walk of InstEncodes. Conditions: the tables hold the forms and the codes.
-/
import Derived.Test.YtmfmakkiefgogabDoorM8
namespace Go.Proofs.YtmfmakkiefgogabDoor
open Go.RowKit
set_option linter.unusedVariables false

theorem in27' (w : World) (a b c d e : Int) : InAt (w.alloc (.cells #[.int .i64 a, .int .i64 b, .int .i64 c, .int .i64 d, .int .i64 e] 27)) w.heap.size ⟨a, b, c, d, e⟩ := box27 w a b c d e

set_option maxRecDepth 10000 in
set_option maxHeartbeats 3200000 in
theorem encodes_none (a0 a1 a2 a3 a4 : Int) (w : World) (ht : Tabs w) (hi : encF ⟨a0, a1, a2, a3, a4⟩ = none) :
    Calls Tryd.prog 3 #[.agg #[.int .i64 a0, .int .i64 a1, .int .i64 a2, .int .i64 a3, .int .i64 a4]] w fun e w' => e = .returned (.bool true) ∧ Below w.heap.size w w' := by
  have hv : encV ⟨a0, a1, a2, a3, a4⟩ = .tuple #[.int .u32 0, .bool false] := by unfold encV; rw [hi]
  have E1 : Hid (∀ W, Tabs W → Calls Tryd.prog 8 #[.agg #[.int .i64 a0, .int .i64 a1, .int .i64 a2, .int .i64 a3, .int .i64 a4]] W fun e w' => e = .returned (.tuple #[.int .u32 0, .bool false]) ∧ Below W.heap.size W w') := fun W h => by
    have := enc_any ⟨a0, a1, a2, a3, a4⟩ W h
    rw [hv] at this
    exact this
  have M1 : Hid (∀ W, Calls Tryd.prog 9 #[.agg #[.int .i64 a0, .int .i64 a1, .int .i64 a2, .int .i64 a3, .int .i64 a4]] W fun e w' => e = .returned (.bool false) ∧ Below W.heap.size W w') := fun W => by
    have := may_any ⟨a0, a1, a2, a3, a4⟩ W
    rw [hi] at this
    exact this
  clear hv hi
  have hbb : Below w.heap.size w (w.alloc (.cells #[.int .i64 a0, .int .i64 a1, .int .i64 a2, .int .i64 a3, .int .i64 a4] 23)) := by go_grown
  have HI : Hid (InAt (w.alloc (.cells #[.int .i64 a0, .int .i64 a1, .int .i64 a2, .int .i64 a3, .int .i64 a4] 23)) w.heap.size ⟨a0, a1, a2, a3, a4⟩) := box23 w a0 a1 a2 a3 a4
  have HT : Hid (Tabs (w.alloc (.cells #[.int .i64 a0, .int .i64 a1, .int .i64 a2, .int .i64 a3, .int .i64 a4] 23))) := ht.next hbb
  have HBB : Hid (Below w.heap.size w (w.alloc (.cells #[.int .i64 a0, .int .i64 a1, .int .i64 a2, .int .i64 a3, .int .i64 a4] 23))) := hbb
  clear hbb ht
  go_enter Tryd.func3, Tryd.ntmps3
  go_wp2_with (first
    | (go_at_call 7; with_reducible refine (speaks_any _ HT.out).mono ?_; rintro e w1 ⟨rfl, hb1⟩
       have HT1 : Hid (Tabs w1) := Tabs.next HT.out hb1
       have HB1 : Hid (Below w.heap.size w w1) := HBB.out.trans (hb1.mono HBB.out.size)
       have HI1 : Hid (InAt w1 w.heap.size ⟨a0, a1, a2, a3, a4⟩) := InAt.next HI.out hb1
       obtain ⟨i0, i1, i2, i3, i4⟩ := HI1.out
       have HT2 : Hid (Tabs (w1.alloc (.cells #[.int .i64 a0, .int .i64 a1, .int .i64 a2, .int .i64 a3, .int .i64 a4] 27))) := Tabs.next HT1.out (by go_grown)
       have HI2 : Hid (InAt (w1.alloc (.cells #[.int .i64 a0, .int .i64 a1, .int .i64 a2, .int .i64 a3, .int .i64 a4] 27)) w.heap.size ⟨a0, a1, a2, a3, a4⟩) := InAt.next HI1.out (by go_grown)
       clear hb1)
    | (go_at_call 8; with_reducible refine (E1.out _ HT2.out).mono ?_; rintro e w2 ⟨rfl, hb2⟩
       have HB2 : Hid (Below w.heap.size w w2) := (HB1.out.alloc HB1.out.size _).trans (hb2.mono (Nat.le_trans HB1.out.size (by simp)))
       obtain ⟨p0, p1, p2, p3, p4⟩ := InAt.next HI2.out hb2
       clear hb2 i0 i1 i2 i3 i4)
    | (go_at_call 9; with_reducible refine (M1.out _).mono ?_; rintro e w3 ⟨rfl, hb3⟩
       have HB3 : Hid (Below w.heap.size w w3) := HB2.out.trans (hb3.mono HB2.out.size)
       clear hb3 p0 p1 p2 p3 p4))
  go_ret
  exact ⟨rfl, HB3.out⟩

set_option maxRecDepth 10000 in
set_option maxHeartbeats 3200000 in
theorem encodes_some (a0 a1 a2 a3 a4 : Int) (x : Nat) (w : World) (ht : Tabs w) (hi : encF ⟨a0, a1, a2, a3, a4⟩ = some x) (hx : x < 4294967296) :
    Calls Tryd.prog 3 #[.agg #[.int .i64 a0, .int .i64 a1, .int .i64 a2, .int .i64 a3, .int .i64 a4]] w fun e w' => e = .returned (.bool true) ∧ Below w.heap.size w w' := by
  have hv : encV ⟨a0, a1, a2, a3, a4⟩ = .tuple #[.int .u32 x, .bool true] := by unfold encV; rw [hi]
  have hdv : decV x = .tuple #[.agg #[.int .i64 a0, .int .i64 a1, .int .i64 a2, .int .i64 a3, .int .i64 a4], .bool true] := by unfold decV; rw [encF_dec hi]; rfl
  have E1 : Hid (∀ W, Tabs W → Calls Tryd.prog 8 #[.agg #[.int .i64 a0, .int .i64 a1, .int .i64 a2, .int .i64 a3, .int .i64 a4]] W fun e w' => e = .returned (.tuple #[.int .u32 x, .bool true]) ∧ Below W.heap.size W w') := fun W h => by
    have := enc_any ⟨a0, a1, a2, a3, a4⟩ W h
    rw [hv] at this
    exact this
  have M1 : Hid (∀ W, Calls Tryd.prog 9 #[.agg #[.int .i64 a0, .int .i64 a1, .int .i64 a2, .int .i64 a3, .int .i64 a4]] W fun e w' => e = .returned (.bool true) ∧ Below W.heap.size W w') := fun W => by
    have := may_any ⟨a0, a1, a2, a3, a4⟩ W
    rw [hi] at this
    exact this
  have D1 : Hid (∀ W, Calls Tryd.prog 10 #[.int .u32 x] W fun e w' => e = .returned (.tuple #[.agg #[.int .i64 a0, .int .i64 a1, .int .i64 a2, .int .i64 a3, .int .i64 a4], .bool true]) ∧ Below W.heap.size W w') := fun W => by
    have := refdec_any x W hx
    rw [hdv] at this
    exact this
  clear hv hi hdv
  have hbb : Below w.heap.size w (w.alloc (.cells #[.int .i64 a0, .int .i64 a1, .int .i64 a2, .int .i64 a3, .int .i64 a4] 23)) := by go_grown
  have HI : Hid (InAt (w.alloc (.cells #[.int .i64 a0, .int .i64 a1, .int .i64 a2, .int .i64 a3, .int .i64 a4] 23)) w.heap.size ⟨a0, a1, a2, a3, a4⟩) := box23 w a0 a1 a2 a3 a4
  have HT : Hid (Tabs (w.alloc (.cells #[.int .i64 a0, .int .i64 a1, .int .i64 a2, .int .i64 a3, .int .i64 a4] 23))) := ht.next hbb
  have HBB : Hid (Below w.heap.size w (w.alloc (.cells #[.int .i64 a0, .int .i64 a1, .int .i64 a2, .int .i64 a3, .int .i64 a4] 23))) := hbb
  clear hbb ht
  go_enter Tryd.func3, Tryd.ntmps3
  go_wp2_with (first
    | (go_at_call 7; with_reducible refine (speaks_any _ HT.out).mono ?_; rintro e w1 ⟨rfl, hb1⟩
       have HT1 : Hid (Tabs w1) := Tabs.next HT.out hb1
       have HB1 : Hid (Below w.heap.size w w1) := HBB.out.trans (hb1.mono HBB.out.size)
       have HI1 : Hid (InAt w1 w.heap.size ⟨a0, a1, a2, a3, a4⟩) := InAt.next HI.out hb1
       obtain ⟨i0, i1, i2, i3, i4⟩ := HI1.out
       have HT2 : Hid (Tabs (w1.alloc (.cells #[.int .i64 a0, .int .i64 a1, .int .i64 a2, .int .i64 a3, .int .i64 a4] 27))) := Tabs.next HT1.out (by go_grown)
       have HI2 : Hid (InAt (w1.alloc (.cells #[.int .i64 a0, .int .i64 a1, .int .i64 a2, .int .i64 a3, .int .i64 a4] 27)) w.heap.size ⟨a0, a1, a2, a3, a4⟩) := InAt.next HI1.out (by go_grown)
       clear hb1)
    | (go_at_call 8; with_reducible refine (E1.out _ HT2.out).mono ?_; rintro e w2 ⟨rfl, hb2⟩
       have HB2 : Hid (Below w.heap.size w w2) := (HB1.out.alloc HB1.out.size _).trans (hb2.mono (Nat.le_trans HB1.out.size (by simp)))
       have HI3 : Hid (InAt w2 w.heap.size ⟨a0, a1, a2, a3, a4⟩) := InAt.next HI2.out hb2
       obtain ⟨p0, p1, p2, p3, p4⟩ := HI3.out
       clear hb2 i0 i1 i2 i3 i4)
    | (go_at_call 9; with_reducible refine (M1.out _).mono ?_; rintro e w3 ⟨rfl, hb3⟩
       have HB3 : Hid (Below w.heap.size w w3) := HB2.out.trans (hb3.mono HB2.out.size)
       have HI4 : Hid (InAt w3 w.heap.size ⟨a0, a1, a2, a3, a4⟩) := InAt.next HI3.out hb3
       clear hb3 p0 p1 p2 p3 p4)
    | (go_at_call 10; with_reducible refine (D1.out _).mono ?_; rintro e w4 ⟨rfl, hb4⟩
       have HB4 : Hid (Below w.heap.size w w4) := HB3.out.trans (hb4.mono HB3.out.size)
       have hz : w.heap.size < w4.heap.size := by
         have h1 := World.block_lt_of_cell? _ _ (InAt.next HI4.out hb4).1
         exact h1
       obtain ⟨q0, q1, q2, q3, q4⟩ := InAt.next HI4.out hb4
       clear hb4))
  go_ret
  exact ⟨rfl, by exact HB4.out.alloc HB4.out.size _⟩

theorem encodes_any (i : In) (w : World) (ht : Tabs w) :
    Calls Tryd.prog 3 #[i.agg] w fun e w' => e = .returned (.bool true) ∧ Below w.heap.size w w' := by
  obtain ⟨a0, a1, a2, a3, a4⟩ := i
  cases hi : encF ⟨a0, a1, a2, a3, a4⟩ with
  | none => exact encodes_none a0 a1 a2 a3 a4 w ht hi
  | some x =>
    refine encodes_some a0 a1 a2 a3 a4 x w ht hi ?_
    unfold encF at hi
    split at hi
    · obtain rfl := Option.some.inj hi
      exact encW_lt _ _
    · cases hi
end Go.Proofs.YtmfmakkiefgogabDoor
