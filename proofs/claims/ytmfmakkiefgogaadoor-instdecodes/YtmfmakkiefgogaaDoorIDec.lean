/-
  Layer 6: the walk of InstDecodes. Conditions: the tables hold the forms and the codes.
-/
import Derived.Test.YtmfmakkiefgogaaDoorIP
import Derived.Deep.DeepCutAuto
import Derived.Test.YtmfmakkiefgogaaDoorISpeaks
import Derived.Test.YtmfmakkiefgogaaDoorIR7
import Derived.Test.YtmfmakkiefgogaaDoorIM5
namespace Go.Proofs.YtmfmakkiefgogaaDoor
open Go.RowKit
set_option linter.unusedVariables false

theorem decF_enc (x : Nat) (hx : x < 4294967296) (i : In) (h : decF x = some i) : encV i = .tuple #[.int .u32 x, .bool true] := by
  unfold decF at h
  cases hk : kindF x with
  | none => rw [hk] at h; cases h
  | some k =>
    rw [hk] at h
    obtain rfl := Option.some.inj h
    obtain ⟨h1, h2⟩ := kindF_lt hk
    unfold encV
    simp only
    rw [enc_dec x k hx h1 h2]
theorem encV_two (i : In) : ∃ (n : Nat) (q : Bool), encV i = .tuple #[.int .u32 n, .bool q] := by
  unfold encV
  split
  · exact ⟨_, _, rfl⟩
  · exact ⟨0, _, rfl⟩

set_option maxRecDepth 10000 in
set_option maxHeartbeats 3200000 in
theorem decodes_at (x n : Nat) (a0 a1 a2 a3 a4 : Int) (ok q : Bool) (w : World) (ht : Tabs w) (hx : x < 4294967296)
    (hd : decV x = .tuple #[.agg #[.int .i64 a0, .int .i64 a1, .int .i64 a2, .int .i64 a3, .int .i64 a4], .bool ok])
    (he : encV ⟨a0, a1, a2, a3, a4⟩ = .tuple #[.int .u32 n, .bool q]) (hq : ok = false ∨ (q = true ∧ n = x)) :
    Calls Tryd.prog 8 #[.int .u32 x] w fun e w' => e = .returned (.bool true) ∧ Below w.heap.size w w' := by
  have D1 : Hid (∀ W, Tabs W → Calls Tryd.prog 18 #[.int .u32 x] W fun e w' => e = .returned (.tuple #[.agg #[.int .i64 a0, .int .i64 a1, .int .i64 a2, .int .i64 a3, .int .i64 a4], .bool ok]) ∧ Below W.heap.size W w') := fun W h => by
    have := dec_any x W hx h
    rw [hd] at this
    exact this
  have D2 : Hid (∀ W, Calls Tryd.prog 19 #[.int .u32 x] W fun e w' => e = .returned (.tuple #[.agg #[.int .i64 a0, .int .i64 a1, .int .i64 a2, .int .i64 a3, .int .i64 a4], .bool ok]) ∧ Below W.heap.size W w') := fun W => by
    have := refdec_any x W hx
    rw [hd] at this
    exact this
  have E1 : Hid (∀ W, Tabs W → Calls Tryd.prog 21 #[.agg #[.int .i64 a0, .int .i64 a1, .int .i64 a2, .int .i64 a3, .int .i64 a4]] W fun e w' => e = .returned (.tuple #[.int .u32 n, .bool q]) ∧ Below W.heap.size W w') := fun W h => by
    have := enc_any ⟨a0, a1, a2, a3, a4⟩ W h
    rw [he] at this
    exact this
  have PA : Hid (∀ W, Calls Tryd.prog 20 #[.agg #[.int .i64 a0, .int .i64 a1, .int .i64 a2, .int .i64 a3, .int .i64 a4]] W fun r w' => r = .returned (.agg #[.int .i64 a0, .int .i64 a1, .int .i64 a2, .int .i64 a3, .int .i64 a4]) ∧ Gr W w') := fun W => plain_any a0 a1 a2 a3 a4 W
  have HT : Hid (Tabs w) := ht
  have hoo : (ok != ok) = false := by cases ok <;> rfl
  have mixed := mixedTry
  clear hd he ht
  go_enter Tryd.func8, Tryd.ntmps8
  go_upto_region 5 with (first
    | (go_at_call 17; with_reducible refine (speaks_any _ HT.out).mono ?_; rintro e w1 ⟨rfl, hb1⟩
       have HT1 : Hid (Tabs w1) := Tabs.next HT.out hb1
       have HB1 : Hid (Below w.heap.size w w1) := hb1
       clear hb1)
    | (go_at_call 18; with_reducible refine (D1.out _ HT1.out).mono ?_; rintro e w2 ⟨rfl, hb2⟩
       have HB2 : Hid (Below w.heap.size w w2) := HB1.out.trans (hb2.mono HB1.out.size)
       have HT2 : Hid (Tabs w2) := Tabs.next HT1.out hb2
       have HI2 : Hid (InAt (w2.alloc (.cells #[.int .i64 a0, .int .i64 a1, .int .i64 a2, .int .i64 a3, .int .i64 a4] 40)) w2.heap.size ⟨a0, a1, a2, a3, a4⟩) := in40 w2 a0 a1 a2 a3 a4
       clear hb2)
    | (go_at_call 19; with_reducible refine (D2.out _).mono ?_; rintro e w3 ⟨rfl, hb3⟩
       have HB3 : Hid (Below w.heap.size w w3) := (HB2.out.alloc HB2.out.size _).trans (hb3.mono (Nat.le_trans HB2.out.size (by simp)))
       have HT3 : Hid (Tabs w3) := Tabs.next (Tabs.next HT2.out (show Below w2.heap.size w2 (w2.alloc (.cells #[.int .i64 a0, .int .i64 a1, .int .i64 a2, .int .i64 a3, .int .i64 a4] 40)) by go_grown)) hb3
       have HI3 : Hid (InAt w3 w2.heap.size ⟨a0, a1, a2, a3, a4⟩) := InAt.next HI2.out hb3
       clear hb3))
  have hb4 : Below w3.heap.size w3 (w3.alloc (.cells #[.int .i64 a0, .int .i64 a1, .int .i64 a2, .int .i64 a3, .int .i64 a4] 44)) := by go_grown
  have HI4 : Hid (InAt (w3.alloc (.cells #[.int .i64 a0, .int .i64 a1, .int .i64 a2, .int .i64 a3, .int .i64 a4] 44)) w2.heap.size ⟨a0, a1, a2, a3, a4⟩) := InAt.next HI3.out hb4
  have HJ4 : Hid (InAt (w3.alloc (.cells #[.int .i64 a0, .int .i64 a1, .int .i64 a2, .int .i64 a3, .int .i64 a4] 44)) w3.heap.size ⟨a0, a1, a2, a3, a4⟩) := in44 w3 a0 a1 a2 a3 a4
  have HT4 : Hid (Tabs (w3.alloc (.cells #[.int .i64 a0, .int .i64 a1, .int .i64 a2, .int .i64 a3, .int .i64 a4] 44))) := Tabs.next HT3.out hb4
  have HB4 : Hid (Below w.heap.size w (w3.alloc (.cells #[.int .i64 a0, .int .i64 a1, .int .i64 a2, .int .i64 a3, .int .i64 a4] 44))) := HB3.out.trans (hb4.mono HB3.out.size)
  clear hb4
  generalize w2.heap.size = B at *
  generalize w3.heap.size = C at *
  generalize w3.alloc (.cells #[.int .i64 a0, .int .i64 a1, .int .i64 a2, .int .i64 a3, .int .i64 a4] 44) = W at *
  obtain ⟨b0, b1, b2, b3, b4⟩ := HI4.out
  obtain ⟨c0, c1, c2, c3, c4⟩ := HJ4.out
  have z0 := fun n os => Go.cell_grown (World.block_lt_of_cell? _ _ b0) b0 n os
  have z1 := fun n os => Go.cell_grown (World.block_lt_of_cell? _ _ b1) b1 n os
  have z2 := fun n os => Go.cell_grown (World.block_lt_of_cell? _ _ b2) b2 n os
  have z3 := fun n os => Go.cell_grown (World.block_lt_of_cell? _ _ b3) b3 n os
  have z4 := fun n os => Go.cell_grown (World.block_lt_of_cell? _ _ b4) b4 n os
  have y0 := fun n os => Go.cell_grown (World.block_lt_of_cell? _ _ c0) c0 n os
  have y1 := fun n os => Go.cell_grown (World.block_lt_of_cell? _ _ c1) c1 n os
  have y2 := fun n os => Go.cell_grown (World.block_lt_of_cell? _ _ c2) c2 n os
  have y3 := fun n os => Go.cell_grown (World.block_lt_of_cell? _ _ c3) c3 n os
  have y4 := fun n os => Go.cell_grown (World.block_lt_of_cell? _ _ c4) c4 n os
  clear b0 b1 b2 b3 b4 c0 c1 c2 c3 c4
  have PB := PA.out
  go_quiet_grown (first | (go_at_call 20; with_reducible refine Calls.grown_of (Gr.call PB)))
  have hbg : Below W.heap.size W (Go.Sort.grow (W.drewN nq) osq) := Go.Proofs.below_grown_sl _ _ _ _ (Nat.le_refl _)
  have HT5 : Hid (Tabs (Go.Sort.grow (W.drewN nq) osq)) := Tabs.next HT4.out hbg
  have HB5 : Hid (Below w.heap.size w (Go.Sort.grow (W.drewN nq) osq)) := HB4.out.trans (hbg.mono HB4.out.size)
  obtain ⟨b0, b1, b2, b3, b4⟩ := InAt.next HI4.out hbg
  clear z0 z1 z2 z3 z4 y0 y1 y2 y3 y4 hbg PB
  generalize Go.Sort.grow (W.drewN nq) osq = V at *
  rcases hq with rfl | ⟨rfl, rfl⟩
  · go_wp2_with (first | (go_at_call 21; refine (E1.out _ HT5.out).mono ?_; rintro e w6 ⟨rfl, hb6⟩; have HB6 : Hid (Below w.heap.size w w6) := HB5.out.trans (hb6.mono HB5.out.size); clear hb6))
    go_ret
    exact ⟨rfl, HB6.out⟩
  · cases ok
    all_goals
      go_wp2_with (first | (go_at_call 21; refine (E1.out _ HT5.out).mono ?_; rintro e w6 ⟨rfl, hb6⟩; have HB6 : Hid (Below w.heap.size w w6) := HB5.out.trans (hb6.mono HB5.out.size); clear hb6))
      go_ret
      exact ⟨rfl, HB6.out⟩

theorem decodes_any (x : Nat) (w : World) (hx : x < 4294967296) (ht : Tabs w) :
    Calls Tryd.prog 8 #[.int .u32 x] w fun e w' => e = .returned (.bool true) ∧ Below w.heap.size w w' := by
  cases h : decF x with
  | none =>
    obtain ⟨n, q, he⟩ := encV_two ⟨0, 0, 0, 0, 0⟩
    exact decodes_at x n 0 0 0 0 0 false q w ht hx (by unfold decV; rw [h]; rfl) he (.inl rfl)
  | some i =>
    have he := decF_enc x hx i h
    obtain ⟨a0, a1, a2, a3, a4⟩ := i
    exact decodes_at x x a0 a1 a2 a3 a4 true true w ht hx (by unfold decV; rw [h]; rfl) he (.inr ⟨rfl, rfl⟩)
end Go.Proofs.YtmfmakkiefgogaaDoor
