/-
  Layer 6: the walk of InstFields. Conditions: the tables hold the forms and the codes.
-/
import Derived.Test.YtmfmakkiefgogabDoorF1
import Derived.Test.YtmfmakkiefgogabDoorN1
import Derived.Test.YtmfmakkiefgogabDoorApart
namespace Go.Proofs.YtmfmakkiefgogabDoor
open Go.RowKit
set_option linter.unusedVariables false

theorem and31_i64 (n : Int) : bits .and .i64 n 31 = n % 32 := by
  have h31 : (BitVec.ofInt 64 31).toNat = 2 ^ 5 - 1 := by decide
  have key : (BitVec.ofInt 64 n &&& BitVec.ofInt 64 31).toNat = (n % ((2 ^ 64 : Nat) : Int)).toNat % 2 ^ 5 := by
    rw [BitVec.toNat_and, BitVec.toNat_ofInt, h31, Nat.and_two_pow_sub_one_eq_mod]
  show IntKind.i64.wrap ((BitVec.ofInt 64 n &&& BitVec.ofInt 64 31).toNat : Nat) = n % 32
  rw [key, IntKind.wrap_i64]
  omega

theorem letters (k : Nat) (hk : k < 64) : formAt k = 66 ∨ formAt k = 83 ∨ formAt k = 78 ∨ hasRd (formAt k) := by
  have h : ∀ k, k < 64 → formAt k = 66 ∨ formAt k = 83 ∨ formAt k = 78 ∨ (formAt k = 85 ∨ formAt k = 74 ∨ formAt k = 73 ∨ formAt k = 72 ∨ formAt k = 75 ∨ formAt k = 82) := by decide +kernel
  exact h k hk

theorem in27 (w : World) (a b c d e : Int) : InAt (w.alloc (.cells #[.int .i64 a, .int .i64 b, .int .i64 c, .int .i64 d, .int .i64 e] 27)) w.heap.size ⟨a, b, c, d, e⟩ := box27 w a b c d e

set_option maxRecDepth 10000 in
set_option maxHeartbeats 3200000 in
theorem fields_none (a0 a1 a2 a3 a4 rd : Int) (w : World) (ht : Tabs w) (hi : encF ⟨a0, a1, a2, a3, a4⟩ = none) :
    Calls Tryd.prog 6 #[.agg #[.int .i64 a0, .int .i64 a1, .int .i64 a2, .int .i64 a3, .int .i64 a4], .int .i64 rd] w fun e w' => e = .returned (.bool true) ∧ Below w.heap.size w w' := by
  have hv : encV ⟨a0, a1, a2, a3, a4⟩ = .tuple #[.int .u32 0, .bool false] := by unfold encV; rw [hi]
  have E1 : Hid (∀ W, Tabs W → Calls Tryd.prog 8 #[.agg #[.int .i64 a0, .int .i64 a1, .int .i64 a2, .int .i64 a3, .int .i64 a4]] W fun e w' => e = .returned (.tuple #[.int .u32 0, .bool false]) ∧ Below W.heap.size W w') := fun W h => by
    have := enc_any ⟨a0, a1, a2, a3, a4⟩ W h
    rw [hv] at this
    exact this
  clear hv hi
  have FA : Hid (∀ W, Tabs W → Calls Tryd.prog 14 #[.int .i64 a0] W fun e w' => (∃ f, e = .returned (.int .u8 f)) ∧ w' = W) := by
    intro W h
    by_cases ho : 0 ≤ a0 ∧ a0 < 64
    · obtain ⟨k, rfl⟩ := Int.eq_ofNat_of_zero_le ho.1
      exact (form_any k W (by omega) h).mono fun e w' h => ⟨⟨_, h.1⟩, h.2⟩
    · exact (form_none a0 W (by omega)).mono fun e w' h => ⟨⟨_, h.1⟩, h.2⟩
  have hbb : Below w.heap.size w (w.alloc (.cells #[.int .i64 a0, .int .i64 a1, .int .i64 a2, .int .i64 a3, .int .i64 a4] 23)) := by go_grown
  have HI : Hid (InAt (w.alloc (.cells #[.int .i64 a0, .int .i64 a1, .int .i64 a2, .int .i64 a3, .int .i64 a4] 23)) w.heap.size ⟨a0, a1, a2, a3, a4⟩) := box23 w a0 a1 a2 a3 a4
  have HT : Hid (Tabs (w.alloc (.cells #[.int .i64 a0, .int .i64 a1, .int .i64 a2, .int .i64 a3, .int .i64 a4] 23))) := ht.next hbb
  have HBB : Hid (Below w.heap.size w (w.alloc (.cells #[.int .i64 a0, .int .i64 a1, .int .i64 a2, .int .i64 a3, .int .i64 a4] 23))) := hbb
  clear hbb ht
  go_enter Tryd.func6, Tryd.ntmps6
  go_wp2_with (first
    | (go_at_call 7; with_reducible refine (speaks_any _ HT.out).mono ?_; rintro e w1 ⟨rfl, hb1⟩
       have HT1 : Hid (Tabs w1) := Tabs.next HT.out hb1
       have HB1 : Hid (Below w.heap.size w w1) := HBB.out.trans (hb1.mono HBB.out.size)
       obtain ⟨i0, i1, i2, i3, i4⟩ := InAt.next HI.out hb1
       have HT2 : Hid (Tabs (w1.alloc (.cells #[.int .i64 a0, .int .i64 a1, .int .i64 a2, .int .i64 a3, .int .i64 a4] 27))) := Tabs.next HT1.out (by go_grown)
       have HY : Hid (InAt (w1.alloc (.cells #[.int .i64 a0, .int .i64 a1, .int .i64 a2, .int .i64 a3, .int .i64 a4] 27)) w1.heap.size ⟨a0, a1, a2, a3, a4⟩) := in27 w1 a0 a1 a2 a3 a4
       clear hb1)
    | (go_at_call 8; with_reducible refine (E1.out _ HT2.out).mono ?_; rintro e w2 ⟨rfl, hb2⟩
       have HT3 : Hid (Tabs w2) := Tabs.next HT2.out hb2
       have HB2 : Hid (Below w.heap.size w w2) := (HB1.out.alloc HB1.out.size _).trans (hb2.mono (Nat.le_trans HB1.out.size (by simp)))
       obtain ⟨j0, j1, j2, j3, j4⟩ := InAt.next HY.out hb2
       clear hb2 i0 i1 i2 i3 i4)
    | (go_at_call 14; with_reducible refine (FA.out _ HT3.out).mono ?_; rintro e w3 ⟨⟨f, rfl⟩, hw⟩; subst hw))
  go_ret
  exact ⟨rfl, HB2.out⟩

set_option maxRecDepth 10000 in
set_option maxHeartbeats 3200000 in
theorem fields_other (k : Nat) (q a2 a3 a4 rd : Int) (x : Nat) (w : World) (ht : Tabs w) (hk : k < 64) (hi : encF ⟨k, q, a2, a3, a4⟩ = some x) (hf : formAt k = 66 ∨ formAt k = 83 ∨ formAt k = 78) :
    Calls Tryd.prog 6 #[.agg #[.int .i64 k, .int .i64 q, .int .i64 a2, .int .i64 a3, .int .i64 a4], .int .i64 rd] w fun e w' => e = .returned (.bool true) ∧ Below w.heap.size w w' := by
  have hv : encV ⟨k, q, a2, a3, a4⟩ = .tuple #[.int .u32 x, .bool true] := by unfold encV; rw [hi]
  have E1 : Hid (∀ W, Tabs W → Calls Tryd.prog 8 #[.agg #[.int .i64 k, .int .i64 q, .int .i64 a2, .int .i64 a3, .int .i64 a4]] W fun e w' => e = .returned (.tuple #[.int .u32 x, .bool true]) ∧ Below W.heap.size W w') := fun W h => by
    have := enc_any ⟨k, q, a2, a3, a4⟩ W h
    rw [hv] at this
    exact this
  clear hv hi
  have hbb : Below w.heap.size w (w.alloc (.cells #[.int .i64 k, .int .i64 q, .int .i64 a2, .int .i64 a3, .int .i64 a4] 23)) := by go_grown
  have HI : Hid (InAt (w.alloc (.cells #[.int .i64 k, .int .i64 q, .int .i64 a2, .int .i64 a3, .int .i64 a4] 23)) w.heap.size ⟨k, q, a2, a3, a4⟩) := box23 w k q a2 a3 a4
  have HT : Hid (Tabs (w.alloc (.cells #[.int .i64 k, .int .i64 q, .int .i64 a2, .int .i64 a3, .int .i64 a4] 23))) := ht.next hbb
  have HBB : Hid (Below w.heap.size w (w.alloc (.cells #[.int .i64 k, .int .i64 q, .int .i64 a2, .int .i64 a3, .int .i64 a4] 23))) := hbb
  have FA : Hid (∀ W, Tabs W → Calls Tryd.prog 14 #[.int .i64 k] W fun e w' => e = .returned (.int .u8 (formAt k)) ∧ w' = W) := fun W h => form_any k W hk h
  clear hbb ht
  generalize formAt k = fm at *
  rcases hf with rfl | rfl | rfl
  all_goals
    go_enter Tryd.func6, Tryd.ntmps6
    go_wp2_with (first
      | (go_at_call 7; with_reducible refine (speaks_any _ HT.out).mono ?_; rintro e w1 ⟨rfl, hb1⟩
         have HT1 : Hid (Tabs w1) := Tabs.next HT.out hb1
         have HB1 : Hid (Below w.heap.size w w1) := HBB.out.trans (hb1.mono HBB.out.size)
         have HI1 : Hid (InAt w1 w.heap.size ⟨k, q, a2, a3, a4⟩) := InAt.next HI.out hb1
         obtain ⟨i0, i1, i2, i3, i4⟩ := HI1.out
         have HT2 : Hid (Tabs (w1.alloc (.cells #[.int .i64 k, .int .i64 q, .int .i64 a2, .int .i64 a3, .int .i64 a4] 27))) := Tabs.next HT1.out (by go_grown)
         have HI2 : Hid (InAt (w1.alloc (.cells #[.int .i64 k, .int .i64 q, .int .i64 a2, .int .i64 a3, .int .i64 a4] 27)) w.heap.size ⟨k, q, a2, a3, a4⟩) := InAt.next HI1.out (by go_grown)
         have HY : Hid (InAt (w1.alloc (.cells #[.int .i64 k, .int .i64 q, .int .i64 a2, .int .i64 a3, .int .i64 a4] 27)) w1.heap.size ⟨k, q, a2, a3, a4⟩) := in27 w1 k q a2 a3 a4
         clear hb1)
      | (go_at_call 8; with_reducible refine (E1.out _ HT2.out).mono ?_; rintro e w2 ⟨rfl, hb2⟩
         have HT3 : Hid (Tabs w2) := Tabs.next HT2.out hb2
         have HB2 : Hid (Below w.heap.size w w2) := (HB1.out.alloc HB1.out.size _).trans (hb2.mono (Nat.le_trans HB1.out.size (by simp)))
         obtain ⟨j0, j1, j2, j3, j4⟩ := InAt.next HY.out hb2
         obtain ⟨p0, p1, p2, p3, p4⟩ := InAt.next HI2.out hb2
         clear hb2 i0 i1 i2 i3 i4)
      | (go_at_call 14; with_reducible refine (FA.out _ HT3.out).mono ?_; rintro e w3 ⟨rfl, hw⟩; subst hw))
    go_ret
    exact ⟨rfl, HB2.out⟩

set_option maxRecDepth 10000 in
set_option maxHeartbeats 3200000 in
theorem fields_some (k : Nat) (q : Nat) (a2 a3 a4 rd : Int) (x : Nat) (w : World) (ht : Tabs w) (hk : k < 64) (hi : encF ⟨k, q, a2, a3, a4⟩ = some x) (hf : hasRd (formAt k)) (hq : ((x / 128 % 32 : Nat) : Int) = q) (hxl : x < 4294967296)
    (hz : encF ⟨k, rd % 32, a2, a3, a4⟩ = some ((x &&& 4294963327) ||| (rd % 32).toNat * 128)) :
    Calls Tryd.prog 6 #[.agg #[.int .i64 k, .int .i64 q, .int .i64 a2, .int .i64 a3, .int .i64 a4], .int .i64 rd] w fun e w' => e = .returned (.bool true) ∧ Below w.heap.size w w' := by
  have hv : encV ⟨k, q, a2, a3, a4⟩ = .tuple #[.int .u32 x, .bool true] := by unfold encV; rw [hi]
  have E1 : Hid (∀ W, Tabs W → Calls Tryd.prog 8 #[.agg #[.int .i64 k, .int .i64 q, .int .i64 a2, .int .i64 a3, .int .i64 a4]] W fun e w' => e = .returned (.tuple #[.int .u32 x, .bool true]) ∧ Below W.heap.size W w') := fun W h => by
    have := enc_any ⟨k, q, a2, a3, a4⟩ W h
    rw [hv] at this
    exact this
  obtain ⟨b, hb⟩ : ∃ b : Nat, b = (rd % 32).toNat := ⟨_, rfl⟩
  have hb32 : b < 32 := by omega
  have hrd : bits .and .i64 rd 31 = (b : Int) := by rw [and31_i64]; omega
  have hrdm : rd % 32 = (b : Int) := by omega
  rw [← hb, hrdm] at hz
  obtain ⟨V, hV⟩ : ∃ V, V = (x &&& 4294963327) ||| b * 128 := ⟨_, rfl⟩
  rw [← hV] at hz
  have hv2 : encV ⟨k, b, a2, a3, a4⟩ = .tuple #[.int .u32 V, .bool true] := by unfold encV; rw [hz]
  have E2 : Hid (∀ W, Tabs W → Calls Tryd.prog 8 #[.agg #[.int .i64 k, .int .i64 b, .int .i64 a2, .int .i64 a3, .int .i64 a4]] W fun e w' => e = .returned (.tuple #[.int .u32 V, .bool true]) ∧ Below W.heap.size W w') := fun W h => by
    have := enc_any ⟨k, b, a2, a3, a4⟩ W h
    rw [hv2] at this
    exact this
  have h31 : bits .and .u32 ((x : Int) / 128) 31 = (q : Int) := by
    have := and31 (x / 128) (by omega)
    rw [← hq, ← this]; rfl
  have hAN : bits .andNot .u32 (x : Int) 3968 = ((x &&& 4294963327 : Nat) : Int) := u32_andNot_nat x 3968 hxl (by omega)
  have hOR : bits .or .u32 ((x &&& 4294963327 : Nat) : Int) ((b : Int) * 128) = (V : Int) := by
    have h1 : x &&& 4294963327 < 4294967296 := Nat.lt_of_le_of_lt Nat.and_le_left hxl
    have := u32_or_nat (x &&& 4294963327) (b * 128) h1 (by omega)
    rw [hV, ← this]; rfl
  have hq32 : q < 32 := by omega
  generalize (x &&& 4294963327) = x2 at *
  clear hv hi hb hz hv2 hV hq hrdm
  have hbb : Below w.heap.size w (w.alloc (.cells #[.int .i64 k, .int .i64 q, .int .i64 a2, .int .i64 a3, .int .i64 a4] 23)) := by go_grown
  have HI : Hid (InAt (w.alloc (.cells #[.int .i64 k, .int .i64 q, .int .i64 a2, .int .i64 a3, .int .i64 a4] 23)) w.heap.size ⟨k, q, a2, a3, a4⟩) := box23 w k q a2 a3 a4
  have HT : Hid (Tabs (w.alloc (.cells #[.int .i64 k, .int .i64 q, .int .i64 a2, .int .i64 a3, .int .i64 a4] 23))) := ht.next hbb
  have HBB : Hid (Below w.heap.size w (w.alloc (.cells #[.int .i64 k, .int .i64 q, .int .i64 a2, .int .i64 a3, .int .i64 a4] 23))) := hbb
  have FA : Hid (∀ W, Tabs W → Calls Tryd.prog 14 #[.int .i64 k] W fun e w' => e = .returned (.int .u8 (formAt k)) ∧ w' = W) := fun W h => form_any k W hk h
  clear hbb ht
  generalize formAt k = fm at *
  have hf1 : fm ≠ 66 := by unfold hasRd at hf; omega
  have hf2 : fm ≠ 83 := by unfold hasRd at hf; omega
  have hf3 : fm ≠ 78 := by unfold hasRd at hf; omega
  have hg1 : (fm == 66) = false := by simp [hf1]
  have hg2 : (fm == 83) = false := by simp [hf2]
  have hg3 : (fm == 78) = false := by simp [hf3]
  clear hf hf1 hf2 hf3
  go_enter Tryd.func6, Tryd.ntmps6
  go_wp2_with (first
    | (go_at_call 7; with_reducible refine (speaks_any _ HT.out).mono ?_; rintro e w1 ⟨rfl, hb1⟩
       have HT1 : Hid (Tabs w1) := Tabs.next HT.out hb1
       have HB1 : Hid (Below w.heap.size w w1) := HBB.out.trans (hb1.mono HBB.out.size)
       have HI1 : Hid (InAt w1 w.heap.size ⟨k, q, a2, a3, a4⟩) := InAt.next HI.out hb1
       obtain ⟨i0, i1, i2, i3, i4⟩ := HI1.out
       have HT2 : Hid (Tabs (w1.alloc (.cells #[.int .i64 k, .int .i64 q, .int .i64 a2, .int .i64 a3, .int .i64 a4] 27))) := Tabs.next HT1.out (by go_grown)
       have HI2 : Hid (InAt (w1.alloc (.cells #[.int .i64 k, .int .i64 q, .int .i64 a2, .int .i64 a3, .int .i64 a4] 27)) w.heap.size ⟨k, q, a2, a3, a4⟩) := InAt.next HI1.out (by go_grown)
       have HY : Hid (InAt (w1.alloc (.cells #[.int .i64 k, .int .i64 q, .int .i64 a2, .int .i64 a3, .int .i64 a4] 27)) w1.heap.size ⟨k, q, a2, a3, a4⟩) := in27 w1 k q a2 a3 a4
       clear hb1)
    | (go_at_call 8; with_reducible refine (E1.out _ HT2.out).mono ?_; rintro e w2 ⟨rfl, hb2⟩
       have HT3 : Hid (Tabs w2) := Tabs.next HT2.out hb2
       have HB2 : Hid (Below w.heap.size w w2) := (HB1.out.alloc HB1.out.size _).trans (hb2.mono (Nat.le_trans HB1.out.size (by simp)))
       obtain ⟨j0, j1, j2, j3, j4⟩ := InAt.next HY.out hb2
       obtain ⟨p0, p1, p2, p3, p4⟩ := InAt.next HI2.out hb2
       clear hb2 i0 i1 i2 i3 i4)
    | (go_at_call 14; with_reducible refine (FA.out _ HT3.out).mono ?_; rintro e w3 ⟨rfl, hw⟩; subst hw)
    | (go_at_call 8; with_reducible refine (E2.out _ (Tabs.next HT3.out (by go_grown))).mono ?_; rintro e w4 ⟨rfl, hb4⟩))
  go_ret
  refine ⟨by simp, ?_⟩
  have h2 := HB2.out
  exact (h2.alloc h2.size _).trans (hb4.mono (Nat.le_trans h2.size (by simp)))

theorem fields_any (i : In) (rd : Int) (w : World) (ht : Tabs w) :
    Calls Tryd.prog 6 #[i.agg, .int .i64 rd] w fun e w' => e = .returned (.bool true) ∧ Below w.heap.size w w' := by
  obtain ⟨a0, a1, a2, a3, a4⟩ := i
  cases hi : encF ⟨a0, a1, a2, a3, a4⟩ with
  | none => exact fields_none a0 a1 a2 a3 a4 rd w ht hi
  | some x =>
    have hop : 0 ≤ a0 ∧ a0 < 64 := by
      unfold encF at hi
      split at hi
      · rename_i h; exact ⟨h.1, h.2.1⟩
      · cases hi
    obtain ⟨k, rfl⟩ := Int.eq_ofNat_of_zero_le hop.1
    have hk : k < 64 := by omega
    by_cases hf : formAt k = 66 ∨ formAt k = 83 ∨ formAt k = 78
    · exact fields_other k a1 a2 a3 a4 rd x w ht hk hi hf
    · have hr : hasRd (formAt k) := by
        rcases letters k hk with h | h | h | h
        · exact absurd (.inl h) hf
        · exact absurd (.inr (.inl h)) hf
        · exact absurd (.inr (.inr h)) hf
        · exact h
      obtain ⟨m1, m2, m3⟩ := fields_math ⟨k, a1, a2, a3, a4⟩ x k rd hi rfl hr
      simp only at m1 m2
      obtain ⟨q, hq⟩ : ∃ q : Nat, (q : Int) = a1 := ⟨x / 128 % 32, m1⟩
      subst hq
      exact fields_some k q a2 a3 a4 rd x w ht hk hi hr m1 m3 m2
end Go.Proofs.YtmfmakkiefgogabDoor
