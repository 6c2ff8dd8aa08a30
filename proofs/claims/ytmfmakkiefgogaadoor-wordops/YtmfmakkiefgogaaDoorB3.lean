/-
  Layer 5: the document's Both. No condition.
-/
import Derived.Test.YtmfmakkiefgogaaDoorB2
namespace Go.Proofs.YtmfmakkiefgogaaDoor
open Go.RowKit
set_option linter.unusedVariables false

/-- A row into a block that holds one. -/
theorem store_arr {W : World} {b : Nat} {f : Nat → Int} (hA : Arr W b f) (g : Nat → Int) : (storeCells ⟨b, 0, none⟩ (rowOf g)).run Tryd.prog W = .ok () (W.setCells b 0 (rowOf g)) := by
  have h := run_storeCells_cells (P := Tryd.prog) b 0 (rowOf g) 0 W (fun j hj => ?_) (fun j hj => ?_) (fun v hv => ?_)
  · exact h
  · rw [rowOf_len] at hj
    rw [Nat.zero_add, hA.at_ j hj]; rfl
  · rw [Nat.zero_add]; exact hA.open_ j
  · simp only [rowOf, List.mem_map] at hv
    obtain ⟨i, _, rfl⟩ := hv
    rfl

theorem two_new (w1 : World) (f g : Nat → Int) (cs ds : List Value) (hcs : cs = rowOf f) (hds : ds = rowOf g) : ∃ W1 W2, (storeCells ⟨w1.heap.size, 0, none⟩ cs).run Tryd.prog ((w1.alloc (.cells Z64 77)).alloc (.cells Z64 77)) = .ok () W1 ∧ (storeCells ⟨w1.heap.size + 1, 0, none⟩ ds).run Tryd.prog W1 = .ok () W2 ∧ Arr W2 w1.heap.size f ∧ Arr W2 (w1.heap.size + 1) g ∧ Below w1.heap.size w1 W2 := by
  subst hcs hds
  have hA := (Arr.new' w1 Z64 z64).alloc (.cells Z64 77)
  have hB : Arr ((w1.alloc (.cells Z64 77)).alloc (.cells Z64 77)) (w1.heap.size + 1) (fun _ => 0) := (Arr.new' (w1.alloc (.cells Z64 77)) Z64 z64).as (by simp) rfl
  have hb : Below w1.heap.size w1 ((w1.alloc (.cells Z64 77)).alloc (.cells Z64 77)) := by go_grown
  generalize (w1.alloc (.cells Z64 77)).alloc (.cells Z64 77) = W at *
  have hA1 := hA.laid f
  have hB1 := hB.apart (c := w1.heap.size) (by omega) 0 (rowOf f)
  refine ⟨_, _, store_arr hA f, store_arr hB1 g, hA1.apart (by omega) 0 (rowOf g), hB1.laid g, below_setCells (by omega) _ _ _ (below_setCells (Nat.le_refl _) _ _ _ hb)⟩

set_option maxRecDepth 100000 in
set_option maxHeartbeats 3200000 in
theorem both_0 (a b : Nat) (ha : a < 18446744073709551616) (hb0 : b < 18446744073709551616) (w : World) :
    Calls Tryd.prog 50 #[.int .u64 a, .int .u64 b, .int .i64 0] w fun e w' => e = .returned (.int .u64 ((hv (bothBit a b 0) 64 0 : Nat) : Int)) ∧ Below w.heap.size w w' := by
  obtain ⟨cs, hcs⟩ : ∃ cs, cs = rowOf (fun i => ((a.testBit i).toNat : Int)) := ⟨_, rfl⟩
  obtain ⟨ds, hds⟩ : ∃ ds, ds = rowOf (fun i => ((b.testBit i).toNat : Int)) := ⟨_, rfl⟩
  have BA := bits_any a ha w
  have BB : Hid (∀ w1, Calls Tryd.prog 53 #[.int .u64 b] w1 fun e w' => e = .returned (.agg ds.toArray) ∧ Below w1.heap.size w1 w') := by intro w1; rw [hds]; exact bits_any b hb0 w1
  rw [← hcs] at BA
  have hl : cs.length = 64 := by rw [hcs]; exact rowOf_len _
  have hl2 : ds.length = 64 := by rw [hds]; exact rowOf_len _
  have HCS : Hid (cs = rowOf (fun i => ((a.testBit i).toNat : Int))) := hcs
  have HDS : Hid (ds = rowOf (fun i => ((b.testBit i).toNat : Int))) := hds
  clear hcs hds
  go_enter Tryd.func50, Tryd.ntmps50
  go_wp2_with (first
    | (go_at_call 53; with_reducible refine BA.mono ?_; rintro e w1 ⟨rfl, hb1⟩)
    | (go_at_call 53; with_reducible refine (BB.out _).mono ?_; rintro e w2 ⟨rfl, hb2⟩; obtain ⟨W1, W, hW1, hW, A7, A8, hbW⟩ := two_new w2 _ _ cs ds HCS.out HDS.out; unfold Z64 at hW1))
  have hbb : Below w.heap.size w W := (hb1.trans (hb2.mono hb1.size)).trans (hbW.mono (Nat.le_trans hb1.size hb2.size))
  clear hW hW1 BA BB hb1 hb2 hbW hl hl2
  generalize w2.heap.size = b7 at *
  go_loopw [10] (fun i wr => ∃ k : Nat, k ≤ 64 ∧ i = .int .i64 k ∧ Arr wr b7 (fun j => ((a.testBit j).toNat : Int)) ∧ Arr wr (b7 + 1) (fun j => ((b.testBit j).toNat : Int)) ∧ Arr wr W.heap.size (fun j => if j < k then ((bothBit a b 0 j).toNat : Int) else 0) ∧ Below w.heap.size w wr) (fun i _ => 64 - (intOf i).toNat)
  case atStart => exact ⟨0, by omega, rfl, A7.alloc _, A8.alloc _, (Arr.new' W _ rfl).as rfl (by funext j; simp), hbb.alloc hbb.size _⟩
  case round =>
    obtain ⟨k, hk, rfl, B7, B8, B9, hb⟩ := hrel
    have hne : b7 ≠ W.heap.size := by have := A7.lt; omega
    have hne2 : b7 + 1 ≠ W.heap.size := by have := A8.lt; omega
    have hWs := hbb.size
    clear A7 A8 hbb
    by_cases hlt : k < 64
    · have hck := B9.at_ k hlt
      have hfk := B9.open_ k
      rw [if_neg (by omega)] at hck
      have h7 := B7.at_ k hlt
      have h8 := B8.at_ k hlt
      have HSET : Hid (bothBit a b 0 k = true → Arr (wr.drew.setCell ⟨W.heap.size, k, none⟩ (.int .i64 1)) b7 (fun j => ((a.testBit j).toNat : Int)) ∧ Arr (wr.drew.setCell ⟨W.heap.size, k, none⟩ (.int .i64 1)) (b7 + 1) (fun j => ((b.testBit j).toNat : Int)) ∧ Arr (wr.drew.setCell ⟨W.heap.size, k, none⟩ (.int .i64 1)) W.heap.size (fun j => if j < k + 1 then ((bothBit a b 0 j).toNat : Int) else 0) ∧ Below w.heap.size w (wr.drew.setCell ⟨W.heap.size, k, none⟩ (.int .i64 1))) := by
        intro hv
        have C7 : Arr wr.drew b7 _ := ⟨B7.at_, B7.open_, B7.lt⟩
        have C8 : Arr wr.drew (b7 + 1) _ := ⟨B8.at_, B8.open_, B8.lt⟩
        have C9 : Arr wr.drew W.heap.size _ := ⟨B9.at_, B9.open_, B9.lt⟩
        refine ⟨C7.other hne _ _, C8.other hne2 _ _, C9.set k _ hlt fun i hi => ?_, hb.drew.setCell (by omega) _⟩
        by_cases e : i = k
        · subst e
          rw [if_pos (by omega), if_pos rfl, hv]; rfl
        · rw [if_neg e]
          by_cases h2 : i < k
          · rw [if_pos (by omega), if_pos h2]
          · rw [if_neg (by omega), if_neg h2]
      have HSAME : Hid (bothBit a b 0 k = false → Arr wr.drew b7 (fun j => ((a.testBit j).toNat : Int)) ∧ Arr wr.drew (b7 + 1) (fun j => ((b.testBit j).toNat : Int)) ∧ Arr wr.drew W.heap.size (fun j => if j < k + 1 then ((bothBit a b 0 j).toNat : Int) else 0) ∧ Below w.heap.size w wr.drew) := by
        intro hf
        have C9 : Arr wr.drew W.heap.size _ := ⟨B9.at_, B9.open_, B9.lt⟩
        refine ⟨⟨B7.at_, B7.open_, B7.lt⟩, ⟨B8.at_, B8.open_, B8.lt⟩, C9.as rfl ?_, hb.drew⟩
        funext i
        by_cases e : i = k
        · subst e
          rw [if_neg (by omega), if_pos (by omega), hf]; rfl
        · by_cases h2 : i < k
          · rw [if_pos (by omega), if_pos (by omega)]
          · rw [if_neg (by omega), if_neg (by omega)]
      clear B7 B8 B9 hb
      cases hx : a.testBit k <;> cases hy : b.testBit k
      all_goals
        rw [hx] at h7
        rw [hy] at h8
        simp only [Bool.toNat_false, Bool.toNat_true] at h7 h8
        have HXY : Hid (_) := And.intro hx hy
        clear hx hy
        go_wp2
        go_region
        go_wp2
        go_roundw
        case rel =>
          first
            | (obtain ⟨r1, r2, r3, r4⟩ := HSET.out (by simp [bothBit, HXY.out.1, HXY.out.2]); exact ⟨k + 1, by omega, by go_num, r1, r2, r3, r4⟩)
            | (obtain ⟨r1, r2, r3, r4⟩ := HSAME.out (by simp [bothBit, HXY.out.1, HXY.out.2]); exact ⟨k + 1, by omega, by go_num, r1, r2, r3, r4⟩)
        case measure => simp [intOf]; omega
    · obtain rfl : k = 64 := by omega
      have B9' : Arr wr W.heap.size (fun j => ((bothBit a b 0 j).toNat : Int)) := ⟨fun i hi => by rw [B9.at_ i hi, if_pos hi], B9.open_, B9.lt⟩
      have HR := B9'.range
      have hl := rowOf_len (fun j => ((bothBit a b 0 j).toNat : Int))
      have VA := value_any (bothBit a b 0) wr
      obtain ⟨es, hes⟩ : ∃ es, es = rowOf (fun j => ((bothBit a b 0 j).toNat : Int)) := ⟨_, rfl⟩
      rw [← hes] at HR hl VA
      clear hes B7 B8 B9 B9'
      go_wp2_with (first
        | (refine wpList_load_mid rfl 77 _ rfl W.heap.size 0 rfl es _ HR Tryd.underlying77 rfl (by rw [hl]; exact info77) ?_)
        | (go_at_call 54; with_reducible refine VA.mono ?_; rintro e w5 ⟨rfl, hb5⟩))
      go_ret
      exact ⟨rfl, hb.trans (hb5.mono hb.size)⟩

set_option maxRecDepth 100000 in
set_option maxHeartbeats 3200000 in
theorem both_1 (a b : Nat) (ha : a < 18446744073709551616) (hb0 : b < 18446744073709551616) (w : World) :
    Calls Tryd.prog 50 #[.int .u64 a, .int .u64 b, .int .i64 1] w fun e w' => e = .returned (.int .u64 ((hv (bothBit a b 1) 64 0 : Nat) : Int)) ∧ Below w.heap.size w w' := by
  obtain ⟨cs, hcs⟩ : ∃ cs, cs = rowOf (fun i => ((a.testBit i).toNat : Int)) := ⟨_, rfl⟩
  obtain ⟨ds, hds⟩ : ∃ ds, ds = rowOf (fun i => ((b.testBit i).toNat : Int)) := ⟨_, rfl⟩
  have BA := bits_any a ha w
  have BB : Hid (∀ w1, Calls Tryd.prog 53 #[.int .u64 b] w1 fun e w' => e = .returned (.agg ds.toArray) ∧ Below w1.heap.size w1 w') := by intro w1; rw [hds]; exact bits_any b hb0 w1
  rw [← hcs] at BA
  have hl : cs.length = 64 := by rw [hcs]; exact rowOf_len _
  have hl2 : ds.length = 64 := by rw [hds]; exact rowOf_len _
  have HCS : Hid (cs = rowOf (fun i => ((a.testBit i).toNat : Int))) := hcs
  have HDS : Hid (ds = rowOf (fun i => ((b.testBit i).toNat : Int))) := hds
  clear hcs hds
  go_enter Tryd.func50, Tryd.ntmps50
  go_wp2_with (first
    | (go_at_call 53; with_reducible refine BA.mono ?_; rintro e w1 ⟨rfl, hb1⟩)
    | (go_at_call 53; with_reducible refine (BB.out _).mono ?_; rintro e w2 ⟨rfl, hb2⟩; obtain ⟨W1, W, hW1, hW, A7, A8, hbW⟩ := two_new w2 _ _ cs ds HCS.out HDS.out; unfold Z64 at hW1))
  have hbb : Below w.heap.size w W := (hb1.trans (hb2.mono hb1.size)).trans (hbW.mono (Nat.le_trans hb1.size hb2.size))
  clear hW hW1 BA BB hb1 hb2 hbW hl hl2
  generalize w2.heap.size = b7 at *
  go_loopw [10] (fun i wr => ∃ k : Nat, k ≤ 64 ∧ i = .int .i64 k ∧ Arr wr b7 (fun j => ((a.testBit j).toNat : Int)) ∧ Arr wr (b7 + 1) (fun j => ((b.testBit j).toNat : Int)) ∧ Arr wr W.heap.size (fun j => if j < k then ((bothBit a b 1 j).toNat : Int) else 0) ∧ Below w.heap.size w wr) (fun i _ => 64 - (intOf i).toNat)
  case atStart => exact ⟨0, by omega, rfl, A7.alloc _, A8.alloc _, (Arr.new' W _ rfl).as rfl (by funext j; simp), hbb.alloc hbb.size _⟩
  case round =>
    obtain ⟨k, hk, rfl, B7, B8, B9, hb⟩ := hrel
    have hne : b7 ≠ W.heap.size := by have := A7.lt; omega
    have hne2 : b7 + 1 ≠ W.heap.size := by have := A8.lt; omega
    have hWs := hbb.size
    clear A7 A8 hbb
    by_cases hlt : k < 64
    · have hck := B9.at_ k hlt
      have hfk := B9.open_ k
      rw [if_neg (by omega)] at hck
      have h7 := B7.at_ k hlt
      have h8 := B8.at_ k hlt
      have HSET : Hid (bothBit a b 1 k = true → Arr (wr.drew.setCell ⟨W.heap.size, k, none⟩ (.int .i64 1)) b7 (fun j => ((a.testBit j).toNat : Int)) ∧ Arr (wr.drew.setCell ⟨W.heap.size, k, none⟩ (.int .i64 1)) (b7 + 1) (fun j => ((b.testBit j).toNat : Int)) ∧ Arr (wr.drew.setCell ⟨W.heap.size, k, none⟩ (.int .i64 1)) W.heap.size (fun j => if j < k + 1 then ((bothBit a b 1 j).toNat : Int) else 0) ∧ Below w.heap.size w (wr.drew.setCell ⟨W.heap.size, k, none⟩ (.int .i64 1))) := by
        intro hv
        have C7 : Arr wr.drew b7 _ := ⟨B7.at_, B7.open_, B7.lt⟩
        have C8 : Arr wr.drew (b7 + 1) _ := ⟨B8.at_, B8.open_, B8.lt⟩
        have C9 : Arr wr.drew W.heap.size _ := ⟨B9.at_, B9.open_, B9.lt⟩
        refine ⟨C7.other hne _ _, C8.other hne2 _ _, C9.set k _ hlt fun i hi => ?_, hb.drew.setCell (by omega) _⟩
        by_cases e : i = k
        · subst e
          rw [if_pos (by omega), if_pos rfl, hv]; rfl
        · rw [if_neg e]
          by_cases h2 : i < k
          · rw [if_pos (by omega), if_pos h2]
          · rw [if_neg (by omega), if_neg h2]
      have HSAME : Hid (bothBit a b 1 k = false → Arr wr.drew b7 (fun j => ((a.testBit j).toNat : Int)) ∧ Arr wr.drew (b7 + 1) (fun j => ((b.testBit j).toNat : Int)) ∧ Arr wr.drew W.heap.size (fun j => if j < k + 1 then ((bothBit a b 1 j).toNat : Int) else 0) ∧ Below w.heap.size w wr.drew) := by
        intro hf
        have C9 : Arr wr.drew W.heap.size _ := ⟨B9.at_, B9.open_, B9.lt⟩
        refine ⟨⟨B7.at_, B7.open_, B7.lt⟩, ⟨B8.at_, B8.open_, B8.lt⟩, C9.as rfl ?_, hb.drew⟩
        funext i
        by_cases e : i = k
        · subst e
          rw [if_neg (by omega), if_pos (by omega), hf]; rfl
        · by_cases h2 : i < k
          · rw [if_pos (by omega), if_pos (by omega)]
          · rw [if_neg (by omega), if_neg (by omega)]
      clear B7 B8 B9 hb
      cases hx : a.testBit k <;> cases hy : b.testBit k
      all_goals
        rw [hx] at h7
        rw [hy] at h8
        simp only [Bool.toNat_false, Bool.toNat_true] at h7 h8
        have HXY : Hid (_) := And.intro hx hy
        clear hx hy
        go_wp2
        go_region
        go_wp2
        go_roundw
        case rel =>
          first
            | (obtain ⟨r1, r2, r3, r4⟩ := HSET.out (by simp [bothBit, HXY.out.1, HXY.out.2]); exact ⟨k + 1, by omega, by go_num, r1, r2, r3, r4⟩)
            | (obtain ⟨r1, r2, r3, r4⟩ := HSAME.out (by simp [bothBit, HXY.out.1, HXY.out.2]); exact ⟨k + 1, by omega, by go_num, r1, r2, r3, r4⟩)
        case measure => simp [intOf]; omega
    · obtain rfl : k = 64 := by omega
      have B9' : Arr wr W.heap.size (fun j => ((bothBit a b 1 j).toNat : Int)) := ⟨fun i hi => by rw [B9.at_ i hi, if_pos hi], B9.open_, B9.lt⟩
      have HR := B9'.range
      have hl := rowOf_len (fun j => ((bothBit a b 1 j).toNat : Int))
      have VA := value_any (bothBit a b 1) wr
      obtain ⟨es, hes⟩ : ∃ es, es = rowOf (fun j => ((bothBit a b 1 j).toNat : Int)) := ⟨_, rfl⟩
      rw [← hes] at HR hl VA
      clear hes B7 B8 B9 B9'
      go_wp2_with (first
        | (refine wpList_load_mid rfl 77 _ rfl W.heap.size 0 rfl es _ HR Tryd.underlying77 rfl (by rw [hl]; exact info77) ?_)
        | (go_at_call 54; with_reducible refine VA.mono ?_; rintro e w5 ⟨rfl, hb5⟩))
      go_ret
      exact ⟨rfl, hb.trans (hb5.mono hb.size)⟩

set_option maxRecDepth 100000 in
set_option maxHeartbeats 3200000 in
theorem both_2 (a b : Nat) (ha : a < 18446744073709551616) (hb0 : b < 18446744073709551616) (w : World) :
    Calls Tryd.prog 50 #[.int .u64 a, .int .u64 b, .int .i64 2] w fun e w' => e = .returned (.int .u64 ((hv (bothBit a b 2) 64 0 : Nat) : Int)) ∧ Below w.heap.size w w' := by
  obtain ⟨cs, hcs⟩ : ∃ cs, cs = rowOf (fun i => ((a.testBit i).toNat : Int)) := ⟨_, rfl⟩
  obtain ⟨ds, hds⟩ : ∃ ds, ds = rowOf (fun i => ((b.testBit i).toNat : Int)) := ⟨_, rfl⟩
  have BA := bits_any a ha w
  have BB : Hid (∀ w1, Calls Tryd.prog 53 #[.int .u64 b] w1 fun e w' => e = .returned (.agg ds.toArray) ∧ Below w1.heap.size w1 w') := by intro w1; rw [hds]; exact bits_any b hb0 w1
  rw [← hcs] at BA
  have hl : cs.length = 64 := by rw [hcs]; exact rowOf_len _
  have hl2 : ds.length = 64 := by rw [hds]; exact rowOf_len _
  have HCS : Hid (cs = rowOf (fun i => ((a.testBit i).toNat : Int))) := hcs
  have HDS : Hid (ds = rowOf (fun i => ((b.testBit i).toNat : Int))) := hds
  clear hcs hds
  go_enter Tryd.func50, Tryd.ntmps50
  go_wp2_with (first
    | (go_at_call 53; with_reducible refine BA.mono ?_; rintro e w1 ⟨rfl, hb1⟩)
    | (go_at_call 53; with_reducible refine (BB.out _).mono ?_; rintro e w2 ⟨rfl, hb2⟩; obtain ⟨W1, W, hW1, hW, A7, A8, hbW⟩ := two_new w2 _ _ cs ds HCS.out HDS.out; unfold Z64 at hW1))
  have hbb : Below w.heap.size w W := (hb1.trans (hb2.mono hb1.size)).trans (hbW.mono (Nat.le_trans hb1.size hb2.size))
  clear hW hW1 BA BB hb1 hb2 hbW hl hl2
  generalize w2.heap.size = b7 at *
  go_loopw [10] (fun i wr => ∃ k : Nat, k ≤ 64 ∧ i = .int .i64 k ∧ Arr wr b7 (fun j => ((a.testBit j).toNat : Int)) ∧ Arr wr (b7 + 1) (fun j => ((b.testBit j).toNat : Int)) ∧ Arr wr W.heap.size (fun j => if j < k then ((bothBit a b 2 j).toNat : Int) else 0) ∧ Below w.heap.size w wr) (fun i _ => 64 - (intOf i).toNat)
  case atStart => exact ⟨0, by omega, rfl, A7.alloc _, A8.alloc _, (Arr.new' W _ rfl).as rfl (by funext j; simp), hbb.alloc hbb.size _⟩
  case round =>
    obtain ⟨k, hk, rfl, B7, B8, B9, hb⟩ := hrel
    have hne : b7 ≠ W.heap.size := by have := A7.lt; omega
    have hne2 : b7 + 1 ≠ W.heap.size := by have := A8.lt; omega
    have hWs := hbb.size
    clear A7 A8 hbb
    by_cases hlt : k < 64
    · have hck := B9.at_ k hlt
      have hfk := B9.open_ k
      rw [if_neg (by omega)] at hck
      have h7 := B7.at_ k hlt
      have h8 := B8.at_ k hlt
      have HSET : Hid (bothBit a b 2 k = true → Arr (wr.drew.setCell ⟨W.heap.size, k, none⟩ (.int .i64 1)) b7 (fun j => ((a.testBit j).toNat : Int)) ∧ Arr (wr.drew.setCell ⟨W.heap.size, k, none⟩ (.int .i64 1)) (b7 + 1) (fun j => ((b.testBit j).toNat : Int)) ∧ Arr (wr.drew.setCell ⟨W.heap.size, k, none⟩ (.int .i64 1)) W.heap.size (fun j => if j < k + 1 then ((bothBit a b 2 j).toNat : Int) else 0) ∧ Below w.heap.size w (wr.drew.setCell ⟨W.heap.size, k, none⟩ (.int .i64 1))) := by
        intro hv
        have C7 : Arr wr.drew b7 _ := ⟨B7.at_, B7.open_, B7.lt⟩
        have C8 : Arr wr.drew (b7 + 1) _ := ⟨B8.at_, B8.open_, B8.lt⟩
        have C9 : Arr wr.drew W.heap.size _ := ⟨B9.at_, B9.open_, B9.lt⟩
        refine ⟨C7.other hne _ _, C8.other hne2 _ _, C9.set k _ hlt fun i hi => ?_, hb.drew.setCell (by omega) _⟩
        by_cases e : i = k
        · subst e
          rw [if_pos (by omega), if_pos rfl, hv]; rfl
        · rw [if_neg e]
          by_cases h2 : i < k
          · rw [if_pos (by omega), if_pos h2]
          · rw [if_neg (by omega), if_neg h2]
      have HSAME : Hid (bothBit a b 2 k = false → Arr wr.drew b7 (fun j => ((a.testBit j).toNat : Int)) ∧ Arr wr.drew (b7 + 1) (fun j => ((b.testBit j).toNat : Int)) ∧ Arr wr.drew W.heap.size (fun j => if j < k + 1 then ((bothBit a b 2 j).toNat : Int) else 0) ∧ Below w.heap.size w wr.drew) := by
        intro hf
        have C9 : Arr wr.drew W.heap.size _ := ⟨B9.at_, B9.open_, B9.lt⟩
        refine ⟨⟨B7.at_, B7.open_, B7.lt⟩, ⟨B8.at_, B8.open_, B8.lt⟩, C9.as rfl ?_, hb.drew⟩
        funext i
        by_cases e : i = k
        · subst e
          rw [if_neg (by omega), if_pos (by omega), hf]; rfl
        · by_cases h2 : i < k
          · rw [if_pos (by omega), if_pos (by omega)]
          · rw [if_neg (by omega), if_neg (by omega)]
      clear B7 B8 B9 hb
      cases hx : a.testBit k <;> cases hy : b.testBit k
      all_goals
        rw [hx] at h7
        rw [hy] at h8
        simp only [Bool.toNat_false, Bool.toNat_true] at h7 h8
        have HXY : Hid (_) := And.intro hx hy
        clear hx hy
        go_wp2
        go_region
        go_wp2
        go_roundw
        case rel =>
          first
            | (obtain ⟨r1, r2, r3, r4⟩ := HSET.out (by simp [bothBit, HXY.out.1, HXY.out.2]); exact ⟨k + 1, by omega, by go_num, r1, r2, r3, r4⟩)
            | (obtain ⟨r1, r2, r3, r4⟩ := HSAME.out (by simp [bothBit, HXY.out.1, HXY.out.2]); exact ⟨k + 1, by omega, by go_num, r1, r2, r3, r4⟩)
        case measure => simp [intOf]; omega
    · obtain rfl : k = 64 := by omega
      have B9' : Arr wr W.heap.size (fun j => ((bothBit a b 2 j).toNat : Int)) := ⟨fun i hi => by rw [B9.at_ i hi, if_pos hi], B9.open_, B9.lt⟩
      have HR := B9'.range
      have hl := rowOf_len (fun j => ((bothBit a b 2 j).toNat : Int))
      have VA := value_any (bothBit a b 2) wr
      obtain ⟨es, hes⟩ : ∃ es, es = rowOf (fun j => ((bothBit a b 2 j).toNat : Int)) := ⟨_, rfl⟩
      rw [← hes] at HR hl VA
      clear hes B7 B8 B9 B9'
      go_wp2_with (first
        | (refine wpList_load_mid rfl 77 _ rfl W.heap.size 0 rfl es _ HR Tryd.underlying77 rfl (by rw [hl]; exact info77) ?_)
        | (go_at_call 54; with_reducible refine VA.mono ?_; rintro e w5 ⟨rfl, hb5⟩))
      go_ret
      exact ⟨rfl, hb.trans (hb5.mono hb.size)⟩

end Go.Proofs.YtmfmakkiefgogaaDoor
