/-
  Layer 5: the document's Shift. No condition.
-/
import Derived.Test.YtmfmakkiefgogaaDoorB1
import Derived.Laws.IdiomCopy
namespace Go.Proofs.YtmfmakkiefgogaaDoor
open Go.RowKit
set_option linter.unusedVariables false

/-- A row that was laid over another one. -/
theorem Arr.laid {W : World} {b : Nat} {f : Nat → Int} (h : Arr W b f) (g : Nat → Int) : Arr (W.setCells b 0 (rowOf g)) b g := by
  have hr := World.rangeAt_setCells_same W b 0 (rowOf g) (by rw [rowOf_len]; exact h.there)
  refine ⟨fun i hi => ?_, fun i => ?_, ?_⟩
  · have := hr i _ (rowOf_at g i hi)
    rw [Nat.zero_add] at this
    exact this
  · rw [World.frozen?_setCells]; exact h.open_ i
  · exact Nat.lt_of_lt_of_le h.lt (below_setCells (B := 0) (a := W) (Nat.zero_le _) (rowOf g) 0 W (Below.refl _ _)).size

theorem Arr.apart {W : World} {b c : Nat} {f : Nat → Int} (h : Arr W b f) (hbc : b ≠ c) (o : Nat) (vs : List Value) : Arr (W.setCells c o vs) b f := by
  refine ⟨fun i hi => ?_, fun i => ?_, ?_⟩
  · rw [World.cell?_setCells_out c vs o W ⟨b, i, none⟩ (fun e => absurd e hbc)]; exact h.at_ i hi
  · rw [World.frozen?_setCells]; exact h.open_ i
  · exact Nat.lt_of_lt_of_le h.lt (below_setCells (B := 0) (a := W) (Nat.zero_le _) vs o W (Below.refl _ _)).size

def Z64 : Array Value := #[.int .i64 0, .int .i64 0, .int .i64 0, .int .i64 0, .int .i64 0, .int .i64 0, .int .i64 0, .int .i64 0, .int .i64 0, .int .i64 0, .int .i64 0, .int .i64 0, .int .i64 0, .int .i64 0, .int .i64 0, .int .i64 0, .int .i64 0, .int .i64 0, .int .i64 0, .int .i64 0, .int .i64 0, .int .i64 0, .int .i64 0, .int .i64 0, .int .i64 0, .int .i64 0, .int .i64 0, .int .i64 0, .int .i64 0, .int .i64 0, .int .i64 0, .int .i64 0, .int .i64 0, .int .i64 0, .int .i64 0, .int .i64 0, .int .i64 0, .int .i64 0, .int .i64 0, .int .i64 0, .int .i64 0, .int .i64 0, .int .i64 0, .int .i64 0, .int .i64 0, .int .i64 0, .int .i64 0, .int .i64 0, .int .i64 0, .int .i64 0, .int .i64 0, .int .i64 0, .int .i64 0, .int .i64 0, .int .i64 0, .int .i64 0, .int .i64 0, .int .i64 0, .int .i64 0, .int .i64 0, .int .i64 0, .int .i64 0, .int .i64 0, .int .i64 0]
theorem z64 : Z64 = Array.replicate 64 (.int .i64 0) := by kernel_rfl

theorem store_new (w1 : World) (g : Nat → Int) (cs : List Value) (hcs : cs = rowOf g) : ∃ W, (storeCells ⟨w1.heap.size, 0, none⟩ cs).run Tryd.prog (w1.alloc (.cells Z64 77)) = .ok () W ∧ Arr W w1.heap.size g ∧ Below w1.heap.size w1 W := by
  subst hcs
  have hA := Arr.new' w1 Z64 z64
  refine ⟨(w1.alloc (.cells Z64 77)).setCells w1.heap.size 0 (rowOf g), ?_, hA.laid g, below_setCells (Nat.le_refl _) _ _ _ (by go_grown)⟩
  have h := run_storeCells_cells (P := Tryd.prog) w1.heap.size 0 (rowOf g) 0 (w1.alloc (.cells Z64 77)) (fun j hj => ?_) (fun j hj => ?_) (fun v hv => ?_)
  · exact h
  · rw [rowOf_len] at hj
    rw [Nat.zero_add, hA.at_ j hj]; rfl
  · rw [Nat.zero_add]; exact hA.open_ j
  · simp only [rowOf, List.mem_map] at hv
    obtain ⟨i, _, rfl⟩ := hv
    rfl

set_option maxRecDepth 100000 in
set_option maxHeartbeats 3200000 in
theorem shift_any (a n : Nat) (up above : Bool) (ha : a < 18446744073709551616) (hn : n < 64) (w : World) :
    Calls Tryd.prog 27 #[.int .u64 a, .int .i64 n, .bool up, .int .i64 (above.toNat : Int)] w fun e w' => e = .returned (.int .u64 ((hv (shiftBit a n up above) 64 0 : Nat) : Int)) ∧ Below w.heap.size w w' := by
  obtain ⟨cs, hcs⟩ : ∃ cs, cs = rowOf (fun i => ((a.testBit i).toNat : Int)) := ⟨_, rfl⟩
  have BA := bits_any a ha w
  rw [← hcs] at BA
  have hl : cs.length = 64 := by rw [hcs]; exact rowOf_len _
  have HCS : Hid (cs = rowOf (fun i => ((a.testBit i).toNat : Int))) := hcs
  clear hcs
  go_enter Tryd.func27, Tryd.ntmps27
  go_wp2_with (first
    | (go_at_call 53; with_reducible refine BA.mono ?_; rintro e w1 ⟨rfl, hb1⟩; obtain ⟨W, hW, A9, hbW⟩ := store_new w1 _ cs HCS.out; unfold Z64 at hW))
  have hb2 : Below w.heap.size w W := hb1.trans (hbW.mono hb1.size)
  clear hW BA hb1 hbW hl
  generalize w1.heap.size = b9 at *
  go_loopw [11] (fun i wr => ∃ k : Nat, k ≤ 64 ∧ i = .int .i64 k ∧ Arr wr b9 (fun j => ((a.testBit j).toNat : Int)) ∧ Arr wr W.heap.size (fun j => if j < k then ((shiftBit a n up above j).toNat : Int) else 0) ∧ Below w.heap.size w wr) (fun i _ => 64 - (intOf i).toNat)
  case atStart => exact ⟨0, by omega, rfl, A9.alloc _, (Arr.new' W _ rfl).as rfl (by funext j; simp), hb2.alloc hb2.size _⟩
  case round =>
    obtain ⟨k, hk, rfl, B9, B10, hb⟩ := hrel
    have hne : b9 ≠ W.heap.size := by have := A9.lt; omega
    have hWs := hb2.size
    clear A9 hb2
    by_cases hlt : k < 64
    · have hck := B10.at_ k hlt
      have hfk := B10.open_ k
      rw [if_neg (by omega)] at hck
      have HSET : Hid (∀ v : Int, v = ((shiftBit a n up above k).toNat : Int) → Arr (wr.setCell ⟨W.heap.size, k, none⟩ (.int .i64 v)) b9 (fun j => ((a.testBit j).toNat : Int)) ∧ Arr (wr.setCell ⟨W.heap.size, k, none⟩ (.int .i64 v)) W.heap.size (fun j => if j < k + 1 then ((shiftBit a n up above j).toNat : Int) else 0) ∧ Below w.heap.size w (wr.setCell ⟨W.heap.size, k, none⟩ (.int .i64 v))) := by
        intro v hv
        refine ⟨B9.other hne _ _, B10.set k _ hlt fun i hi => ?_, hb.setCell (by omega) _⟩
        by_cases e : i = k
        · subst e
          rw [if_pos (by omega), if_pos rfl, hv]
        · rw [if_neg e]
          by_cases h2 : i < k
          · rw [if_pos (by omega), if_pos h2]
          · rw [if_neg (by omega), if_neg h2]
      have HSAME : Hid ((shiftBit a n up above k) = false → Arr wr b9 (fun j => ((a.testBit j).toNat : Int)) ∧ Arr wr W.heap.size (fun j => if j < k + 1 then ((shiftBit a n up above j).toNat : Int) else 0) ∧ Below w.heap.size w wr) := by
        intro hf
        refine ⟨B9, B10.as rfl ?_, hb⟩
        funext i
        by_cases e : i = k
        · subst e
          rw [if_neg (by omega), if_pos (by omega), hf]; rfl
        · by_cases h2 : i < k
          · rw [if_pos (by omega), if_pos (by omega)]
          · rw [if_neg (by omega), if_neg (by omega)]
      cases up
      · by_cases hin : k + n < 64
        · have hcb := B9.at_ (k + n) hin
          obtain ⟨x, hx⟩ : ∃ x, x = (((a.testBit (k + n)).toNat : Nat) : Int) := ⟨_, rfl⟩
          rw [← hx] at hcb
          have HX : Hid (x = ((shiftBit a n false above k).toNat : Int)) := by
            show _ = _
            rw [hx]; simp [shiftBit, hin]
          clear hx B9 B10 hb
          go_wp2
          go_roundw
          case rel =>
            obtain ⟨r1, r2, r3⟩ := HSET.out _ HX.out
            exact ⟨k + 1, by omega, by go_num, r1, r2, r3⟩
          case measure => simp [intOf]; omega
        · have HX : Hid (((above.toNat : Nat) : Int) = ((shiftBit a n false above k).toNat : Int)) := by
            show _ = _
            simp [shiftBit, hin]
          clear B9 B10 hb
          go_wp2
          go_roundw
          case rel =>
            obtain ⟨r1, r2, r3⟩ := HSET.out _ HX.out
            exact ⟨k + 1, by omega, by go_num, r1, r2, r3⟩
          case measure => simp [intOf]; omega
      · by_cases hin : n ≤ k
        · have hcb := B9.at_ (k - n) (by omega)
          obtain ⟨x, hx⟩ : ∃ x, x = (((a.testBit (k - n)).toNat : Nat) : Int) := ⟨_, rfl⟩
          rw [← hx] at hcb
          have HX : Hid (x = ((shiftBit a n true above k).toNat : Int)) := by
            show _ = _
            rw [hx]; simp [shiftBit, hin]
          obtain ⟨d, rfl⟩ : ∃ d, k = n + d := ⟨k - n, by omega⟩
          rw [Nat.add_sub_cancel_left] at hcb
          clear hx B9 B10 hb
          go_wp2
          go_roundw
          case rel =>
            obtain ⟨r1, r2, r3⟩ := HSET.out _ HX.out
            exact ⟨n + d + 1, by omega, by go_num, r1, r2, r3⟩
          case measure => simp [intOf]; omega
        · have HX : Hid (shiftBit a n true above k = false) := by
            show _ = _
            simp [shiftBit, hin]
          clear B9 B10 hb
          go_wp2
          go_roundw
          case rel =>
            obtain ⟨r1, r2, r3⟩ := HSAME.out HX.out
            exact ⟨k + 1, by omega, by go_num, r1, r2, r3⟩
          case measure => simp [intOf]; omega
    · obtain rfl : k = 64 := by omega
      have B10' : Arr wr W.heap.size (fun j => ((shiftBit a n up above j).toNat : Int)) := ⟨fun i hi => by rw [B10.at_ i hi, if_pos hi], B10.open_, B10.lt⟩
      have HR := B10'.range
      have hl := rowOf_len (fun j => ((shiftBit a n up above j).toNat : Int))
      have VA := value_any (shiftBit a n up above) wr
      obtain ⟨ds, hds⟩ : ∃ ds, ds = rowOf (fun j => ((shiftBit a n up above j).toNat : Int)) := ⟨_, rfl⟩
      rw [← hds] at HR hl VA
      clear hds B9 B10 B10'
      go_wp2_with (first
        | (refine wpList_load_mid rfl 77 _ rfl W.heap.size 0 rfl ds _ HR Tryd.underlying77 rfl (by rw [hl]; exact info77) ?_)
        | (go_at_call 54; with_reducible refine VA.mono ?_; rintro e w5 ⟨rfl, hb5⟩))
      go_ret
      exact ⟨rfl, hb.trans (hb5.mono hb.size)⟩
end Go.Proofs.YtmfmakkiefgogaaDoor
