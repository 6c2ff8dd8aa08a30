/-
  Layer 5: the document's Bits and Value. No condition.
-/
import Derived.Test.YtmfmakkiefgogaaDoorSpeaks
import Derived.Test.YtmfmakkiefgogaaDoorOpsMath
import Derived.Below
namespace Go.Proofs.YtmfmakkiefgogaaDoor
open Go.RowKit
set_option linter.unusedVariables false

/-- A row of 64 numbers in a block, that may be written. -/
structure Arr (W : World) (b : Nat) (f : Nat → Int) : Prop where
  at_ : ∀ i, i < 64 → W.cell? ⟨b, i, none⟩ = some (.int .i64 (f i))
  open_ : ∀ i, W.frozen? ⟨b, i, none⟩ = false
  lt : b < W.heap.size

def rowOf (f : Nat → Int) : List Value := (List.range 64).map fun i => .int .i64 (f i)
theorem rowOf_len (f : Nat → Int) : (rowOf f).length = 64 := by simp [rowOf]
theorem rowOf_at (f : Nat → Int) (i : Nat) (hi : i < 64) : (rowOf f)[i]? = some (.int .i64 (f i)) := by simp [rowOf, hi]
theorem rowOf_one (f : Nat → Int) : (rowOf f).toArray.all (·.oneCell') = true := by
  apply all_oneCell_toArray
  intro v hv
  simp only [rowOf, List.mem_map] at hv
  obtain ⟨i, _, rfl⟩ := hv
  rfl
theorem info77 : (Tryd.prog.info? 77).map (·.size) = some 64 := by kernel_rfl

theorem Arr.range {W : World} {b : Nat} {f : Nat → Int} (h : Arr W b f) : W.rangeAt b 0 (rowOf f) := by
  intro j v hv
  by_cases hj : j < 64
  · rw [rowOf_at f j hj] at hv
    obtain rfl := Option.some.inj hv
    rw [Nat.zero_add]; exact h.at_ j hj
  · rw [List.getElem?_eq_none (by rw [rowOf_len]; omega)] at hv; cases hv
theorem Arr.there {W : World} {b : Nat} {f : Nat → Int} (h : Arr W b f) : W.there b 0 64 := by
  intro j hj
  rw [Nat.zero_add, h.at_ j hj]
  exact ⟨rfl, h.open_ j⟩
theorem Arr.new (w : World) : Arr (w.alloc (.cells (Array.replicate 64 (.int .i64 0)) 77)) w.heap.size (fun _ => 0) := by
  refine ⟨fun i hi => ?_, fun i => ?_, by simp⟩
  · simp [go_sem, hi]
  · simp [go_sem]
theorem Arr.new' (w : World) (cs : Array Value) (h : cs = Array.replicate 64 (.int .i64 0)) : Arr (w.alloc (.cells cs 77)) w.heap.size (fun _ => 0) := by
  rw [h]; exact Arr.new w
theorem Arr.as {W : World} {b c : Nat} {f g : Nat → Int} (h : Arr W b f) (hb : b = c) (hf : f = g) : Arr W c g := by subst hb hf; exact h
theorem Arr.next {W W' : World} {b : Nat} {f : Nat → Int} (h : Arr W b f) (hb : Below W.heap.size W W') : Arr W' b f :=
  ⟨fun i hi => (hb.cell (p := ⟨b, i, none⟩) h.lt).trans (h.at_ i hi), fun i => (hb.frozen (p := ⟨b, i, none⟩) h.lt).trans (h.open_ i), Nat.lt_of_lt_of_le h.lt hb.size⟩
theorem Arr.alloc {W : World} {b : Nat} {f : Nat → Int} (h : Arr W b f) (o : Obj) : Arr (W.alloc o) b f := h.next (by go_grown)
theorem Arr.set {W : World} {b : Nat} {f g : Nat → Int} (h : Arr W b f) (k : Nat) (v : Int) (hk : k < 64) (hg : ∀ i, i < 64 → g i = if i = k then v else f i) : Arr (W.setCell ⟨b, k, none⟩ (.int .i64 v)) b g := by
  refine ⟨fun i hi => ?_, fun i => ?_, by simp [h.lt]⟩
  · rw [hg i hi]
    by_cases e : i = k
    · subst e
      rw [if_pos rfl]
      have := h.at_ i hi
      simp [go_sem, this]
    · rw [if_neg e]
      have := h.at_ i hi
      simp [go_sem, this]
  · have := h.open_ i
    simp [go_sem, this]
theorem Arr.other {W : World} {b c : Nat} {f : Nat → Int} (h : Arr W b f) (hbc : b ≠ c) (k : Nat) (v : Value) : Arr (W.setCell ⟨c, k, none⟩ v) b f := by
  refine ⟨fun i hi => ?_, fun i => ?_, by simp [h.lt]⟩
  · have := h.at_ i hi
    simp [go_sem, this]
  · have := h.open_ i
    simp [go_sem, this]

theorem below_setCells {B : Nat} {a : World} {b : Nat} (hb : B ≤ b) : ∀ (vs : List Value) (o : Nat) (w : World), Below B a w → Below B a (w.setCells b o vs)
  | [], _, _, h => h
  | v :: vs, o, w, h => below_setCells hb vs (o + 1) _ (h.setCell (p := ⟨b, o, none⟩) hb v)

theorem results_cell_mid {P : Program} {fn : Func} {p : Tmp} {ty : TypeId} (h : fn.results = #[.cell p ty]) (tmps : Array Value) (w : World) (b o : Nat) (cs : List Value) (d : TypeDesc)
    (hp : tmps.getD p undef = .pointer (some ⟨b, o, none⟩)) (hc : w.rangeAt b o cs)
    (hu : P.underlying ty = some d) (hd : d.isRow = true) (hi : (P.info? ty).map (·.size) = some cs.length) :
    (results fn tmps).run P w = .ok (.agg cs.toArray) w := by
  have hp' : tmps[p]?.getD undef = .pointer (some ⟨b, o, none⟩) := by simpa using hp
  simp [results, h, hp', asAddr, run_loadVar_mid w b o ty cs d hc hu hd hi]

set_option maxRecDepth 100000 in
set_option maxHeartbeats 800000 in
theorem bits_any (n : Nat) (hn : n < 18446744073709551616) (w : World) :
    Calls Tryd.prog 53 #[.int .u64 n] w fun e w' => e = .returned (.agg (rowOf (fun i => ((n.testBit i).toNat : Int))).toArray) ∧ Below w.heap.size w w' := by
  go_enter Tryd.func53, Tryd.ntmps53
  go_wp2
  go_loopw [0, 4] (fun v i wr => ∃ k : Nat, k ≤ 64 ∧ i = .int .i64 k ∧ v = .int .u64 ((n / 2 ^ k : Nat) : Int) ∧ Arr wr (w.heap.size + 1) (fun j => if j < k then ((n.testBit j).toNat : Int) else 0) ∧ Arr wr w.heap.size (fun _ => 0) ∧ Below w.heap.size w wr) (fun _ i _ => 64 - (intOf i).toNat)
  case atStart => exact ⟨0, by omega, rfl, by simp, (Arr.new' (w.alloc _) _ rfl).as (by simp) (by funext j; simp), (Arr.new' w _ rfl).alloc _, by go_grown⟩
  case round =>
    obtain ⟨k, hk, rfl, rfl, A3, A2, hb⟩ := hrel
    obtain ⟨m, hm⟩ : ∃ m, m = n / 2 ^ k := ⟨_, rfl⟩
    rw [← hm]
    have HM : Hid (m = n / 2 ^ k) := hm
    have hmn : m ≤ n := by rw [hm]; exact Nat.div_le_self _ _
    clear hm
    by_cases hlt : k < 64
    · have hck := A3.at_ k hlt
      have hfk := A3.open_ k
      rw [if_neg (by omega)] at hck
      have HA3 : Hid (_) := A3
      have HA2 : Hid (_) := A2
      have HB : Hid (_) := hb
      clear A3 A2 hb
      go_wp2
      go_roundw
      case rel =>
        have hstep := bit_step n k
        have hdiv := div_step n k
        rw [← HM.out] at hstep hdiv
        refine ⟨k + 1, by omega, by go_num, by rw [← hdiv]; rfl, ?_, HA2.out.other (by omega) _ _, HB.out.setCell (by simp) _⟩
        refine HA3.out.set k _ hlt fun i hi => ?_
        by_cases e : i = k
        · subst e
          rw [if_pos (by omega), if_pos rfl, ← hstep]; rfl
        · rw [if_neg e]
          by_cases h2 : i < k
          · rw [if_pos (by omega), if_pos h2]
          · rw [if_neg (by omega), if_neg h2]
      case measure => simp [intOf]; omega
    · obtain rfl : k = 64 := by omega
      have A3' : Arr wr (w.heap.size + 1) (fun j => ((n.testBit j).toNat : Int)) := ⟨fun i hi => by rw [A3.at_ i hi, if_pos hi], A3.open_, A3.lt⟩
      have HR := A3'.range
      have HT := A2.there
      clear A3 A3'
      have hl := rowOf_len (fun j => ((n.testBit j).toNat : Int))
      have h1 := rowOf_one (fun j => ((n.testBit j).toNat : Int))
      obtain ⟨cs, hcs⟩ : ∃ cs, cs = rowOf (fun j => ((n.testBit j).toNat : Int)) := ⟨_, rfl⟩
      rw [← hcs] at HR hl h1
      have HCS : Hid (cs = rowOf (fun j => ((n.testBit j).toNat : Int))) := hcs
      clear hcs
      go_wp2_with (first
        | (refine wpList_load_mid rfl 77 _ rfl (w.heap.size + 1) 0 rfl cs _ HR Tryd.underlying77 rfl (by rw [hl]; exact info77) ?_)
        | (refine wpList_store_mid rfl 77 _ _ rfl w.heap.size 0 cs.toArray rfl rfl (by simpa [hl] using HT) (by simpa [hl] using info77) h1 ?_))
      refine ⟨rfl, .agg cs.toArray, results_cell_mid rfl _ _ w.heap.size 0 cs _ rfl ?_ Tryd.underlying77 rfl (by rw [hl]; exact info77), by rw [HCS.out], ?_⟩
      · exact World.rangeAt_setCells_same _ _ _ _ (by rw [hl]; exact HT)
      · exact below_setCells (Nat.le_refl _) _ _ _ hb

theorem hv_down (g : Nat → Bool) (j : Nat) (h0 : 0 < j) (hj : j ≤ 64) : hv g (64 - (j - 1)) (j - 1) = 2 * hv g (64 - j) j + (g (j - 1)).toNat := by
  have e : 64 - (j - 1) = (64 - j) + 1 := by omega
  have e2 : j - 1 + 1 = j := by omega
  rw [e, hv, e2]; omega

set_option maxRecDepth 100000 in
set_option maxHeartbeats 800000 in
theorem value_any (g : Nat → Bool) (w : World) :
    Calls Tryd.prog 54 #[.agg (rowOf (fun i => ((g i).toNat : Int))).toArray] w fun e w' => e = .returned (.int .u64 ((hv g 64 0 : Nat) : Int)) ∧ Below w.heap.size w w' := by
  obtain ⟨cs, hcs⟩ : ∃ cs, cs = rowOf (fun i => ((g i).toNat : Int)) := ⟨_, rfl⟩
  have hl : cs.length = 64 := by rw [hcs]; exact rowOf_len _
  have hat : ∀ i, i < 64 → cs[i]? = some (.int .i64 ((g i).toNat : Int)) := by rw [hcs]; exact rowOf_at _
  rw [← hcs]
  clear hcs
  go_enter Tryd.func54, Tryd.ntmps54
  go_wp2
  have hbel : Below w.heap.size w (w.alloc (.cells cs.toArray 77)) := by go_grown
  have HB : Hid (_) := hbel
  clear hbel
  have hcell : ∀ i, i < 64 → (w.alloc (.cells cs.toArray 77)).cell? ⟨w.heap.size, i, none⟩ = some (.int .i64 ((g i).toNat : Int)) := by
    intro i hi
    have := hat i hi
    simp [go_sem, this]
  generalize w.alloc (.cells cs.toArray 77) = W at *
  go_loop [3, 4] (fun v i => ∃ j : Nat, ∃ z : Nat, j ≤ 64 ∧ i = .int .i64 ((j : Int) - 1) ∧ v = .int .u64 (z : Int) ∧ Hid (z = hv g (64 - j) j) ∧ z * 2 ^ j < 18446744073709551616) (fun _ i => ((intOf i) + 1).toNat)
  case atStart => exact ⟨64, 0, by omega, rfl, rfl, rfl, by omega⟩
  case round =>
    obtain ⟨j, z, hj, rfl, rfl, HZ, hz⟩ := hrel
    by_cases h0 : 0 < j
    · obtain ⟨i, rfl⟩ : ∃ i, j = i + 1 := ⟨j - 1, by omega⟩
      have e : ((i + 1 : Nat) : Int) - 1 = (i : Int) := by omega
      rw [e]
      have hc := hcell i (by omega)
      obtain ⟨x, hx⟩ : ∃ x, x = (g i).toNat := ⟨_, rfl⟩
      rw [← hx] at hc
      have hx1 : x ≤ 1 := by rw [hx]; cases g i <;> simp
      have HX : Hid (x = (g i).toNat) := hx
      clear hx
      have hzz : z * 2 + 1 < 18446744073709551616 ∧ (2 * z + x) * 2 ^ i < 18446744073709551616 := by
        rw [HZ.out, HX.out]
        have h1 := hv_lt g (64 - (i + 1)) (i + 1)
        have h2 : 2 ^ (64 - (i + 1)) ≤ 2 ^ 63 := Nat.pow_le_pow_right (by omega) (by omega)
        have h3 := hv_down g (i + 1) (by omega) hj
        rw [Nat.add_sub_cancel] at h3
        have h4 := hv_lt g (64 - i) i
        rw [← h3]
        have h5 : 2 ^ (64 - i) * 2 ^ i = 18446744073709551616 := by rw [← Nat.pow_add, show 64 - i + i = 64 by omega]
        have h6 := Nat.mul_lt_mul_of_pos_right h4 (Nat.two_pow_pos i)
        omega
      obtain ⟨hz1, hz2⟩ := hzz
      clear hz
      go_wp2
      go_round
      case rel =>
        refine ⟨i, 2 * z + x, by omega, by go_num, ?_, ?_, hz2⟩
        · go_num
        · show _ = _
          have h3 := hv_down g (i + 1) (by omega) hj
          rw [Nat.add_sub_cancel] at h3
          rw [h3, HZ.out, HX.out]
      case measure => simp [intOf]
    · obtain rfl : j = 0 := by omega
      go_wp2
      go_ret
      exact ⟨ret_int (congrArg (fun n : Nat => (n : Int)) HZ.out), HB.out⟩
end Go.Proofs.YtmfmakkiefgogaaDoor
