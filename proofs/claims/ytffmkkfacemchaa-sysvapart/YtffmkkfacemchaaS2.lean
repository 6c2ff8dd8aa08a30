/-
  Layers 2 and 11: faults; what is asked of a symbol.
-/
import Derived.Test.YtffmkkfacemchaaA2
import Derived.Deep.MidRow
import Derived.Laws.ResultCell
import Derived.Deep.RegionHeld3
namespace Go.Proofs.Ytffmkkfacemchaa
open Go.RowKit
set_option linter.unusedVariables false

theorem results_cell_mid2 {P : Program} {fn : Func} {p u : Tmp} {ty : TypeId} (h : fn.results = #[.cell p ty, .tmp u]) (tmps : Array Value) (w : World) (b o : Nat) (cs : List Value) (d : TypeDesc)
    (hp : tmps.getD p undef = .pointer (some ⟨b, o, none⟩)) (hc : w.rangeAt b o cs) (hu : P.underlying ty = some d) (hd : d.isRow = true) (hi : (P.info? ty).map (·.size) = some cs.length) :
    (results fn tmps).run P w = .ok (.tuple #[.agg cs.toArray, tmps.getD u undef]) w := by
  rw [results_cell_tmp h, hp]
  simp [asAddr, run_loadVar_mid w b o ty cs d hc hu hd hi]
theorem results_cell_mid {P : Program} {fn : Func} {p : Tmp} {ty : TypeId} (h : fn.results = #[.cell p ty]) (tmps : Array Value) (w : World) (b o : Nat) (cs : List Value) (d : TypeDesc)
    (hp : tmps.getD p undef = .pointer (some ⟨b, o, none⟩)) (hc : w.rangeAt b o cs) (hu : P.underlying ty = some d) (hd : d.isRow = true) (hi : (P.info? ty).map (·.size) = some cs.length) :
    (results fn tmps).run P w = .ok (.agg cs.toArray) w := by
  have hp' : tmps[p]?.getD undef = .pointer (some ⟨b, o, none⟩) := by simpa using hp
  simp [results, h, hp', asAddr, run_loadVar_mid w b o ty cs d hc hu hd hi]
theorem range3 {w : World} {B : Nat} {v0 v1 v2 : Value} (h0 : w.cell? ⟨B, 0, none⟩ = some v0) (h1 : w.cell? ⟨B, 1, none⟩ = some v1) (h2 : w.cell? ⟨B, 2, none⟩ = some v2) : w.rangeAt B 0 [v0, v1, v2] := by
  intro j v hv
  rw [Nat.zero_add]
  match j, hv with
  | 0, hv => simp at hv; subst hv; exact h0
  | 1, hv => simp at hv; subst hv; exact h1
  | 2, hv => simp at hv; subst hv; exact h2
  | j + 3, hv => simp at hv
theorem info27 : (Try.prog.info? 29).map (·.size) = some 3 := by kernel_rfl

abbrev flt (c a : Int) : Value := .agg #[.int .i64 c, .int .u64 a, .string ⟨#[]⟩]
abbrev fbox (c a : Int) : Obj := .cells #[.int .i64 c, .int .u64 a, .string ⟨#[]⟩] 29

set_option maxHeartbeats 800000 in
theorem of_any (c : Int) (w : World) : Calls Try.prog 34 #[.int .i64 c] w fun e w' => e = .returned (flt c 0) ∧ w' = w.alloc (fbox c 0) := by
  go_enter Try.func34, Try.ntmps34
  go_wp2
  refine ⟨rfl, flt c 0, ?_, rfl, rfl⟩
  exact results_cell_mid (fn := Try.f34) rfl _ _ w.heap.size 0 [.int .i64 c, .int .u64 0, .string ⟨#[]⟩] _ rfl (range3 (by simp [go_sem]) (by simp [go_sem]) (by simp [go_sem])) Try.underlying29 rfl info27

set_option maxHeartbeats 800000 in
theorem fat_any (c a : Int) (w : World) : Calls Try.prog 38 #[.int .i64 c, .int .u64 a] w fun e w' => e = .returned (flt c a) ∧ w' = w.alloc (fbox c a) := by
  go_enter Try.func38, Try.ntmps38
  go_wp2
  refine ⟨rfl, flt c a, ?_, rfl, rfl⟩
  exact results_cell_mid (fn := Try.f38) rfl _ _ w.heap.size 0 [.int .i64 c, .int .u64 a, .string ⟨#[]⟩] _ rfl (range3 (by simp [go_sem]) (by simp [go_sem]) (by simp [go_sem])) Try.underlying29 rfl info27

set_option maxHeartbeats 800000 in
theorem fok_any (c a : Int) (w : World) : Calls Try.prog 20 #[flt c a] w fun e w' => e = .returned (.bool (c == 0)) ∧ w' = w.alloc (fbox c a) := by
  go_enter Try.func20, Try.ntmps20
  go_wp2
  go_ret
  exact ⟨rfl, rfl⟩
/-- A byte of a text. -/
def byteAt (e : ByteArray) (i : Nat) : Nat := (e.data.toList.getD i 0).toNat

theorem byteAt_is (e : ByteArray) (i : Nat) (h : i < e.size) : e[i].toNat = byteAt e i := by
  unfold byteAt
  simp [List.getD, ByteArray.getElem_eq_getElem_data, h]

theorem bt {w a b : World} (h1 : Below w.heap.size w a) (h2 : Below a.heap.size a b) : Below w.heap.size w b := h1.trans (h2.mono h1.size)
end Go.Proofs.Ytffmkkfacemchaa
