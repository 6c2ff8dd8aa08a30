/-
  Layer 6: plain: an instruction as plain data. No condition.
-/
import Derived.Test.YtmfmakkiefgogaaDoorIA6
namespace Go.Proofs.YtmfmakkiefgogaaDoor
open Go.RowKit
set_option linter.unusedVariables false

/-- An instruction lies in a block. -/
def InAt (w : World) (b : Nat) (i : In) : Prop := w.cell? ⟨b, 0, none⟩ = some (.int .i64 i.op) ∧ w.cell? ⟨b, 1, none⟩ = some (.int .i64 i.rd) ∧ w.cell? ⟨b, 2, none⟩ = some (.int .i64 i.r1) ∧ w.cell? ⟨b, 3, none⟩ = some (.int .i64 i.r2) ∧ w.cell? ⟨b, 4, none⟩ = some (.int .i64 i.imm)
theorem InAt.next {w w' : World} {b : Nat} {i : In} (h : InAt w b i) (hb : Below w.heap.size w w') : InAt w' b i := by
  obtain ⟨h0, h1, h2, h3, h4⟩ := h
  exact ⟨(hb.cell (World.block_lt_of_cell? _ _ h0)).trans h0, (hb.cell (World.block_lt_of_cell? _ _ h1)).trans h1, (hb.cell (World.block_lt_of_cell? _ _ h2)).trans h2, (hb.cell (World.block_lt_of_cell? _ _ h3)).trans h3, (hb.cell (World.block_lt_of_cell? _ _ h4)).trans h4⟩
theorem in40 (w : World) (a b c d e : Int) : InAt (w.alloc (.cells #[.int .i64 a, .int .i64 b, .int .i64 c, .int .i64 d, .int .i64 e] 40)) w.heap.size ⟨a, b, c, d, e⟩ := box27 w a b c d e
theorem in44 (w : World) (a b c d e : Int) : InAt (w.alloc (.cells #[.int .i64 a, .int .i64 b, .int .i64 c, .int .i64 d, .int .i64 e] 44)) w.heap.size ⟨a, b, c, d, e⟩ := by
  refine ⟨?_, ?_, ?_, ?_, ?_⟩
  all_goals (rw [World.cell?_alloc_at _ _ _ _ (by simp)]; rfl)
theorem info44 : (Tryd.prog.info? 44).map (·.size) = some 5 := by kernel_rfl
theorem results_cell_mid1 {P : Program} {fn : Func} {p : Tmp} {ty : TypeId} (h : fn.results = #[.cell p ty]) (tmps : Array Value) (w : World) (b o : Nat) (cs : List Value) (d : TypeDesc)
    (hp : tmps.getD p undef = .pointer (some ⟨b, o, none⟩)) (hc : w.rangeAt b o cs)
    (hu : P.underlying ty = some d) (hd : d.isRow = true) (hi : (P.info? ty).map (·.size) = some cs.length) :
    (results fn tmps).run P w = .ok (.agg cs.toArray) w := by
  have hp' : tmps[p]?.getD undef = .pointer (some ⟨b, o, none⟩) := by simpa using hp
  simp [results, h, hp', asAddr, run_loadVar_mid w b o ty cs d hc hu hd hi]
theorem InAt.range {w : World} {b : Nat} {i : In} (h : InAt w b i) : w.rangeAt b 0 [.int .i64 i.op, .int .i64 i.rd, .int .i64 i.r1, .int .i64 i.r2, .int .i64 i.imm] := range5 h.1 h.2.1 h.2.2.1 h.2.2.2.1 h.2.2.2.2

set_option maxRecDepth 10000 in
set_option maxHeartbeats 1600000 in
theorem plain_any (a b c d e : Int) (w : World) :
    Calls Tryd.prog 20 #[.agg #[.int .i64 a, .int .i64 b, .int .i64 c, .int .i64 d, .int .i64 e]] w fun r w' => r = .returned (.agg #[.int .i64 a, .int .i64 b, .int .i64 c, .int .i64 d, .int .i64 e]) ∧ Gr w w' := by
  go_enter Tryd.func20, Tryd.ntmps20
  go_wp2
  refine ⟨rfl, .agg #[.int .i64 a, .int .i64 b, .int .i64 c, .int .i64 d, .int .i64 e], ?_, rfl, ?_⟩
  · refine (results_cell_mid1 (fn := Tryd.f20) rfl _ _ (w.heap.size + 1) 0 [.int .i64 a, .int .i64 b, .int .i64 c, .int .i64 d, .int .i64 e] _ ?_ ?_ Tryd.underlying44 rfl info44).trans ?_
    · rfl
    · exact range5 (by simp [go_sem]) (by simp [go_sem]) (by simp [go_sem]) (by simp [go_sem]) (by simp [go_sem])
    · rfl
  · exact Gr.trans (gr1 rfl) (gr1 rfl)
end Go.Proofs.YtmfmakkiefgogaaDoor
