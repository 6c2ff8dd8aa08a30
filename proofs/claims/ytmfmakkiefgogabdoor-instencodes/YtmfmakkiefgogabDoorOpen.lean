/-
  An instruction as an argument: a struct of five numbers, opened and shut. No condition.
-/
import Derived.Test.YtmfmakkiefgogabDoorSpeaks
import Derived.WalkKit
import Derived.ProofKit
import Derived.OpenShut
namespace Go.Proofs.YtmfmakkiefgogabDoor
open Go.ChangeShapes Go.WideShapes Go.ChangeAt Go.RowKit
set_option linter.unusedVariables false

structure In.Wf (i : In) : Prop where
  op : (Lit.int .i64 i.op).wf = true
  rd : (Lit.int .i64 i.rd).wf = true
  r1 : (Lit.int .i64 i.r1).wf = true
  r2 : (Lit.int .i64 i.r2).wf = true
  imm : (Lit.int .i64 i.imm).wf = true
def In.data {H : Type} (i : In) : DataW H := .agg [.lit (.int .i64 i.op), .lit (.int .i64 i.rd), .lit (.int .i64 i.r1), .lit (.int .i64 i.r2), .lit (.int .i64 i.imm)]

theorem cells23 : Tryd.prog.cellsOf 23 = 5 := by kernel_rfl
theorem cells3 : Tryd.prog.cellsOf 3 = 1 := by kernel_rfl
theorem cells2 : Tryd.prog.cellsOf 2 = 1 := by kernel_rfl

theorem open_in {H : Type} {enc : TypeId × Value → H} {w : World} {base : Nat} {spare : Nat → Bool} {held : Bool} {r : Reach} {b0 : Nat} {v : Value} {d : DataW H} {ps : List MemPlace} (hval : Value.okWide Tryd.prog w r b0 23 v) (hd : DataW.Trod enc Tryd.prog w base spare held 23 v d ps) :
    ∃ i : In, v = i.agg ∧ d = i.data ∧ ps = [] ∧ i.Wf := by
  obtain ⟨cs, rfl, hsz⟩ := okWide_struct Tryd.underlying23 hval
  obtain ⟨l⟩ := cs
  obtain ⟨fuel, hf⟩ := hd
  obtain ⟨xs, n, _, hx, hl, hlen, hff⟩ := DataW.trod_struct Tryd.underlying23 hf
  rw [cells23] at hsz
  match l, hsz, xs, hlen with
  | [c0, c1, c2, c3, c4], _, [y0, y1, y2, y3, y4], _ =>
    have h0 := hff 0 _ rfl
    have h1 := hff 1 _ rfl
    have h2 := hff 2 _ rfl
    have h3 := hff 3 _ rfl
    have h4 := hff 4 _ rfl
    simp [Value.cells, cells3, cells2] at h0 h1 h2 h3 h4
    obtain ⟨a, e0, x0, w0⟩ := DataW.trod_int Tryd.underlying3 h0
    obtain ⟨b, e1, x1, w1⟩ := DataW.trod_int Tryd.underlying3 h1
    obtain ⟨c, e2, x2, w2⟩ := DataW.trod_int Tryd.underlying3 h2
    obtain ⟨d', e3, x3, w3⟩ := DataW.trod_int Tryd.underlying3 h3
    obtain ⟨e, e4, x4, w4⟩ := DataW.trod_int Tryd.underlying2 h4
    simp only [List.cons.injEq, and_true] at e0 e1 e2 e3 e4
    subst e0 e1 e2 e3 e4 x0 x1 x2 x3 x4
    simp at hx
    exact ⟨⟨a, b, c, d', e⟩, rfl, hx.1, hx.2, w0, w1, w2, w3, w4⟩

theorem shut_in {H : Type} {enc : TypeId × Value → H} {w : World} {base : Nat} {spare : Nat → Bool} {held : Bool} {i : In} (hw : i.Wf) : DataW.Trod enc Tryd.prog w base spare held 23 i.agg i.data [] := by
  refine ⟨2, ?_⟩
  have := trod_struct_mk (enc := enc) (w := w) (base := base) (spare := spare) (held := held) (n := 1) (cs := [.int .i64 i.op, .int .i64 i.rd, .int .i64 i.r1, .int .i64 i.r2, .int .i64 i.imm]) (xs := [(.lit (.int .i64 i.op), []), (.lit (.int .i64 i.rd), []), (.lit (.int .i64 i.r1), []), (.lit (.int .i64 i.r2), []), (.lit (.int .i64 i.imm), [])]) Tryd.underlying23 (by rw [cells23]; rfl)
    (by simp [cells3, cells2, trod_int_mk 0 Tryd.underlying3 hw.op, trod_int_mk 0 Tryd.underlying3 hw.rd, trod_int_mk 0 Tryd.underlying3 hw.r1, trod_int_mk 0 Tryd.underlying3 hw.r2, trod_int_mk 0 Tryd.underlying2 hw.imm])
  simpa [In.agg, In.data, Value.cells] using this
end Go.Proofs.YtmfmakkiefgogabDoor
