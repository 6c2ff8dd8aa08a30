/-
  A relocation as an argument: a struct of four numbers, opened and shut. No condition.
-/
import Derived.Test.YtghbkjdjginfjaaR2
import Derived.WalkKit
import Derived.ProofKit
import Derived.OpenShut
namespace Go.Proofs.Ytghbkjdjginfjaa
open Go.ChangeShapes Go.WideShapes Go.ChangeAt Go.RowKit
set_option linter.unusedVariables false

structure Lr where
  a : Int
  k : Int
  s : Int
  d : Int
structure Lr.Wf (i : Lr) : Prop where
  a : (Lit.int .u64 i.a).wf = true
  k : (Lit.int .i64 i.k).wf = true
  s : (Lit.int .i64 i.s).wf = true
  d : (Lit.int .u64 i.d).wf = true
abbrev Lr.agg (i : Lr) : Value := .agg #[.int .u64 i.a, .int .i64 i.k, .int .i64 i.s, .int .u64 i.d]
def Lr.data {H : Type} (i : Lr) : DataW H := .agg [.lit (.int .u64 i.a), .lit (.int .i64 i.k), .lit (.int .i64 i.s), .lit (.int .u64 i.d)]

theorem cells28 : Try.prog.cellsOf 28 = 4 := by kernel_rfl
theorem cells3 : Try.prog.cellsOf 3 = 1 := by kernel_rfl
theorem cells25 : Try.prog.cellsOf 25 = 1 := by kernel_rfl

theorem open_lr {H : Type} {enc : TypeId × Value → H} {w : World} {base : Nat} {spare : Nat → Bool} {held : Bool} {r : Reach} {b0 : Nat} {v : Value} {d : DataW H} {ps : List MemPlace} (hval : Value.okWide Try.prog w r b0 28 v) (hd : DataW.Trod enc Try.prog w base spare held 28 v d ps) :
    ∃ i : Lr, v = i.agg ∧ d = i.data ∧ ps = [] ∧ i.Wf := by
  obtain ⟨cs, rfl, hsz⟩ := okWide_struct Try.underlying28 hval
  obtain ⟨l⟩ := cs
  obtain ⟨fuel, hf⟩ := hd
  obtain ⟨xs, n, _, hx, hl, hlen, hff⟩ := DataW.trod_struct Try.underlying28 hf
  rw [cells28] at hsz
  match l, hsz, xs, hlen with
  | [c0, c1, c2, c3], _, [y0, y1, y2, y3], _ =>
    have h0 := hff 0 _ rfl
    have h1 := hff 1 _ rfl
    have h2 := hff 2 _ rfl
    have h3 := hff 3 _ rfl
    simp [Value.cells, cells3, cells25] at h0 h1 h2 h3
    obtain ⟨a, e0, x0, w0⟩ := DataW.trod_int Try.underlying25 h0
    obtain ⟨b, e1, x1, w1⟩ := DataW.trod_int Try.underlying3 h1
    obtain ⟨c, e2, x2, w2⟩ := DataW.trod_int Try.underlying3 h2
    obtain ⟨e, e3, x3, w3⟩ := DataW.trod_int Try.underlying25 h3
    simp only [List.cons.injEq, and_true] at e0 e1 e2 e3
    subst e0 e1 e2 e3 x0 x1 x2 x3
    simp at hx
    exact ⟨⟨a, b, c, e⟩, rfl, hx.1, hx.2, w0, w1, w2, w3⟩

theorem shut_lr {H : Type} {enc : TypeId × Value → H} {w : World} {base : Nat} {spare : Nat → Bool} {held : Bool} {i : Lr} (hw : i.Wf) : DataW.Trod enc Try.prog w base spare held 28 i.agg i.data [] := by
  refine ⟨2, ?_⟩
  have := trod_struct_mk (enc := enc) (w := w) (base := base) (spare := spare) (held := held) (n := 1) (cs := [.int .u64 i.a, .int .i64 i.k, .int .i64 i.s, .int .u64 i.d]) (xs := [(.lit (.int .u64 i.a), []), (.lit (.int .i64 i.k), []), (.lit (.int .i64 i.s), []), (.lit (.int .u64 i.d), [])]) Try.underlying28 (by rw [cells28]; rfl)
    (by simp [cells3, cells25, trod_int_mk 0 Try.underlying25 hw.a, trod_int_mk 0 Try.underlying3 hw.k, trod_int_mk 0 Try.underlying3 hw.s, trod_int_mk 0 Try.underlying25 hw.d])
  simpa [Lr.agg, Lr.data, Value.cells] using this
end Go.Proofs.Ytghbkjdjginfjaa
