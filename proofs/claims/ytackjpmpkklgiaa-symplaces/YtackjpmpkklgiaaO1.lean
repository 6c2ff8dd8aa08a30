/-
  A symbol as an argument: a struct of three numbers, a bool and two numbers, opened and shut. No condition.
-/
import Derived.Test.YtackjpmpkklgiaaS6
import Derived.WalkKit
import Derived.ProofKit
import Derived.OpenShut
namespace Go.Proofs.Ytackjpmpkklgiaa
open Go.ChangeShapes Go.WideShapes Go.ChangeAt Go.RowKit
set_option linter.unusedVariables false

structure Ls where
  b : Int
  k : Int
  v : Int
  d : Bool
  x : Int
  z : Int
structure Ls.Wf (i : Ls) : Prop where
  b : (Lit.int .i64 i.b).wf = true
  k : (Lit.int .i64 i.k).wf = true
  v : (Lit.int .i64 i.v).wf = true
  x : (Lit.int .u64 i.x).wf = true
  z : (Lit.int .u64 i.z).wf = true
abbrev Ls.agg (i : Ls) : Value := .agg #[.int .i64 i.b, .int .i64 i.k, .int .i64 i.v, .bool i.d, .int .u64 i.x, .int .u64 i.z]
def Ls.data {H : Type} (i : Ls) : DataW H := .agg [.lit (.int .i64 i.b), .lit (.int .i64 i.k), .lit (.int .i64 i.v), .lit (.bool i.d), .lit (.int .u64 i.x), .lit (.int .u64 i.z)]

theorem cells39 : Try.prog.cellsOf 39 = 6 := by kernel_rfl
theorem cells3 : Try.prog.cellsOf 3 = 1 := by kernel_rfl
theorem cells4 : Try.prog.cellsOf 4 = 1 := by kernel_rfl
theorem cells25 : Try.prog.cellsOf 25 = 1 := by kernel_rfl

theorem open_ls {H : Type} {enc : TypeId × Value → H} {w : World} {base : Nat} {spare : Nat → Bool} {held : Bool} {r : Reach} {b0 : Nat} {v : Value} {d : DataW H} {ps : List MemPlace} (hval : Value.okWide Try.prog w r b0 39 v) (hd : DataW.Trod enc Try.prog w base spare held 39 v d ps) :
    ∃ i : Ls, v = i.agg ∧ d = i.data ∧ ps = [] ∧ i.Wf := by
  obtain ⟨cs, rfl, hsz⟩ := okWide_struct Try.underlying39 hval
  obtain ⟨l⟩ := cs
  obtain ⟨fuel, hf⟩ := hd
  obtain ⟨xs, n, _, hx, hl, hlen, hff⟩ := DataW.trod_struct Try.underlying39 hf
  rw [cells39] at hsz
  match l, hsz, xs, hlen with
  | [c0, c1, c2, c3, c4, c5], _, [y0, y1, y2, y3, y4, y5], _ =>
    have h0 := hff 0 _ rfl
    have h1 := hff 1 _ rfl
    have h2 := hff 2 _ rfl
    have h3 := hff 3 _ rfl
    have h4 := hff 4 _ rfl
    have h5 := hff 5 _ rfl
    simp [Value.cells, cells3, cells4, cells25] at h0 h1 h2 h3 h4 h5
    obtain ⟨a, e0, x0, w0⟩ := DataW.trod_int Try.underlying3 h0
    obtain ⟨b, e1, x1, w1⟩ := DataW.trod_int Try.underlying3 h1
    obtain ⟨c, e2, x2, w2⟩ := DataW.trod_int Try.underlying3 h2
    obtain ⟨d', e3, x3⟩ := DataW.trod_bool Try.underlying4 h3
    obtain ⟨e, e4, x4, w4⟩ := DataW.trod_int Try.underlying25 h4
    obtain ⟨f, e5, x5, w5⟩ := DataW.trod_int Try.underlying25 h5
    simp only [List.cons.injEq, and_true] at e0 e1 e2 e3 e4 e5
    subst e0 e1 e2 e3 e4 e5 x0 x1 x2 x3 x4 x5
    simp at hx
    exact ⟨⟨a, b, c, d', e, f⟩, rfl, hx.1, hx.2, w0, w1, w2, w4, w5⟩

theorem shut_ls {H : Type} {enc : TypeId × Value → H} {w : World} {base : Nat} {spare : Nat → Bool} {held : Bool} {i : Ls} (hw : i.Wf) : DataW.Trod enc Try.prog w base spare held 39 i.agg i.data [] := by
  refine ⟨2, ?_⟩
  have hb : DataW.trod enc Try.prog w base spare held 1 4 [.bool i.d] = some (.lit (.bool i.d), []) := by
    simp [DataW.trod, Try.underlying4]
  have := trod_struct_mk (enc := enc) (w := w) (base := base) (spare := spare) (held := held) (n := 1) (cs := [.int .i64 i.b, .int .i64 i.k, .int .i64 i.v, .bool i.d, .int .u64 i.x, .int .u64 i.z]) (xs := [(.lit (.int .i64 i.b), []), (.lit (.int .i64 i.k), []), (.lit (.int .i64 i.v), []), (.lit (.bool i.d), []), (.lit (.int .u64 i.x), []), (.lit (.int .u64 i.z), [])]) Try.underlying39 (by rw [cells39]; rfl)
    (by simp [cells3, cells4, cells25, trod_int_mk 0 Try.underlying3 hw.b, trod_int_mk 0 Try.underlying3 hw.k, trod_int_mk 0 Try.underlying3 hw.v, hb, trod_int_mk 0 Try.underlying25 hw.x, trod_int_mk 0 Try.underlying25 hw.z])
  simpa [Ls.agg, Ls.data, Value.cells] using this
end Go.Proofs.Ytackjpmpkklgiaa
