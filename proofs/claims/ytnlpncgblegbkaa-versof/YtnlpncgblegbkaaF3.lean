/-
  An append within a region whose operations come in any order, in a round of a range over a function too.
-/
import Derived.Test.YtnlpncgblegbkaaD2
namespace Go.Proofs.Ytnlpncgblegbkaa
open Go.RowKit Go.Shelf
set_option linter.unusedVariables false

/-- An append that alone may come next, in a round or not, by what it is run to. -/
theorem any_append {F : Fence} {n : Nat} {P : Program} {md : Region.Mode} {ops : Array Oper} {Q : Exit → Act → World → Prop} {fuel : Nat} {listed : Array Bool} {a : Act} {w : World} (j : Nat) (o : Oper) (hr : Region.ready md ops listed = [j]) (ho : ops[j]? = some o)
    (s x : Operand) (t : TypeId) (hop : o.op = Op.call { callee := Callee.builtin Builtin.append, args := #[s, x], argTypes := #[t, t] }) (hwt : Region.wanted o (yielded ops a.tmps) = true)
    (v v' : Value) (w1 : World) (ad : Addr) (m c : Nat) (hs : a.eval s = v) (hx : a.eval x = .slice (some ad) m c)
    (hrun : Sem.run P (Builtin.append_ #[t, t] o.type #[v, Value.slice (some ad) m c]) w = Result.ok v' w1)
    (h : wpAnyIn F n P md ops Q fuel (listed.setIfInBounds j true) (a.put o.dst v') w1) : wpAnyIn F n P md ops Q (fuel + 1) listed a w := by
  refine wpAnyIn_ready hr (by simp) (AllReadyIn.cons ho (fun K hK => ?_) AllReadyIn.nil)
  rw [if_pos hwt]
  unfold Oper.wpIn
  refine ⟨?_, ?_⟩
  · simp [Oper.about, hop, resolve, Target.leads, Sem.run_pure]
  · rw [Oper.semAt_plain F _ _ (by rw [hop]; intro c hc'; cases hc')]
    simp [execOp, hop, resolve, invoke, builtin, hs, hx, hrun, Result.andThen]
    exact hK _ _ h
end Go.Proofs.Ytnlpncgblegbkaa
