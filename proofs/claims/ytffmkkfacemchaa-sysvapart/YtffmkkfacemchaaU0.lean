/-
  A drawn region in a function that defers: the same post, but that nothing panics.
-/
import Derived.Test.YtffmkkfacemchaaU1
import Derived.Sort.CutIn
import Derived.Sort.QuietIn
namespace Go.Proofs.Ytffmkkfacemchaa
open Go.RowKit Go.Shelf Go.Sort
attribute [local go_sem] Oper.semAt_some
set_option linter.unusedVariables false

/-- The same post, but that nothing panics. -/
def np (Q : Exit → Act → World → Prop) : Exit → Act → World → Prop
  | .panic _, _, _ => False
  | e, a, w => Q e a w
theorem np_normal {Q : Exit → Act → World → Prop} {a : Act} {w : World} (h : Q .normal a w) : np Q .normal a w := h
theorem np_region {F : Fence} {k : Nat} {P : Program} {c : Code} {Q : Exit → Act → World → Prop} {a : Act} {w : World} (h : c.wpIn F k P (np Q) a w) : c.wpIn F k P Q a w := by
  refine wpIn_mono h ?_
  intro e a' w' hq
  cases e with
  | panic ch => exact hq.elim
  | normal => exact hq
  | exit id => exact hq
  | goto l => exact hq
  | ret => exact hq
  | outgrown => exact hq

end Go.Proofs.Ytffmkkfacemchaa
