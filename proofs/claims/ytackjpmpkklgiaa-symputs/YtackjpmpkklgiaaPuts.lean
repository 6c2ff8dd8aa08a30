/-
  The statement SymPuts: its walk.
-/
import Derived.Test.YtackjpmpkklgiaaP2
import Derived.Test.YtackjpmpkklgiaaPutsB
import Derived.Test.YtackjpmpkklgiaaG1
import Derived.Test.YtackjpmpkklgiaaO1
namespace Go.Proofs.Ytackjpmpkklgiaa
open Go.RowKit
set_option linter.unusedVariables false

theorem refput_any (nm : ByteArray) (b k v x z n : Nat) (d : Bool) (w : World) (hb : b ≤ 2) (hk : k ≤ 15) (hv : v ≤ 3) (hx : x < 18446744073709551616) (hz : z < 18446744073709551616) (hn : n < 4294967296) :
    Calls Try.prog 16 #[(⟨nm, (b : Int), (k : Int), (v : Int), d, (x : Int), (z : Int)⟩ : Sy).val, .int .u32 (n : Int)] w fun e w' => e = .returned (.string (symB b k v d x z n)) ∧ Below w.heap.size w w' := by
  have P4 : ∀ W, Calls Try.prog 31 #[.int .u64 (if d then 1 else 0), .int .i64 2] W fun e w' => e = .returned (.string ⟨(enc (if d then 1 else 0) 2).toArray⟩) ∧ Below W.heap.size W w' := by
    intro W
    cases d
    · exact refput_yes 0 2 W (by omega) (by omega) (by omega)
    · exact refput_yes 1 2 W (by omega) (by omega) (by omega)
  have h := refput_d nm _ _ _ _ _ b k v x z n _ d w hb hk hv hx hz hn rfl (fun W => refput_yes n 4 W (by omega) (by omega) (by omega)) P4 (fun W => refput_yes x 8 W (by omega) (by omega) hx) (fun W => refput_yes z 8 W (by omega) (by omega) hz) rfl (encA_size _ _) rfl (encA_size _ _) (encA_size _ _) (encA_size _ _)
  rw [symB_ref b k v x z n d hb hk hv] at h
  exact h

end Go.Proofs.Ytackjpmpkklgiaa
