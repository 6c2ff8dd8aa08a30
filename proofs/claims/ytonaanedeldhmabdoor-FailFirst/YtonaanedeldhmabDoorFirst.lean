/-
  fail.First: the first one of some faults that is one.
-/
import Derived.Test.YtonaanedeldhmabDoorSpeaks
namespace Go.Proofs.YtonaanedeldhmabDoor
open Go.RowKit

/-- The first one that is one: its number and its place; 0 and 0 where there is none. -/
def fst (z : Nat → Int) : Nat → Int × Nat
  | 0 => (0, 0)
  | k + 1 => if (fst z k).1 = 0 ∧ z k ≠ 0 then (z k, k) else fst z k

theorem fst_zero (z : Nat → Int) : ∀ k, (∀ j, j < k → z j = 0) → fst z k = (0, 0)
  | 0, _ => rfl
  | k + 1, h => by
    rw [fst, fst_zero z k (fun j hj => h j (by omega)), if_neg]
    intro h2
    exact h2.2 (h k (by omega))
theorem fst_hit (z : Nat → Int) (m : Nat) (h0 : z m ≠ 0) (h : ∀ j, j < m → z j = 0) : ∀ k, m < k → fst z k = (z m, m)
  | 0, hk => by omega
  | k + 1, hk => by
    by_cases e : m = k
    · subst e
      rw [fst, fst_zero z m h, if_pos ⟨rfl, h0⟩]
    · rw [fst, fst_hit z m h0 h k (by omega), if_neg]
      intro h2
      exact h0 h2.1

set_option maxHeartbeats 800000 in
theorem first_nil (w : World) : Calls Tryd.prog 12 #[.slice none 0 0] w fun x w' => x = .returned (.agg #[.int .i64 0, .int .u64 0, .string ⟨#[]⟩]) ∧ Below w.heap.size w w' := by
  go_enter Tryd.func12, Tryd.ntmps12
  go_wp2
  go_loop [7] (fun i => i = .int .i64 0) (fun _ => 0)
  case atStart => exact rfl
  case round =>
    subst hrel
    go_wp2
    go_returns
    exact ⟨rfl, by go_grown⟩

/-- Behind two new blocks an older cell is as it was. -/
theorem two_cell {w : World} {b o : Nat} {v : Value} (h : w.cell? ⟨b, o, none⟩ = some v) (hb : b < w.heap.size) (o1 o2 : Obj) : ((w.alloc o1).alloc o2).cell? ⟨b, o, none⟩ = some v := by
  have hbb : Below w.heap.size w ((w.alloc o1).alloc o2) := by go_grown
  exact (hbb.cell (p := ⟨b, o, none⟩) hb).trans h
theorem two_frozen {w : World} {b o : Nat} (h : w.frozen? ⟨b, o, none⟩ = false) (hb : b < w.heap.size) (o1 o2 : Obj) : ((w.alloc o1).alloc o2).frozen? ⟨b, o, none⟩ = false := by
  have hbb : Below w.heap.size w ((w.alloc o1).alloc o2) := by go_grown
  exact (hbb.frozen (p := ⟨b, o, none⟩) hb).trans h

set_option maxRecDepth 100000 in
set_option maxHeartbeats 1600000 in
theorem first_any (g k cap : Nat) (z : Nat → Int) (w : World) (hk : k ≤ 20) (hg : g < w.heap.size)
    (hc : Hid (∀ j, j < k → w.cell? ⟨g, j * 3, none⟩ = some (.int .i64 (z j)) ∧ w.cell? ⟨g, j * 3 + 1, none⟩ = some (.int .u64 (j : Int)) ∧ w.cell? ⟨g, j * 3 + 1 + 1, none⟩ = some (.string ⟨#[]⟩))) :
    Calls Tryd.prog 12 #[.slice (some ⟨g, 0, none⟩) k cap] w fun x w' => x = .returned (.agg #[.int .i64 (fst z k).1, .int .u64 ((fst z k).2 : Int), .string ⟨#[]⟩]) ∧ Below w.heap.size w w' := by
  go_enter Tryd.func12, Tryd.ntmps12
  go_wp2
  go_loopw [7] (fun i wr => ∃ j : Nat, j ≤ k ∧ i = .int .i64 j ∧ Hid (∀ t, t < j → z t = 0) ∧ wr.cell? ⟨w.heap.size, 0, none⟩ = some (.int .i64 0) ∧ wr.cell? ⟨w.heap.size, 1, none⟩ = some (.int .u64 0) ∧ wr.cell? ⟨w.heap.size, 2, none⟩ = some (.string ⟨#[]⟩) ∧ (∀ o, wr.frozen? ⟨w.heap.size, o, none⟩ = false) ∧ w.heap.size < wr.heap.size ∧ Below w.heap.size w wr) (fun i _ => k - (intOf i).toNat)
  case atStart => exact ⟨0, by omega, rfl, fun t h => by omega, by simp [go_sem], by simp [go_sem], by simp [go_sem], fun o => by simp [go_sem], by simp, (Below.refl _ _).alloc (Nat.le_refl _) _⟩
  case round =>
    obtain ⟨j, hj, rfl, HZ, r0, r1, r2, rf, hz, hb⟩ := hrel
    by_cases hlt : j < k
    · have hcj := hc.out j hlt
      have x0 := (hb.cell (p := ⟨g, j * 3, none⟩) hg).trans hcj.1
      have x1 := (hb.cell (p := ⟨g, j * 3 + 1, none⟩) hg).trans hcj.2.1
      have x2 := (hb.cell (p := ⟨g, j * 3 + 1 + 1, none⟩) hg).trans hcj.2.2
      clear hcj
      by_cases hzj : z j = 0
      · have hzb : (z j == 0) = true := by simp [hzj]
        have HZJ : Hid (z j = 0) := hzj
        clear hzj
        go_wp2_with (go_at_call 11; refine (ok_any _ _ _ _).mono ?_; rintro e w2 ⟨rfl, hw2⟩; subst hw2)
        go_roundw
        case rel =>
          refine ⟨j + 1, by omega, by go_num, fun t h => ?_, two_cell r0 hz _ _, two_cell r1 hz _ _, two_cell r2 hz _ _, fun o => two_frozen (rf o) hz _ _, by simp; omega, ?_⟩
          · by_cases e : t = j
            · subst e; exact HZJ.out
            · exact HZ.out t (by omega)
          · exact (hb.alloc (by omega) _).alloc (by simp; omega) _
        case measure => simp [intOf]; omega
      · have hzb : (z j == 0) = false := by simp [hzj]
        have HF : Hid (fst z k = (z j, j)) := fst_hit z j hzj HZ.out k hlt
        clear hzj
        have s0 := two_cell r0 hz
        have s1 := two_cell r1 hz
        have s2 := two_cell r2 hz
        have f0 := two_frozen (rf 0) hz
        have f1 := two_frozen (rf 1) hz
        have f2 := two_frozen (rf 2) hz
        go_wp2_with (go_at_call 11; refine (ok_any _ _ _ _).mono ?_; rintro e w2 ⟨rfl, hw2⟩; subst hw2)
        have q0 : (((wr.setCell ⟨w.heap.size, 0, none⟩ (.int .i64 (z j))).setCell ⟨w.heap.size, 1, none⟩ (.int .u64 (j : Int))).setCell ⟨w.heap.size, 2, none⟩ (.string ⟨#[]⟩)).cell? ⟨w.heap.size, 0, none⟩ = some (.int .i64 (z j)) := by simp [go_sem, r0]
        have q1 : (((wr.setCell ⟨w.heap.size, 0, none⟩ (.int .i64 (z j))).setCell ⟨w.heap.size, 1, none⟩ (.int .u64 (j : Int))).setCell ⟨w.heap.size, 2, none⟩ (.string ⟨#[]⟩)).cell? ⟨w.heap.size, 1, none⟩ = some (.int .u64 (j : Int)) := by simp [go_sem, r1]
        have q2 : (((wr.setCell ⟨w.heap.size, 0, none⟩ (.int .i64 (z j))).setCell ⟨w.heap.size, 1, none⟩ (.int .u64 (j : Int))).setCell ⟨w.heap.size, 2, none⟩ (.string ⟨#[]⟩)).cell? ⟨w.heap.size, 2, none⟩ = some (.string ⟨#[]⟩) := by simp [go_sem, r2]
        have t0 := two_cell q0 (by simpa using hz)
        have t1 := two_cell q1 (by simpa using hz)
        have t2 := two_cell q2 (by simpa using hz)
        refine bodyPost_ret (v := .agg #[.int .i64 (z j), .int .u64 (j : Int), .string ⟨#[]⟩]) (by simp [results, Tryd.results12, go_sem, t0, t1, t2]) rfl ⟨by rw [HF.out], ?_⟩
        exact ((((hb.setCell (Nat.le_refl _) _).setCell (Nat.le_refl _) _).setCell (Nat.le_refl _) _).alloc (by simp; omega) _).alloc (by simp; omega) _
    · have hjk : j = k := by omega
      subst hjk
      have HF : Hid (fst z j = (0, 0)) := fst_zero z j HZ.out
      have f0 := rf 0
      have f1 := rf 1
      have f2 := rf 2
      go_wp2
      refine bodyPost_ret (v := .agg #[.int .i64 0, .int .u64 0, .string ⟨#[]⟩]) (by simp [results, Tryd.results12, go_sem, r0, r1, r2]) rfl ⟨by rw [HF.out]; rfl, ?_⟩
      exact ((hb.setCell (Nat.le_refl _) _).setCell (Nat.le_refl _) _).setCell (Nat.le_refl _) _
end Go.Proofs.YtonaanedeldhmabDoor
