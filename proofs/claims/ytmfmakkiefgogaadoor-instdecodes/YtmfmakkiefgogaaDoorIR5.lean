/-
  Layer 6: the document's Decode, of any word: it answers what the program's Decode answers. No condition.
-/
import Derived.Test.YtmfmakkiefgogaaDoorIR4
import Derived.Test.YtmfmakkiefgogaaDoorIK2
import Derived.Test.YtmfmakkiefgogaaDoorISpeaks
namespace Go.Proofs.YtmfmakkiefgogaaDoor
open Go.RowKit
set_option linter.unusedVariables false

theorem info32 : (Tryd.prog.info? 44).map (·.size) = some 5 := by kernel_rfl

/-- A row of five numbers, that may be written. -/
structure Row5 (W : World) (b : Nat) (a0 a1 a2 a3 a4 : Int) : Prop where
  c0 : W.cell? ⟨b, 0, none⟩ = some (.int .i64 a0)
  c1 : W.cell? ⟨b, 1, none⟩ = some (.int .i64 a1)
  c2 : W.cell? ⟨b, 2, none⟩ = some (.int .i64 a2)
  c3 : W.cell? ⟨b, 3, none⟩ = some (.int .i64 a3)
  c4 : W.cell? ⟨b, 4, none⟩ = some (.int .i64 a4)
  fr : ∀ j, W.frozen? ⟨b, j, none⟩ = false
  lt : b < W.heap.size
theorem Row5.next {W W' : World} {b : Nat} {a0 a1 a2 a3 a4 : Int} (h : Row5 W b a0 a1 a2 a3 a4) (hb : Below W.heap.size W W') : Row5 W' b a0 a1 a2 a3 a4 :=
  ⟨(hb.cell (p := ⟨b, 0, none⟩) h.lt).trans h.c0, (hb.cell (p := ⟨b, 1, none⟩) h.lt).trans h.c1, (hb.cell (p := ⟨b, 2, none⟩) h.lt).trans h.c2, (hb.cell (p := ⟨b, 3, none⟩) h.lt).trans h.c3, (hb.cell (p := ⟨b, 4, none⟩) h.lt).trans h.c4, fun j => (hb.frozen (p := ⟨b, j, none⟩) h.lt).trans (h.fr j), Nat.lt_of_lt_of_le h.lt hb.size⟩
theorem Row5.new (w : World) (a0 a1 a2 a3 a4 : Int) : Row5 (w.alloc (.cells #[.int .i64 a0, .int .i64 a1, .int .i64 a2, .int .i64 a3, .int .i64 a4] 44)) w.heap.size a0 a1 a2 a3 a4 := by
  refine ⟨?_, ?_, ?_, ?_, ?_, fun j => by simp [go_sem], by simp⟩
  all_goals (rw [World.cell?_alloc_at _ _ _ _ (by simp)]; rfl)

theorem kept {w : World} {b o : Nat} {v : Value} (h : w.cell? ⟨b, o, none⟩ = some v) (hb : b < w.heap.size) (o1 : Obj) : (w.alloc o1).cell? ⟨b, o, none⟩ = some v := by
  have hbb : Below w.heap.size w (w.alloc o1) := by go_grown
  exact (hbb.cell (p := ⟨b, o, none⟩) hb).trans h

set_option maxRecDepth 10000 in
set_option maxHeartbeats 1600000 in
theorem refdec_none (x : Nat) (w : World) (hx : x < 4294967296) (hk : ∀ j, j < 64 → fit x j = false) :
    Calls Tryd.prog 19 #[.int .u32 x] w fun e w' => e = .returned (decV x) ∧ Below w.heap.size w w' := by
  have HD : Hid (decV x = .tuple #[(⟨0, 0, 0, 0, 0⟩ : In).agg, .bool false]) := by show _ = _; unfold decV decF; rw [kindF_none hk]; rfl
  have HK : Hid (_) := hk
  clear hk
  have hb0 : Below w.heap.size w (w.alloc (.cells #[.int .i64 0, .int .i64 0, .int .i64 0, .int .i64 0, .int .i64 0] 44)) := by go_grown
  have HR : Hid (Row5 (w.alloc (.cells #[.int .i64 0, .int .i64 0, .int .i64 0, .int .i64 0, .int .i64 0] 44)) w.heap.size 0 0 0 0 0) := Row5.new w 0 0 0 0 0
  have HB0 : Hid (_) := hb0
  clear hb0
  go_enter Tryd.func19, Tryd.ntmps19
  go_wp2_with (go_at_call 32; refine (ref_kinds _).mono ?_; rintro e w1 ⟨B, rfl, hB, hb1⟩; have hb : Below w.heap.size w w1 := HB0.out.trans (hb1.mono HB0.out.size); have HR1 : Hid (Row5 w1 w.heap.size 0 0 0 0 0) := Row5.next HR.out hb1; have HB : Hid (_) := hB; clear hB hb1)
  go_loopw [5] (fun i wr => ∃ k : Nat, k ≤ 64 ∧ i = .int .i64 k ∧ Below w1.heap.size w1 wr) (fun i _ => 64 - (intOf i).toNat)
  case atStart => exact ⟨0, by omega, rfl, Below.refl _ _⟩
  case round =>
    obtain ⟨k, hk, rfl, hbr⟩ := hrel
    by_cases hlt : k < 64
    · have hKA := HB.out.next hbr
      have c0 := hKA.name k hlt
      have c1 := hKA.form k hlt
      have c2 := hKA.op k hlt
      have c3 := hKA.f3 k hlt
      have c4 := hKA.f7 k hlt
      have FA := fits_any k x hlt hx
      have hfk := HK.out k hlt
      rw [hfk] at FA
      clear hKA hfk
      generalize nameAt k = nm at *
      generalize formS k = fs at *
      generalize kopL.getD k 0 = op at *
      generalize kf3L.getD k 0 = f3 at *
      generalize kf7L.getD k 0 = f7 at *
      have HBR : Hid (_) := hbr
      clear hbr
      go_wp2_with (go_at_call 33; with_reducible refine (FA _).mono ?_; rintro e w2 ⟨rfl, hb2⟩)
      go_roundw
      case rel => exact ⟨k + 1, by omega, by go_num, Below.trans HBR.out (hb2.mono HBR.out.size)⟩
      case measure => simp [intOf]; omega
    · have HR2 := Row5.next HR1.out hbr
      obtain ⟨r0, r1, r2, r3, r4, rf, rl⟩ := HR2
      have f0 := rf 0
      have f1 := rf 1
      have f2 := rf 2
      have f3 := rf 3
      have f4 := rf 4
      have HBR : Hid (_) := hbr
      clear hbr rf
      go_wp2
      refine ⟨rfl, .tuple #[(⟨0, 0, 0, 0, 0⟩ : In).agg, .bool false], ?_, by rw [HD.out], ?_⟩
      · refine (results_cell_mid2 (fn := Tryd.f19) rfl _ _ w.heap.size 0 [.int .i64 0, .int .i64 0, .int .i64 0, .int .i64 0, .int .i64 0] _ ?_ ?_ Tryd.underlying44 rfl info32).trans ?_
        · rfl
        · exact range5 (by simp [go_sem, r0]) (by simp [go_sem, r1]) (by simp [go_sem, r2]) (by simp [go_sem, r3]) (by simp [go_sem, r4])
        · rfl
      · have h := Below.trans hb (HBR.out.mono hb.size)
        exact ((((h.setCell (by simp) _).setCell (by simp) _).setCell (by simp) _).setCell (by simp) _).setCell (by simp) _
end Go.Proofs.YtmfmakkiefgogaaDoor
