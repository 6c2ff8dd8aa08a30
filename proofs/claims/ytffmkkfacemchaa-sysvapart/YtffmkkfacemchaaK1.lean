/-
  Layer 13: Check of any table.
-/
import Derived.Test.YtffmkkfacemchaaM1
import Derived.Sort.LoopGhostIn
import Derived.Deep.RegionHeld3
import Derived.Scope
namespace Go.Proofs.Ytffmkkfacemchaa
open Go.RowKit Go.Shelf Go.Sort
attribute [local go_sem] Oper.semAt_some
set_option linter.unusedVariables false

/-- Which one isn't met, of so many from one on. -/
def chkF (P : Nat → Bool) : Nat → Nat → Int × Bool
  | 0, _ => (0, true)
  | f + 1, i => if P i then chkF P f (i + 1) else ((i : Int), false)
/-- Is it in the walk of its name? -/
def metB (B C : Nat → Nat) (nb nc : Nat) (nm : Nat → ByteArray) (i : Nat) : Bool := decide (i ∈ walkN B C nb nc (nm i))

theorem c4_alloc2 {X : World} {o1 o2 : Obj} {p1 p2 p3 p4 : Addr} {v1 v2 v3 v4 : Value} (h : X.cell? p1 = some v1 ∧ X.cell? p2 = some v2 ∧ X.cell? p3 = some v3 ∧ X.cell? p4 = some v4) :
    ((X.alloc o1).alloc o2).cell? p1 = some v1 ∧ ((X.alloc o1).alloc o2).cell? p2 = some v2 ∧ ((X.alloc o1).alloc o2).cell? p3 = some v3 ∧ ((X.alloc o1).alloc o2).cell? p4 = some v4 := by
  have hb : Below X.heap.size X ((X.alloc o1).alloc o2) := ((Below.refl _ X).alloc (Nat.le_refl _) _).alloc (by simp) _
  have k : ∀ {a : Addr} {v}, X.cell? a = some v → ((X.alloc o1).alloc o2).cell? a = some v := fun hc => (hb.cell (World.block_lt_of_cell? _ _ hc)).trans hc
  exact ⟨k h.1, k h.2.1, k h.2.2.1, k h.2.2.2⟩

set_option maxRecDepth 100000 in
set_option maxHeartbeats 4000000 in
theorem check_any (a0 a1 an : Option Addr) (n0 n1 c0 c1 b o b' o' nn cn bn on m : Nat) (B C : Nat → Nat) (nm : Nat → ByteArray) (w : World)
    (hT : Tab w a0 a1 n0 n1 c0 c1 b o b' o' B C) (hN : Names w an nn bn on nm) (hm : min n1 nn = m) (hcn : nn ≤ cn) :
    Calls Try.prog 18 #[tbv (slv a0 n0 c0) (slv a1 n1 c1), .slice an nn cn] w fun e w' => e = .returned (.tuple #[.int .i64 (chkF (metB B C n0 n1 nm) (m - 1) 1).1, .bool (chkF (metB B C n0 n1 nm) (m - 1) 1).2]) ∧ Below w.heap.size w w' := by
  have hmm : min (n1 : Int) (nn : Int) = (m : Int) := by omega
  have hlb := hT.lb
  have hlc := hT.lc
  have HTT : Hid (Tab w a0 a1 n0 n1 c0 c1 b o b' o' B C) := hT
  have HNN : Hid (Names w an nn bn on nm) := hN
  have hn1 := hT.hn1
  have hnn := hN.hn
  clear hT hN
  obtain ⟨R, hR⟩ : ∃ R, chkF (metB B C n0 n1 nm) (m - 1) 1 = R := ⟨_, rfl⟩
  rw [hR]
  have HR0 : Hid (chkF (metB B C n0 n1 nm) (m - 1) 1 = R) := hR
  clear hR
  refine (callsIn_wide (n := 4)).1 ?_
  refine callsIn_of_wp_marks Try.func18 rfl trivial ?_ rfl
  simp only [Try.ntmps18, List.size_toArray, List.length_cons, List.length_nil, Nat.reduceAdd, Nat.reduceSub, Array.replicate_succ, Array.replicate_zero, List.push_toArray, List.append_toArray, List.nil_append, List.cons_append]
  have f15 : Fence.wide.fn 15 := trivial
  gi_wp2
  refine wpIn_wide.2 (wp_scope_straight ((wpIn_wide (n := 4)).1 ?_))
  refine wpIn_seq (wpIn_label ?_)
  gi_wp2
  refine wpIn_loop_ghost (fun k a W => ∃ (i Bi : Nat) (L : List Nat) (u7 u8 u9 u10 u11 u12 u13 u14 u15 u16 u17 u18 u19 u20 u21 u22 u23 u24 u25 u26 u27 u28 u29 : Value), a = { tmps := #[tbv (slv a0 n0 c0) (slv a1 n1 c1), .slice an nn cn, .pointer (some ⟨w.heap.size, 0, none⟩), undef, .int .i64 0, .bool false, .pointer (some ⟨Bi, 0, none⟩), u7, u8, u9, u10, u11, u12, u13, u14, u15, u16, u17, u18, u19, u20, u21, u22, u23, u24, u25, u26, u27, u28, u29], defers := marks L } ∧ (1 ≤ i ∧ (i ≤ m ∨ i = 1) ∧ k = m - i) ∧ Hid (chkF (metB B C n0 n1 nm) (m - i) i = R) ∧ w.heap.size + 1 ≤ Bi ∧ Boxed W Bi 3 (.int .i64 (i : Int)) ∧ W.heap[w.heap.size]? = some (.cells #[slv a0 n0 c0, slv a1 n1 c1] 25 (0, 0)) ∧ Hid (Below w.heap.size w W) ∧ Hid (MarksIn w.heap.size W W.heap.size L)) (m - 1) ?start ?round
  case start =>
    refine ⟨1, w.heap.size + 1, [], _, _, _, _, _, _, _, _, _, _, _, _, _, _, _, _, _, _, _, _, _, _, _, rfl, ⟨by omega, by omega, rfl⟩, HR0.out, by omega, ?_, ?_, ?_, trivial⟩
    · have h := Boxed.new (w.alloc (Obj.cells #[slv a0 n0 c0, slv a1 n1 c1] 25)) 3 (.int .i64 1)
      rw [World.size_alloc] at h
      exact h
    · exact (Below.heap_alloc _ _ _ (by simp)).trans (World.alloc_heap_new w _)
    · exact ((Below.refl _ w).alloc (Nat.le_refl _) _).alloc (by simp) _
  case round =>
    rintro k a W ⟨i, Bi, L, u7, u8, u9, u10, u11, u12, u13, u14, u15, u16, u17, u18, u19, u20, u21, u22, u23, u24, u25, u26, u27, u28, u29, rfl, ⟨h1, h2, rfl⟩, HR, hBi, bI, bT, HB, HM⟩
    have cI := bI.cell
    have fI := bI.frozen
    have lI := bI.lt
    obtain ⟨cT0, cT1⟩ : W.cell? ⟨w.heap.size, 0, none⟩ = some (slv a0 n0 c0) ∧ W.cell? ⟨w.heap.size, 1, none⟩ = some (slv a1 n1 c1) := ⟨by simp [World.cell?, bT], by simp [World.cell?, bT]⟩
    have lT : w.heap.size < W.heap.size := by omega
    rcases (by omega : nn < n1 ∨ ¬ nn < n1) with hq | hq
    all_goals
      by_cases hlt : i < m
      · have hii : (i : Int) < (if nn < n1 then (nn : Int) else (n1 : Int)) := by split <;> omega
        have hii2 : (i : Int) < (nn : Int) := by omega
        have hi0 : (0 : Int) ≤ (i : Int) := by omega
        obtain rfl : an = some ⟨bn, on, none⟩ := HNN.out.en (by omega)
        have cN : W.cell? ⟨bn, on + i, none⟩ = some (.string (nm i)) := (HB.out.cell (p := ⟨bn, on + i, none⟩) (HNN.out.ln (by omega))).trans (HNN.out.rn i (by omega))
        have hsz : (nm i).size ≤ 9223372036854775807 := HNN.out.hs i (by omega)
        obtain ⟨s, hs⟩ : ∃ s, nm i = s := ⟨_, rfl⟩
        rw [hs] at cN hsz
        have HS : Hid (nm i = s) := hs
        clear hs
        have WV : ∀ X : World, Calls Try.prog 15 #[tbv (slv a0 n0 c0) (slv a1 n1 c1), .string s] X fun e w' => e = .returned (.func (.func 45) #[] #[.pointer (some ⟨X.heap.size, 0, none⟩), .pointer (some ⟨X.heap.size + 1, 0, none⟩)]) ∧ w' = (X.alloc (.cells #[slv a0 n0 c0, slv a1 n1 c1] 25)).alloc (.cells #[.string s] 9) := fun X => (callsIn_wide (n := 3)).1 (walkv_in 3 _ _ _ _)
        have hS : W.drew.cell? ⟨w.heap.size, 0, none⟩ = some (slv a0 n0 c0) ∧ W.drew.cell? ⟨w.heap.size, 1, none⟩ = some (slv a1 n1 c1) ∧ W.drew.cell? ⟨Bi, 0, none⟩ = some (.int .i64 (i : Int)) ∧ W.drew.cell? ⟨bn, on + i, none⟩ = some (.string s) := ⟨cT0, cT1, cI, cN⟩
        gi_wp2
        refine wpIn_wide.2 ?_
        go_wp2
        go_region_held3 (fun X => X.cell? ⟨w.heap.size, 0, none⟩ = some (slv a0 n0 c0) ∧ X.cell? ⟨w.heap.size, 1, none⟩ = some (slv a1 n1 c1) ∧ X.cell? ⟨Bi, 0, none⟩ = some (.int .i64 (i : Int)) ∧ X.cell? ⟨bn, on + i, none⟩ = some (.string s))
          (first | assumption | (apply c4_alloc2; assumption))
          (first | (go_at_call 15; with_reducible refine (WV _).mono ?_; rintro e w' ⟨rfl, rfl⟩))
        have hW : ∃ W0 : World, ((W.alloc (Obj.cells #[slv a0 n0 c0, slv a1 n1 c1] 25)).alloc (Obj.cells #[Value.string s] 9)).drew = W0 ∧ W0.heap.size = W.heap.size + 2 ∧ Below W.heap.size W W0 ∧ TabAt W0 W.heap.size (W.heap.size + 1) s a0 a1 n0 n1 c0 c1 b o b' o' B C := by
          have hb0 : Below W.heap.size W ((W.alloc (Obj.cells #[slv a0 n0 c0, slv a1 n1 c1] 25)).alloc (Obj.cells #[Value.string s] 9)).drew := (((Below.refl _ W).alloc (Nat.le_refl _) _).alloc (by simp) _).drew
          have hB1 := HB.out.trans (hb0.mono HB.out.size)
          refine ⟨_, rfl, by show ((W.alloc _).alloc _).heap.size = _; simp, hb0, ?_⟩
          have ht := (Below.heap_alloc (W.alloc (Obj.cells #[slv a0 n0 c0, slv a1 n1 c1] 25)) (Obj.cells #[Value.string s] 9) W.heap.size (by simp)).trans (World.alloc_heap_new W (Obj.cells #[slv a0 n0 c0, slv a1 n1 c1] 25))
          have hs' := World.alloc_heap_new (W.alloc (Obj.cells #[slv a0 n0 c0, slv a1 n1 c1] 25)) (Obj.cells #[Value.string s] 9)
          rw [World.size_alloc] at hs'
          refine ⟨?_, ?_, ?_, HTT.out.e0, HTT.out.e1, HTT.out.rb.next hB1 HTT.out.lb, HTT.out.rc.next hB1 HTT.out.lc, Nat.lt_of_lt_of_le hlb hB1.size, Nat.lt_of_lt_of_le hlc hB1.size⟩
          · show ((W.alloc _).alloc _).cell? _ = _
            simp only [World.cell?, ht]; rfl
          · show ((W.alloc _).alloc _).cell? _ = _
            simp only [World.cell?, ht]; rfl
          · show ((W.alloc _).alloc _).cell? _ = _
            simp only [World.cell?, hs']; rfl
        rename_i hS2
        clear hS hS2
        gi_wp2
        obtain ⟨W0, hW0, hz0, hB0, hTA⟩ := hW
        try rw [hW0]
        clear hW0
        have bI0 : Boxed W0 Bi 3 (.int .i64 (i : Int)) := (hB0.block _ lI).trans bI
        refine wpIn_rangeFunc_ownH rfl (by omega) (gf := 45) (lb := #[.pointer (some ⟨W.heap.size, 0, none⟩), .pointer (some ⟨W.heap.size + 1, 0, none⟩)]) rfl trivial (enters_of Try.func45 (by kernel_rfl) rfl)
          (walk_stops 3 (by omega) W.heap.size (W.heap.size + 1) s a0 a1 n0 n1 c0 c1 b o b' o' B C hsz HTT.out.hn0 HTT.out.hn1 HTT.out.hc0 HTT.out.hc1 HTT.out.hB HTT.out.hC W0 hTA) K4.trans
          (fun Wa l o1 o2 hl h hc hw => by
            have hB := belowK_b (n₀ := W.heap.size + 2) (w := W0) (by omega) Wa l o1 o2 hl h hc hw
            exact K4.of_below hB (by omega) (by omega) (by omega) (by omega)) (Below.refl _ _) (fun _ => rfl)
          (fun pre Wa => (∀ y ∈ pre, y ≠ i) ∧ Below W0.heap.size W0 Wa)
          (fun c pre Wa => (c = .exit 1 ∧ ∃ q, pre = q ++ [i]) ∧ Below W0.heap.size W0 Wa)
          (OwnFrom.and (ownFrom_pure _ _) (ownFrom_below (Nat.le_refl _) (Nat.le_refl _))) (fun c => OwnFrom.and (ownFrom_pure _ _) (ownFrom_below (Nat.le_refl _) (Nat.le_refl _)))
          ⟨(fun x hx => by cases hx), Below.refl _ _⟩
          (fun x a' Wa => ∃ MM : Int, a' = { tmps := #[tbv (slv a0 n0 c0) (slv a1 n1 c1), .slice (some ⟨bn, on, none⟩) nn cn, .pointer (some ⟨w.heap.size, 0, none⟩), undef, .int .i64 0, .bool false, .pointer (some ⟨Bi, 0, none⟩), .int .i64 (x : Int), .int .i64 (i : Int), .pointer (some ⟨w.heap.size, 1, none⟩), slv a1 n1 c1, .int .i64 (n1 : Int), .slice (some ⟨bn, on, none⟩) nn cn, .int .i64 (nn : Int), .int .i64 MM, .bool true, u16, u17, .agg #[slv a0 n0 c0, slv a1 n1 c1], .slice (some ⟨bn, on, none⟩) nn cn, .int .i64 (i : Int), .pointer (some ⟨bn, on + i, none⟩), .string s, .func (.func 45) #[] #[.pointer (some ⟨W.heap.size, 0, none⟩), .pointer (some ⟨W.heap.size + 1, 0, none⟩)], .int .i64 (x : Int), u25, u26, u27, u28, u29], defers := [] })
          (fun x a' _ X Y row hs hg hr => hs)
          ?assign ?body ?done ?stop
        case assign =>
          rintro l pre x Wa K hI hK
          gi_wp2
          exact hK _ _ (KeepsFrom.refl _ _) (K4.refl _ _ _ _ _) hI ⟨_, rfl⟩
        case body =>
          rintro l pre x a' Wa hl ⟨r, hr⟩ hI ⟨MM, rfl⟩ hlt2
          obtain ⟨hno, hB⟩ := hI
          have bI2 : Boxed Wa Bi 3 (.int .i64 (i : Int)) := (hB.block _ bI0.lt).trans bI0
          have cI2 := bI2.cell
          by_cases hx : x = i
          · subst hx
            gi_wp2
            exact ⟨KeepsFrom.refl _ _, ⟨rfl, pre, rfl⟩, hB⟩
          · have hxi : ¬ (x : Int) = (i : Int) := by omega
            gi_wp2
            refine ⟨KeepsFrom.refl _ _, K4.refl _ _ _ _ _, fun y hy => ?_, hB⟩
            rcases List.mem_append.1 hy with hy | hy
            · exact hno y hy
            · obtain rfl : y = x := by simpa using hy
              exact hx
        case done =>
          rintro D ys Wa hD rfl ⟨hno, hB⟩ hK
          have HE : Hid (R = ((i : Int), false)) := by
            show _ = _
            rw [← HR.out, show m - i = (m - (i + 1)) + 1 by omega]
            show (if metB B C n0 n1 nm i = true then _ else _) = _
            rw [if_neg]
            unfold metB
            rw [HS.out]
            simp only [decide_eq_true_eq]
            exact fun h => hno i h rfl
          have bI2 : Boxed Wa Bi 3 (.int .i64 (i : Int)) := (hB.block _ bI0.lt).trans bI0
          have cI2 := bI2.cell
          have HB2 : Hid (Below W.heap.size W Wa) := hB0.trans (hB.mono hB0.size)
          have hsz2 : W.heap.size ≤ Wa.heap.size := HB2.out.size
          gi_wp2
          refine leaves_marks (B := w.heap.size) (v := .tuple #[.int .i64 (i : Int), .bool false]) (fun w2 => results_tmp2 (fn := Try.f18) (t := 4) (u := 5) rfl _ _ w2) (D :: L) Wa.heap.size Wa w ⟨by omega, (Array.getElem?_eq_some_iff.1 hK).1, hK, (HM.out.below HB2.out).mono (by omega)⟩ (Nat.le_refl _) (HB.out.trans (HB2.out.mono HB.out.size)) (fun w' hw' => ⟨by rw [HE.out], hw'⟩) (by omega)
        case stop =>
          rintro D c pre Wa hD hSp ⟨⟨rfl, q, hq2⟩, hB⟩ hK
          have bI2 : Boxed Wa Bi 3 (.int .i64 (i : Int)) := (hB.block _ bI0.lt).trans bI0
          have cI2 := bI2.cell
          have HB2 : Hid (Below W.heap.size W Wa) := hB0.trans (hB.mono hB0.size)
          have hsz2 : W.heap.size ≤ Wa.heap.size := HB2.out.size
          have lI2 := bI2.lt
          have HK : Hid (Wa.heap[D]? = some (.deferred (some []))) := hK
          have HE : Hid (chkF (metB B C n0 n1 nm) (m - (i + 1)) (i + 1) = R) := by
            show _ = _
            rw [← HR.out, show m - i = (m - (i + 1)) + 1 by omega]
            show _ = (if metB B C n0 n1 nm i = true then _ else _)
            rw [if_pos]
            unfold metB
            rw [HS.out, decide_eq_true_eq]
            refine hSp.subset ?_
            rw [hq2]
            simp
          have e1 : IntKind.i64.wrap ((i : Int) + 1) = ((i + 1 : Nat) : Int) := by rw [IntKind.wrap_i64]; omega
          clear hK hSp
          gi_wp2
          have hB3 : Below Wa.heap.size Wa (Wa.alloc (.cells #[.int .i64 ((i + 1 : Nat) : Int)] 3)) := (Below.refl _ Wa).alloc (Nat.le_refl _) _
          refine ⟨m - (i + 1), by omega, i + 1, Wa.heap.size, D :: L, _, _, _, _, _, _, _, _, _, _, _, _, _, _, _, _, _, _, _, _, _, _, _, rfl, ⟨by omega, by omega, rfl⟩, HE.out, by omega, Boxed.new Wa 3 _, ?_, ?_, ?_⟩
          · exact (hB3.block _ (by omega)).trans ((HB2.out.block _ lT).trans bT)
          · exact (HB.out.trans (HB2.out.mono HB.out.size)).trans (hB3.mono (by omega))
          · refine ⟨by omega, ?_, ?_, (((HM.out.below HB2.out).mono (by omega : W.heap.size ≤ D)).keep fun k hk _ ho => (hB3.block k (by have := (Array.getElem?_eq_some_iff.1 ho).1; omega)).trans ho)⟩
            · have := (Array.getElem?_eq_some_iff.1 HK.out).1
              rw [World.size_alloc]; omega
            · exact (hB3.block D (Array.getElem?_eq_some_iff.1 HK.out).1).trans HK.out
      · have hii : ¬ (i : Int) < (if nn < n1 then (nn : Int) else (n1 : Int)) := by split <;> omega
        have HE : Hid (R = (0, true)) := by
          show _ = _
          rw [← HR.out, show m - i = 0 by omega]
          rfl
        gi_wp2
        refine leaves_marks (B := w.heap.size) (v := .tuple #[.int .i64 0, .bool true]) (fun w2 => results_tmp2 (fn := Try.f18) (t := 4) (u := 5) rfl _ _ w2) L _ W w HM.out (Nat.le_refl _) HB.out (fun w' hw' => ⟨by rw [HE.out], hw'⟩) HB.out.size
end Go.Proofs.Ytffmkkfacemchaa
