/-
  The statement SpanStops: what is known behind both goings through.
-/
import Derived.Test.YtcdgogcbijohcaaB6
import Derived.Test.YtcdgogcbijohcaaSpeaks
import Derived.Test.YtcdgogcbijohcaaNil
import Derived.Deep.DeepCutAuto
import Derived.Deep.CutBlock
namespace Go.Proofs.Ytcdgogcbijohcaa
open Go.RowKit
set_option linter.unusedVariables false

theorem len_b (lo hi : Int) (w : World) (h0 : 0 ≤ lo) (h1 : hi < 18446744073709551616) : Calls Try.prog 18 #[.agg #[.int .u64 lo, .int .u64 hi]] w fun e w' => e = .returned (.int .u64 (if hi ≤ lo then 0 else hi - lo)) ∧ Below w.heap.size w w' :=
  (len_any lo hi w h0 h1).mono fun _ _ h => ⟨h.1, b2 _ _ h.2⟩

/-- The list that came in. -/
def In (W : World) (base : Option Addr) (n : Nat) : Prop := ∀ i, i < n → ∃ (b o : Nat) (lo hi : Int), base = some ⟨b, o, none⟩ ∧ 0 ≤ lo ∧ lo < 18446744073709551616 ∧ 0 ≤ hi ∧ hi < 18446744073709551616 ∧ W.cell? ⟨b, o + i * 2, none⟩ = some (.int .u64 lo) ∧ W.cell? ⟨b, o + i * 2 + 1, none⟩ = some (.int .u64 hi)
theorem In.below {W W' : World} {base : Option Addr} {n m : Nat} (h : In W base n) (hb : Below m W W') (hm : W.heap.size ≤ m) : In W' base n := by
  intro i hi
  obtain ⟨b, o, lo, hi', e, a1, a2, a3, a4, c1, c2⟩ := h i hi
  have l := World.block_lt_of_cell? _ _ c1
  exact ⟨b, o, lo, hi', e, a1, a2, a3, a4, (hb.cell (p := ⟨b, o + i * 2, none⟩) (Nat.lt_of_lt_of_le l hm)).trans c1, (hb.cell (p := ⟨b, o + i * 2 + 1, none⟩) (Nat.lt_of_lt_of_le l hm)).trans c2⟩

theorem Boxed.below {W W' : World} {B m : Nat} {t : TypeId} {v : Value} (h : Boxed W B t v) (hb : Below m W W') (hm : B < m) : Boxed W' B t v := (hb.block B hm).trans h

theorem below_of_grown {W W' : World} {G n : Nat} (hg : W.grownBy W' (some G)) (h : n ≤ G) (hn : n ≤ W.heap.size) : Below n W W' :=
  ⟨hg.os, hg.tape, hg.output, hg.size, fun k hk => hg.block k (Nat.lt_of_lt_of_le hk hn) (fun e => by have := Option.some.inj e; omega)⟩

theorem JC.set {w0 W : World} {Gb : Nat} {L : List (Int × Int)} (h : JC w0 Gb L L.length W) : ∃ v, SetAt W Gb v L ∧ (∀ g, v.ownBlock = some g → w0.heap.size ≤ g) ∧ w0.grownBy W (some Gb) := by
  obtain ⟨v, hb, hr, hg⟩ := h
  rw [List.take_length] at hr
  refine ⟨v, ⟨hb.cell, hb.frozen, ?_, (hb.not_row (by decide) hr).symm⟩, ?_, hg⟩
  · obtain ⟨hl, hv0 | ⟨g, cap, cur, e, hbg, hh⟩⟩ := hr
    · exact ⟨hl, .inl hv0⟩
    · exact ⟨hl, .inr ⟨g, cap, cur, e, Nat.zero_le _, hh⟩⟩
  · intro g e
    obtain ⟨hl, ⟨rfl, _⟩ | ⟨g', cap, cur, rfl, hbg, hh⟩⟩ := hr
    · cases e
    · cases e; exact hbg

theorem gr0 (W : World) : Gr W W := ⟨0, #[], by rw [Go.Sort.grow_empty]; rfl⟩

/-- All that is known behind both goings through. -/
theorem stops_mid {w w1 wr wc w4 w5 : World} {stop : Int} {u : Value} {L : List (Int × Int)} (h1 : w.heap.size < w1.heap.size) (hB1 : w1.heap.size < wr.heap.size) (hw : Below w.heap.size w w1)
    (hown : ∀ g, u.ownBlock = some g → g < wr.heap.size)
    (h : SetAt wc w1.heap.size u L ∧ Boxed wc w.heap.size 3 (.int .i64 stop) ∧ Below w1.heap.size w1 wc ∧ wc.heap.size = wr.heap.size + 2)
    (hJ : JC wc wr.heap.size L L.length w4) (hw5 : w5 = (w4.alloc (.cells #[.int .i64 0] 3)).alloc (.cells #[.pointer (some ⟨w1.heap.size, 0, none⟩)] 41)) (hL : L.length ≤ 100000) :
    Calls Try.prog 33 #[.func (.func 26) #[] #[.pointer (some ⟨w4.heap.size, 0, none⟩), .pointer (some ⟨w.heap.size, 0, none⟩)], .pointer (some ⟨w4.heap.size + 1, 0, none⟩)] w5
      fun e w6 => e = .returned (.tuple #[]) ∧ ∃ b cap, SetAt w6 w1.heap.size u L ∧ SetAt w6 wr.heap.size (.slice b L.length cap) L ∧ cap ≤ 9223372036854775807 ∧ Boxed w6 w4.heap.size 3 (.int .i64 (comes L.length stop : Nat)) ∧ Boxed w6 w.heap.size 3 (.int .i64 stop) ∧ Below w.heap.size w w6 := by
  obtain ⟨hs, hS, hb, hz⟩ := h
  obtain ⟨v, hV, hvo, hg⟩ := hJ.set
  have h4 : wc.heap.size ≤ w4.heap.size := hg.size
  have bel5 : Below w4.heap.size w4 w5 := b2 _ _ hw5
  have hs4 : SetAt w4 w1.heap.size u L := set_grown hs hg (by omega) (fun e => by have := hown _ e; omega)
  have hs5 := hs4.next bel5
  have hV5 := hV.next bel5
  have hS4 : Boxed w4 w.heap.size 3 (.int .i64 stop) := hS.kept hg (fun e => by have := Option.some.inj e; omega)
  have hS5 := Boxed.below hS4 bel5 (by omega)
  have hN5 : Boxed w5 w4.heap.size 3 (.int .i64 0) := by rw [hw5]; exact (Boxed.new w4 3 _).alloc _
  have hP5 : Boxed w5 (w4.heap.size + 1) 41 (.pointer (some ⟨w1.heap.size, 0, none⟩)) := by
    rw [hw5]; have := Boxed.new (w4.alloc (.cells #[.int .i64 0] 3)) 41 (.pointer (some ⟨w1.heap.size, 0, none⟩)); rwa [World.size_alloc] at this
  refine (all_count w5 w4.heap.size w.heap.size (w4.heap.size + 1) w1.heap.size stop u L hL hs5 hP5.cell (by omega) (fun e => by have := hown _ e; omega) (by omega) hN5 hS5).mono ?_
  rintro e w6 ⟨rfl, hn, hst, hg6⟩
  have hs6 := set_grown hs5 hg6 (by omega) (fun e => by have := hown _ e; omega)
  have hV6 := set_grown hV5 hg6 (by omega) (fun e => by have := hV.own _ e; omega)
  obtain ⟨b, cap, rfl, _, hcm⟩ := hV6.none
  have B4 : Below w1.heap.size wc w4 := below_of_grown hg (by omega) (by omega)
  have B6 : Below w1.heap.size w5 w6 := below_of_grown hg6 (by omega) (by have := bel5.size; omega)
  have B5 : Below w1.heap.size w4 w5 := bel5.mono (by omega)
  exact ⟨rfl, b, cap, hs6, hV6, by unfold maxLen at hcm; omega, hn, hst, hw.trans ((((hb.trans B4).trans B5).trans B6).mono (by omega))⟩

theorem comes_min (N : Nat) (stop : Int) (h : 1 ≤ stop) : ((comes N stop : Nat) : Int) = min (N : Int) stop := by
  unfold comes
  split <;> omega
theorem comes_none (N : Nat) (stop : Int) (h : ¬ 1 ≤ stop) : comes N stop = N := by
  unfold comes
  split <;> omega

end Go.Proofs.Ytcdgogcbijohcaa
