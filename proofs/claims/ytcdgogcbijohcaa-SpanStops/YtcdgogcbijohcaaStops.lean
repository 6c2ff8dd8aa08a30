/-
  The statement SpanStops: its walk.
-/
import Derived.Test.YtcdgogcbijohcaaB7
import Derived.BigQuiet
import Derived.Shelf.SlSortCmp.QuietGrown
namespace Go.Proofs.Ytcdgogcbijohcaa
open Go.RowKit
set_option linter.unusedVariables false

set_option maxRecDepth 100000 in
set_option maxHeartbeats 16000000 in
theorem stops_walk (base : Option Addr) (n c : Nat) (stop : Int) (w : World) (hin : In w base n) (hn : n ≤ 9223372036854775807) :
    Calls Try.prog 7 #[.slice base n c, .int .i64 stop] w fun e w' => e = .returned (.bool true) ∧ Below w.heap.size w w' := by
  have hS0 := Boxed.new w 3 (.int .i64 stop)
  go_enter Try.func7, Try.ntmps7
  go_upto_block 0 with (first | (go_at_call 8; refine (speaks_any _).mono ?_; rintro e w1 ⟨rfl, hb1⟩))
  have hw0 : Below w.heap.size w (w.alloc (.cells #[.int .i64 stop] 3)) := b1 _ rfl
  have hbw : Below w.heap.size w w1 := bt hw0 hb1
  have hSb : Boxed w1 w.heap.size 3 (.int .i64 stop) := Boxed.below hS0 hb1 (by simp)
  have hin1 : In w1 base n := hin.below hbw (Nat.le_refl _)
  have hset := set_new w1
  have hB0 : Below w1.heap.size w1 (w1.alloc (.cells #[.slice none 0 0] 26)) := b1 _ rfl
  have H1 : Hid (Boxed w1 w.heap.size 3 (.int .i64 stop)) := hSb
  have H2 : Hid (In w1 base n) := hin1
  have H3 : Hid (Below w.heap.size w w1) := hbw
  have H4 : Hid (w.heap.size < w1.heap.size) := hSb.lt
  have H5 : Hid (SetAt (w1.alloc (.cells #[.slice none 0 0] 26)) w1.heap.size (.slice none 0 0) []) := hset
  have H6 : Hid (Below w1.heap.size w1 (w1.alloc (.cells #[.slice none 0 0] 26))) := hB0
  clear hin hS0 hw0 hbw hSb hin1 hset hB0 hb1
  go_cut [6, 7, 8] (fun tt i x wc => ∃ (u : Value) (L : List (Int × Int)), L.length ≤ 30 ∧ tt = .int .u64 (IntKind.u64.wrap (tot L)) ∧ SetAt wc w1.heap.size u L ∧ Good L ∧ (∀ g, u.ownBlock = some g → w1.heap.size ≤ g) ∧ Below w1.heap.size w1 wc)
  case first =>
    go_wp2_with fail
    go_loopw [6, 7, 8] (fun tt i p8 wr => ∃ (k : Nat) (u : Value) (L : List (Int × Int)), k ≤ 30 ∧ k ≤ n ∧ i = .int .i64 k ∧ tt = .int .u64 (IntKind.u64.wrap (tot L)) ∧ SetAt wr w1.heap.size u L ∧ Good L ∧ L.length ≤ k ∧ (∀ g, u.ownBlock = some g → w1.heap.size ≤ g) ∧ Below w1.heap.size w1 wr) (fun _ i _ _ => 30 - (intOf i).toNat)
    case atStart => exact ⟨0, _, [], by omega, by omega, rfl, by rw [show tot [] = 0 from rfl, IntKind.wrap_u64]; rfl, H5.out, good_nil, by simp, (fun g e => by cases e), H6.out⟩
    case round =>
      obtain ⟨k, u, L, hk30, hkn, rfl, rfl, hset, hG, hLk, hu, hbr⟩ := hrel
      by_cases hc : k < n ∧ k < 30
      · obtain ⟨b, o, lo, hi, rfl, a1, a2, a3, a4, c1, c2⟩ := H2.out k hc.1
        have l1 := World.block_lt_of_cell? _ _ c1
        have d1 := (hbr.cell (p := ⟨b, o + k * 2, none⟩) l1).trans c1
        have d2 := (hbr.cell (p := ⟨b, o + k * 2 + 1, none⟩) l1).trans c2
        have hk1 : (k : Int) < (n : Int) := by omega
        have hk2 : (k : Int) < 30 := by omega
        have l2 : b < wr.heap.size := Nat.lt_of_lt_of_le l1 hbr.size
        have HS : Hid (SetAt wr w1.heap.size u L) := hset
        clear hset c1 c2 hc
        have hb2 : Below wr.heap.size wr (wr.alloc (box lo hi)).drew := (b1 _ rfl).drew
        have AG := add_good w1.heap.size u L lo hi _ (HS.out.next hb2) hG (by omega) a1 a4
        obtain ⟨x1, x2⟩ := box_at wr lo hi
        have hso := HS.out.own
        have HB2 : Hid (Below w1.heap.size w1 (wr.alloc (box lo hi)).drew) := hbr.trans (hb2.mono hbr.size)
        have HBr : Hid (w1.heap.size ≤ wr.heap.size) := hbr.size
        have hwl : w1.heap.size < wr.heap.size := HS.out.lt
        clear hbr hb2
        go_wp2
        go_region
        go_wp2_with fail
        refine AG.mono ?_
        rintro e w2 ⟨bb, u', L', rfl, hs', hG', hl', ht', hbt, hK, hLi⟩
        have hu' : ∀ g, u'.ownBlock = some g → w1.heap.size ≤ g := hLi.from hu (by have := HBr.out; simp; omega)
        have hBw : Below w1.heap.size w1 w2 := HB2.out.trans (hK.below (Nat.le_refl _) hu (by have := HBr.out; simp; omega))
        have hX := hK.block wr.heap.size (by simp) (by omega) (fun e => by have := hso _ e; omega)
        have y1 : w2.cell? ⟨wr.heap.size, 0, none⟩ = some (.int .u64 lo) := (World.cell?_of_block (a := ⟨wr.heap.size, 0, none⟩) hX).trans x1
        have y2 : w2.cell? ⟨wr.heap.size, 1, none⟩ = some (.int .u64 hi) := (World.cell?_of_block (a := ⟨wr.heap.size, 1, none⟩) hX).trans x2
        cases bb with
        | false =>
          have ht2 : tot L' = tot L := by rw [ht']; simp
          clear hK hX AG
          go_wp2
          go_roundw
          case rel => exact ⟨k + 1, u', L', by omega, by omega, by go_num, by rw [ht2], hs', hG', by omega, hu', hBw⟩
          case measure => simp [intOf]; omega
        | true =>
          have hlh : lo < hi := hbt rfl
          have ht2 : tot L' = tot L + (hi - lo) := by rw [ht']; simp
          have LB := len_b lo hi w2 a1 a4
          rw [if_neg (by omega)] at LB
          have HT2 : Hid (IntKind.u64.wrap (tot L') = IntKind.u64.wrap (IntKind.u64.wrap (tot L) + (hi - lo))) := by
            show _ = _
            rw [ht2, IntKind.wrap_u64, IntKind.wrap_u64, IntKind.wrap_u64]; omega
          have HS2 : Hid (SetAt w2 w1.heap.size u' L') := hs'
          generalize IntKind.u64.wrap (tot L) = q at HT2 ⊢
          clear hK hX AG ht2 ht' hs'
          go_wp2_with (go_at_call 18; refine LB.mono ?_; rintro e w3 ⟨rfl, hb3⟩)
          go_roundw
          case rel => exact ⟨k + 1, u', L', by omega, by omega, by go_num, by rw [HT2.out], HS2.out.next hb3, hG', by omega, hu', hBw.trans (hb3.mono hBw.size)⟩
          case measure => simp [intOf]; omega
      · have hsplit : (¬ (k : Int) < n) ∨ ((k : Int) < n ∧ ¬ (k : Int) < 30) := by omega
        rcases hsplit with hx1 | ⟨hx1, hx2⟩
        all_goals
          go_wp2
          go_meet
          case rel => exact ⟨u, L, by omega, rfl, hset, hG, hu, hbr⟩
  case rest =>
    obtain ⟨u, L, hL30, rfl, hset, hG, hu, hbr⟩ := hcut
    obtain ⟨N, hN⟩ : ∃ N, L.length = N := ⟨_, rfl⟩
    have HS : Hid (SetAt wc w1.heap.size u L) := hset
    have HBr : Hid (Below w1.heap.size w1 wc) := hbr
    have hN30 : N ≤ 30 := by omega
    have hB1 := hset.lt
    have hown := hset.own
    obtain ⟨wk, hwk⟩ : ∃ wk, wk = (wc.alloc (.cells #[.slice none 0 0] 24)).alloc (.cells #[.pointer (some ⟨w1.heap.size, 0, none⟩)] 41) := ⟨_, rfl⟩
    have bc : Below wc.heap.size wc wk := b2 _ _ hwk
    have szc : wk.heap.size = wc.heap.size + 2 := by rw [hwk]; simp
    have boxG : Boxed wk wc.heap.size 24 (.slice none 0 0) := by rw [hwk]; exact (Boxed.new wc 24 _).alloc _
    have boxP : Boxed wk (wc.heap.size + 1) 41 (.pointer (some ⟨w1.heap.size, 0, none⟩)) := by rw [hwk]; have := Boxed.new (wc.alloc (.cells #[.slice none 0 0] 24)) 41 (.pointer (some ⟨w1.heap.size, 0, none⟩)); rwa [World.size_alloc] at this
    have setc := hset.next bc
    have nown : u.ownBlock ≠ some wc.heap.size := fun e => by have := hown _ e; omega
    have CC := all_collect wk wc.heap.size (wc.heap.size + 1) w1.heap.size u L (by omega) setc boxP.cell (by omega) (by omega) nown boxG
    have boxS : Boxed wk w.heap.size 3 (.int .i64 stop) := Boxed.below (Boxed.below H1.out hbr H4.out) bc (by have := H4.out; omega)
    have HC0 : Hid (SetAt wk w1.heap.size u L ∧ Boxed wk w.heap.size 3 (.int .i64 stop) ∧ Below w1.heap.size w1 wk ∧ wk.heap.size = wc.heap.size + 2) := ⟨setc, boxS, hbr.trans (bc.mono hbr.size), szc⟩
    have HSE : Hid (sumL L = IntKind.u64.wrap (tot L)) := sumL_tot hG
    generalize IntKind.u64.wrap (tot L) = T at HSE ⊢
    have HGd : Hid (Good L) := hG
    clear bc boxG boxP setc boxS szc hset hbr hG
    go_wp2_with (first
      | (go_at_call 22; refine (all_p _ _).mono ?_; rintro e w3 ⟨rfl, rfl⟩)
      | (go_at_call 33; rw [← hwk]; refine CC.mono ?_; rintro e w4 ⟨rfl, hJC⟩))
    refine (stops_mid (stop := stop) H4.out hB1 H3.out hown HC0.out hJC rfl (by omega)).mono ?_
    rintro e w6 ⟨rfl, bq, cap, hs6, hV6, hcap, hn6, hst6, hb6⟩
    rw [hN] at hn6
    have Hs6 : Hid (SetAt w6 w1.heap.size u L) := hs6
    have HV6 : Hid (SetAt w6 wc.heap.size (.slice bq L.length cap) L) := hV6
    have HN6 : Hid (Boxed w6 w4.heap.size 3 (.int .i64 (comes N stop : Nat))) := hn6
    have HB6 : Hid (Below w.heap.size w w6) := hb6
    have cG := hV6.cell
    rw [hN] at cG
    have cS := hst6.cell
    have hwant : (¬ 1 ≤ stop ∧ comes N stop = N) ∨ (1 ≤ stop ∧ ¬ stop < (N : Int) ∧ comes N stop = N) ∨ (1 ≤ stop ∧ stop < (N : Int) ∧ ((comes N stop : Nat) : Int) = stop) := by
      unfold comes
      split <;> omega
    have hmN : comes N stop ≤ N := by
      unfold comes
      split <;> omega
    clear hs6 hV6 hn6 hb6 CC hwk HC0 hJC hst6
    generalize comes N stop = m at HN6 hwant hmN
    have HW : Hid _ := hwant
    clear hwant
    go_upto_if 51 with fail
    go_cut [11] (fun p wd => p = .int .i64 (m : Nat) ∧ wd = w6)
    case first =>
      rcases HW.out with ⟨hs1, hm⟩ | ⟨hs1, hs2, hm⟩ | ⟨hs1, hs2, hm⟩
      · subst hm
        go_wp2
        go_meet
        case rel => exact ⟨rfl, rfl⟩
      · subst hm
        go_wp2
        go_meet
        case rel => exact ⟨by go_num, rfl⟩
      · go_wp2
        go_meet
        case rel => exact ⟨by rw [hm, show min (N : Int) stop = stop from by omega], rfl⟩
    case rest =>
      obtain ⟨rfl, hwd⟩ := hcut
      subst hwd
      clear HW cG cS HS HBr hB1 hown nown hu
      go_wp2
      go_loopw [12] (fun i wt => ∃ j : Nat, j ≤ N ∧ i = .int .i64 j ∧ Gr wc wt) (fun i _ => N - (intOf i).toNat)
      case atStart => exact ⟨0, Nat.zero_le _, rfl, gr0 _⟩
      case round =>
        obtain ⟨j, hj, rfl, hgr⟩ := hrel
        have hbel := hgr.below
        have sB := Hs6.out.next hbel
        have sG := HV6.out.next hbel
        have cG := sG.cell
        rw [hN] at cG
        by_cases hlt : j < N
        · obtain ⟨g, cap', he, hg, hgB, _, _, hc⟩ := sG.some (by omega)
          obtain ⟨rfl, rfl⟩ : bq = some ⟨g, 0, none⟩ ∧ cap = cap' := by cases he; exact ⟨rfl, rfl⟩
          have hp : L[j]? = some (L.getD j (0, 0)) := getD_some (by omega)
          obtain ⟨d1, d2⟩ := hc j _ hp
          have hE := (HGd.out.each j (by omega)).2.1
          have CV : ∀ n os, Calls Try.prog 9 #[.pointer (some ⟨w1.heap.size, 0, none⟩), .agg #[.int .u64 (L.getD j (0, 0)).1, .int .u64 (L.getD j (0, 0)).2]] (Go.Sort.grow (wr.drewN n) os) fun e w' => e = .returned (.bool true) ∧ ∃ q os', w' = Go.Sort.grow ((Go.Sort.grow (wr.drewN n) os).drewN q) os' :=
            fun n os => covers_g w1.heap.size u L j _ _ _ (sB.next (Gr.below ⟨n, os, rfl⟩)) (by omega) HGd.out (by omega) rfl
          have z1 := fun n os => Go.cell_grown (World.block_lt_of_cell? _ _ cG) cG n os
          have z2 := fun n os => Go.cell_grown (World.block_lt_of_cell? _ _ d1) d1 n os
          have z3 := fun n os => Go.cell_grown (World.block_lt_of_cell? _ _ d2) d2 n os
          have hji : (j : Int) < (N : Int) := by omega
          have HGR : Hid (Gr wc wr) := hgr
          cases j with
          | zero =>
            generalize L.getD 0 (0, 0) = x at hE CV z2 z3
            obtain ⟨lo, hi⟩ := x
            dsimp only at z2 z3 CV hE
            simp only [Nat.zero_mul, Nat.zero_add] at z2 z3
            have hji0 : (0 : Int) < (N : Int) := by omega
            have hE2 : ¬ hi ≤ lo := by omega
            clear hc he hp hgr hbel sB sG d1 d2 hE HGd Hs6 HV6 HN6 HB6 H1 H2 H3 H4 H5 H6 HSE hgB hg
            clear hji
            have hdb : decide (hi ≤ lo) = false := decide_eq_false (by omega)
            have hle : (hi ≤ lo) = False := by simp; omega
            have mixed := mixedTry
            go_wp2_with fail
            clear cG
            refine Go.wp_region_quiet_grown (by assumption) (by kernel_rfl) ?_
            repeat (go_big_quiet_step (first | (go_at_call 9; refine Calls.grown_of (CV _ _))))
            refine wpQuiet_nil ?_
            intro _ hw'
            obtain ⟨⟨nq, osq⟩, hw''⟩ := hw'
            subst hw''
            go_wp2
            go_roundw
            case rel => exact ⟨1, by omega, by go_num, HGR.out.trans ⟨_, _, rfl⟩⟩
            case measure => simp [intOf]; omega
          | succ j =>
            have hp' : L[j]? = some (L.getD j (0, 0)) := getD_some (by omega)
            obtain ⟨d3, d4⟩ := hc j _ hp'
            have z4 := fun n os => Go.cell_grown (World.block_lt_of_cell? _ _ d3) d3 n os
            have z5 := fun n os => Go.cell_grown (World.block_lt_of_cell? _ _ d4) d4 n os
            have hA := HGd.out.apart j (j + 1) (by omega) (by omega)
            generalize L.getD (j + 1) (0, 0) = x at hE CV z2 z3 hA
            generalize L.getD j (0, 0) = y at z4 z5 hA
            obtain ⟨lo, hi⟩ := x
            obtain ⟨lo', hi'⟩ := y
            dsimp only at z2 z3 z4 z5 CV hE hA
            have hE2 : ¬ hi ≤ lo := by omega
            have hA2 : ¬ lo ≤ hi' := by omega
            clear hc he hp hp' hgr hbel sB sG d1 d2 d3 d4 hE hA HGd Hs6 HV6 HN6 HB6 H1 H2 H3 H4 H5 H6 HSE hgB hg
            have hdb : decide (hi ≤ lo) = false := decide_eq_false (by omega)
            have hle : (hi ≤ lo) = False := by simp; omega
            have hdb2 : decide (lo ≤ hi') = false := decide_eq_false (by omega)
            have hle2 : (lo ≤ hi') = False := by simp; omega
            have hpos : (0 : Int) < (j : Int) + 1 := by omega
            have mixed := mixedTry
            go_wp2_with fail
            clear cG
            refine Go.wp_region_quiet_grown (by assumption) (by kernel_rfl) ?_
            repeat (go_big_quiet_step (first | (go_at_call 9; refine Calls.grown_of (CV _ _))))
            refine wpQuiet_nil ?_
            intro _ hw'
            obtain ⟨⟨nq, osq⟩, hw''⟩ := hw'
            subst hw''
            go_wp2
            go_roundw
            case rel => exact ⟨j + 2, by omega, by go_num, HGR.out.trans ⟨_, _, rfl⟩⟩
            case measure => simp [intOf]; omega
        · have hji : ¬ (j : Int) < (N : Int) := by omega
          have bN := Boxed.below HN6.out hbel HN6.out.lt
          have cN := bN.cell
          have SL := setLen_any w1.heap.size u L (by omega) wr sB
          rw [HSE.out] at SL
          have HB7 : Hid (Below w.heap.size w wr) := HB6.out.trans (hbel.mono HB6.out.size)
          clear bN sB sG hgr hbel HGd Hs6 HV6 HN6 HB6 H1 H2 H3 H4 H5 H6 HSE
          go_wp2_with (go_at_call 24; refine SL.mono ?_; rintro r w8 ⟨rfl, hb8⟩)
          go_ret
          exact ⟨rfl, HB7.out.trans (hb8.mono HB7.out.size)⟩
end Go.Proofs.Ytcdgogcbijohcaa
