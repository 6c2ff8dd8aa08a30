/-
  Layer 13: the walk of SysvApart, where no list is.
-/
import Derived.Test.YtffmkkfacemchaaN3
namespace Go.Proofs.Ytffmkkfacemchaa
open Go.RowKit Go.Sort Go.Maps
set_option linter.unusedVariables false

set_option maxRecDepth 100000 in
set_option maxHeartbeats 8000000 in
theorem apart_nil (f : Nat → ByteArray) (buckets : Int) (w : World) :
    Calls Try.prog 6 #[.slice none 0 0, .int .i64 buckets] w fun e w' => e = .returned (.bool true) ∧ Below w.heap.size w w' := by
  have S9 := fun W => speaks13_any W
  have mk := mask_i64 buckets 5 (by omega)
  change bits BinOp.and IntKind.i64 buckets 31 = _ at mk
  obtain ⟨y, hy⟩ : ∃ y, (buckets % 18446744073709551616).toNat % 2 ^ 5 = y := ⟨_, rfl⟩
  rw [hy] at mk
  obtain ⟨nb, hnb⟩ : ∃ nb, 1 + y = nb := ⟨_, rfl⟩
  have h0 : 1 ≤ nb := by omega
  have h1 : nb ≤ 256 := by omega
  have ew : IntKind.i64.wrap (1 + (y : Int)) = (nb : Int) := by rw [IntKind.wrap_i64]; omega
  clear hy hnb
  go_enter Try.func6, Try.ntmps6
  go_wp2_with (first
    | (go_at_call 9; refine (S9 _).mono ?_; rintro r w1 ⟨rfl, hb1⟩)
    | (at_builtin; refine wp_app_nil f w1.heap.size rfl _ _ rfl rfl rfl (World.alloc_heap_new w1 _) ?_; intro v' w2 hown' hgrow; obtain ⟨NN, g, cn, hv', hNN, hcn, HNM⟩ := names_let hown' (fun j hj => absurd hj (by omega)) (by omega); subst hv')
    | fail)
  have hN0 : 1 ≤ NN := by have := hNN.out; omega
  have hN1 : NN ≤ 61 := by have := hNN.out; omega
  have hbw2 : Below w.heap.size w w2 := ((hb1.alloc hb1.size _).grown hgrow (by rw [World.size_alloc]; have := hb1.size; omega) (fun q hq => by cases hq))
  have HNMS : Hid (Names w2 (some ⟨g, 0, none⟩) NN g 0 (consN f)) := HNM
  have HBW2 : Hid (Below w.heap.size w w2) := hbw2
  clear hown' hgrow hNN HNM hbw2 hb1
  obtain ⟨hfn, hhfn⟩ : ∃ hfn : Nat → Nat, ∀ j, hs (consN f j) % nb = hfn j := ⟨_, fun j => rfl⟩
  refine (build_any (some ⟨g, 0, none⟩) NN cn g 0 nb (consN f) hfn w2 hhfn HNMS.out h0 h1 hN0 (by omega)).mono ?_
  rintro e w3 ⟨⟨g1, g2, rfl, hr1, hr2, hne⟩, hb3⟩
  obtain ⟨B, hBd⟩ : ∃ B, bldB hfn NN = B := ⟨_, rfl⟩
  obtain ⟨C, hCd⟩ : ∃ C, bldC hfn NN = C := ⟨_, rfl⟩
  have HBd : Hid (bldB hfn NN = B) := hBd
  have HCd : Hid (bldC hfn NN = C) := hCd
  have HHF : Hid (∀ j, hs (consN f j) % nb = hfn j) := hhfn
  have hBl : ∀ j, j < nb → B j < NN := fun j hj => by rw [← hBd]; exact bldB_lt hfn j NN (by omega)
  have hCl : ∀ j, j < NN → C j < NN := fun j hj => by rw [← hCd]; exact bldC_lt hfn NN j hj
  rw [hBd] at hr1
  rw [hCd] at hr2
  have HBl : Hid (∀ j, j < nb → B j < NN) := hBl
  have HCl : Hid (∀ j, j < NN → C j < NN) := hCl
  have HT3 : Hid (Tab w3 (some ⟨g1, 0, none⟩) (some ⟨g2, 0, none⟩) nb NN nb NN g1 0 g2 0 B C) := tab_of hr1 hr2 h1 (by omega) (fun j hj => by have := hBl j hj; omega) (fun j hj => by have := hCl j hj; omega)
  have HN3 : Hid (Names w3 (some ⟨g, 0, none⟩) NN g 0 (consN f)) := HNMS.out.below hb3
  have HB3 : Hid (Below w.heap.size w w3) := bt HBW2.out hb3
  clear hBd hCd hhfn hBl hCl hr1 hr2 hb3 hne HNMS HBW2
  have MI := makeI_any NN (by omega)
  have hmm := @run_makeMap Try.prog
  go_wp2_with fail
  obtain ⟨T, hT⟩ : ∃ T, w3.heap.size = T := ⟨_, rfl⟩
  obtain ⟨W5, hW5⟩ : ∃ W5, (((w3.alloc (Obj.cells #[slv (some ⟨g1, 0, none⟩) nb nb, slv (some ⟨g2, 0, none⟩) NN NN] 25)).alloc (Obj.cells (rowI NN (fun _ => 0)) 3)).alloc (Obj.map #[] 0)) = W5 := ⟨_, rfl⟩
  have hz5 : W5.heap.size = T + 3 := by rw [← hW5, ← hT]; simp
  have hb5 : Below w3.heap.size w3 W5 := by rw [← hW5]; exact (((Below.refl _ w3).alloc (Nat.le_refl _) _).alloc (by simp) _).alloc (by simp; omega) _
  have hT5 : W5.heap[T]? = some (.cells #[slv (some ⟨g1, 0, none⟩) nb nb, slv (some ⟨g2, 0, none⟩) NN NN] 25 (0, 0)) := by
    rw [← hW5, ← hT]
    exact (Below.heap_alloc _ _ _ (by simp; omega)).trans ((Below.heap_alloc _ _ _ (by simp)).trans (World.alloc_heap_new w3 _))
  have hC5 : RowC W5 (T + 1) NN (cntF hfn 1) := by
    have h : RowC W5 (T + 1) NN (fun _ => 0) := by
      rw [← hW5, ← hT]
      have := World.alloc_heap_new (w3.alloc (Obj.cells #[slv (some ⟨g1, 0, none⟩) nb nb, slv (some ⟨g2, 0, none⟩) NN NN] 25)) (Obj.cells (rowI NN (fun _ => 0)) 3)
      rw [World.size_alloc] at this
      exact (Below.heap_alloc _ _ _ (by simp)).trans this
    exact h.congr fun j hj => by
      unfold cntF doneB doneB
      simp
  have hM5 : W5.ownsMap (H := Unit) Try.prog 51 (plainElem Try.prog 3) (T + 1 + 1) 0 (.map []) := by
    have := World.ownsMap_made (H := Unit) ((w3.alloc (Obj.cells #[slv (some ⟨g1, 0, none⟩) nb nb, slv (some ⟨g2, 0, none⟩) NN NN] 25)).alloc (Obj.cells (rowI NN (fun _ => 0)) 3)) Try.prog 51 (plainElem Try.prog 3)
    rw [hW5, World.size_alloc, World.size_alloc, hT] at this
    exact this
  rw [hW5, hT]
  clear hW5 MI hmm
  go_loopw [10] (fun i wr => ∃ (k : Nat) (D : DataW Unit), (1 ≤ k ∧ k ≤ NN) ∧ i = .int .i64 (k : Int) ∧ wr.heap[T]? = some (.cells #[slv (some ⟨g1, 0, none⟩) nb nb, slv (some ⟨g2, 0, none⟩) NN NN] 25 (0, 0)) ∧ Hid (RowC wr (T + 1) NN (cntF hfn k)) ∧ Hid (wr.ownsMap (H := Unit) Try.prog 51 (plainElem Try.prog 3) (T + 1 + 1) k D) ∧ Hid (MapV D (seenF hfn NN k)) ∧ Below w3.heap.size w3 wr ∧ T + 3 ≤ wr.heap.size) (fun i _ => NN - (intOf i).toNat)
  case atStart => exact ⟨1, .map [], ⟨by omega, by omega⟩, rfl, hT5, hC5, hM5.mono (Nat.zero_le _), mapV_nil hfn NN, hb5, by omega⟩
  case round =>
    obtain ⟨k, D, ⟨hk1, hk⟩, rfl, hTb, HRC, HMP, HMV, hbr, hzr⟩ := hrel
    by_cases hlt : k < NN
    · have hki : (k : Int) < (NN : Int) := by omega
      have hki0 : (0 : Int) ≤ (k : Int) := by omega
      have cK : wr.cell? ⟨g, k, none⟩ = some (.string (consN f k)) := by
        have := (HN3.out.belowN hbr (HN3.out.ln (by omega))).rn k hlt
        rwa [Nat.zero_add] at this
      have hsz := HN3.out.hs k hlt
      obtain ⟨cT0, cT1⟩ := cells_of2 hTb
      obtain ⟨L, hL⟩ : ∃ L, prevs hfn (hfn k) NN = L := ⟨_, rfl⟩
      have HL : Hid (walkN B C nb NN (consN f k) = L) := by
        show _ = _
        rw [← HBd.out, ← HCd.out, walkN_built hfn nb NN _ (by omega), HHF.out k, hL]
      have HPL : Hid (prevs hfn (hfn k) NN = L) := hL
      have HTA : Hid (Tab wr (some ⟨g1, 0, none⟩) (some ⟨g2, 0, none⟩) nb NN nb NN g1 0 g2 0 B C) := HT3.out.belowN hbr HT3.out.lb HT3.out.lc
      clear hL
      obtain ⟨s, hs⟩ : ∃ s, consN f k = s := ⟨_, rfl⟩
      rw [hs] at cK hsz HL
      have HSE : Hid (consN f k = s) := hs
      clear hs
      obtain ⟨Bk, hBk⟩ : ∃ Bk, wr.heap.size = Bk := ⟨_, rfl⟩
      go_wp2
      obtain ⟨wx, hwx⟩ : ∃ wx, wr.alloc (.cells #[.slice none 0 0] 38) = wx := ⟨_, rfl⟩
      have hbx : Below wr.heap.size wr wx := by rw [← hwx]; exact (Below.refl _ wr).alloc (Nat.le_refl _) _
      have hzx : wx.heap.size = Bk + 1 := by rw [← hwx, World.size_alloc, hBk]
      have hBx : Boxed wx Bk 38 (.slice none 0 0) := by rw [← hwx, ← hBk]; exact Boxed.new _ _ _
      rw [hwx]
      have WV : ∀ X : World, Calls Try.prog 15 #[tbv (slv (some ⟨g1, 0, none⟩) nb nb) (slv (some ⟨g2, 0, none⟩) NN NN), .string s] X fun e w' => e = .returned (.func (.func 45) #[] #[.pointer (some ⟨X.heap.size, 0, none⟩), .pointer (some ⟨X.heap.size + 1, 0, none⟩)]) ∧ w' = (X.alloc (.cells #[slv (some ⟨g1, 0, none⟩) nb nb, slv (some ⟨g2, 0, none⟩) NN NN] 25)).alloc (.cells #[.string s] 9) := fun X => (callsIn_wide (n := 3)).1 (walkv_in 3 _ _ _ _)
      have hS : wx.drew.cell? ⟨T, 0, none⟩ = some (slv (some ⟨g1, 0, none⟩) nb nb) ∧ wx.drew.cell? ⟨T, 1, none⟩ = some (slv (some ⟨g2, 0, none⟩) NN NN) ∧ wx.drew.cell? ⟨g, k, none⟩ = some (.string s) := ⟨(hbx.cell (World.block_lt_of_cell? _ _ cT0)).trans cT0, (hbx.cell (World.block_lt_of_cell? _ _ cT1)).trans cT1, (hbx.cell (World.block_lt_of_cell? _ _ cK)).trans cK⟩
      have hTBk : T + 1 + 1 < Bk := by omega
      have hgBk : g < Bk := by have := HN3.out.ln (by omega); omega
      obtain ⟨X0, hX0⟩ : ∃ X0, ((wx.alloc (.cells #[slv (some ⟨g1, 0, none⟩) nb nb, slv (some ⟨g2, 0, none⟩) NN NN] 25)).alloc (.cells #[.string s] 9)).drew = X0 := ⟨_, rfl⟩
      have hzX : X0.heap.size = Bk + 3 := by rw [← hX0]; show ((wx.alloc _).alloc _).heap.size = _; simp; omega
      have hbX : Below wx.heap.size wx X0 := by rw [← hX0]; exact (((Below.refl _ wx).alloc (Nat.le_refl _) _).alloc (by simp) _).drew
      have hTX : TabAt X0 (Bk + 1) (Bk + 1 + 1) s (some ⟨g1, 0, none⟩) (some ⟨g2, 0, none⟩) nb NN nb NN g1 0 g2 0 B C := by
        have hB1 := hbx.trans (hbX.mono hbx.size)
        have ht := (Below.heap_alloc (wx.alloc (.cells #[slv (some ⟨g1, 0, none⟩) nb nb, slv (some ⟨g2, 0, none⟩) NN NN] 25)) (.cells #[.string s] 9) wx.heap.size (by simp)).trans (World.alloc_heap_new wx _)
        have hs' := World.alloc_heap_new (wx.alloc (.cells #[slv (some ⟨g1, 0, none⟩) nb nb, slv (some ⟨g2, 0, none⟩) NN NN] 25)) (.cells #[.string s] 9)
        rw [World.size_alloc] at hs'
        rw [hzx] at ht hs'
        have hTA := HTA.out.belowN hB1 HTA.out.lb HTA.out.lc
        refine ⟨?_, ?_, ?_, hTA.e0, hTA.e1, hTA.rb, hTA.rc, hTA.lb, hTA.lc⟩
        · rw [← hX0]
          show ((wx.alloc _).alloc _).cell? _ = _
          simp only [World.cell?, ht]; rfl
        · rw [← hX0]
          show ((wx.alloc _).alloc _).cell? _ = _
          simp only [World.cell?, ht]; rfl
        · rw [← hX0]
          show ((wx.alloc _).alloc _).cell? _ = _
          simp only [World.cell?, hs']; rfl
      have hJ0 : Coll X0 Bk [] X0 := ⟨⟨.slice none 0 0, (hbX.block Bk (by omega)).trans hBx, World.ownsRow_nil _ _ _ _⟩, ⟨rfl, rfl, rfl, Nat.le_refl _, fun _ _ _ => rfl⟩, by omega⟩
      have WC : Calls Try.prog 45 #[.func (.func 21) #[] #[.pointer (some ⟨Bk, 0, none⟩)], .pointer (some ⟨Bk + 1, 0, none⟩), .pointer (some ⟨Bk + 1 + 1, 0, none⟩)] X0 fun e W' => (∃ v, e = .returned v) ∧ Coll X0 Bk L W' := by
        have hlg1 : g1 < X0.heap.size := hTX.lb
        have hlg2 : g2 < X0.heap.size := hTX.lc
        have hg1 : g1 < Bk := by have := HTA.out.lb; omega
        have hg2 : g2 < Bk := by have := HTA.out.lc; omega
        have h := (callsIn_wide (n := 3)).1 (walkc21 3 (by omega) (.pointer (some ⟨Bk, 0, none⟩)) (Bk + 1) (Bk + 1 + 1) s (some ⟨g1, 0, none⟩) (some ⟨g2, 0, none⟩) nb NN nb NN g1 0 g2 0 B C hsz (by omega) (by omega) (Nat.le_refl _) (Nat.le_refl _) HTA.out.hB HTA.out.hC (fun pre W => Coll X0 Bk pre W)
          (fun pre x W hc hl => (clos21 X0 Bk pre x W (by omega) hc).mono (by
            rintro e W' ⟨he, hc'⟩
            refine ⟨he, hc', ?_⟩
            have key : ∀ q, q < X0.heap.size → q ≠ Bk → W'.heap[q]? = W.heap[q]? := fun q h1 h2 => (hc'.2.1.block q h1 (fun e => h2 (by cases e; rfl))).trans (hc.2.1.block q h1 (fun e => h2 (by cases e; rfl))).symm
            exact ⟨key _ (by omega) (by omega), key _ (by omega) (by omega), key _ hlg1 (by omega), key _ hlg2 (by omega)⟩))
          X0 (fun X Y hg h => Coll.grow hg h) hTX hJ0)
        rw [HL.out] at h
        exact h
      have KC : ∀ w4 : World, Coll X0 Bk L w4 → (X0.cell? ⟨T, 0, none⟩ = some (slv (some ⟨g1, 0, none⟩) nb nb) ∧ X0.cell? ⟨T, 1, none⟩ = some (slv (some ⟨g2, 0, none⟩) NN NN) ∧ X0.cell? ⟨g, k, none⟩ = some (.string s)) → (w4.cell? ⟨T, 0, none⟩ = some (slv (some ⟨g1, 0, none⟩) nb nb) ∧ w4.cell? ⟨T, 1, none⟩ = some (slv (some ⟨g2, 0, none⟩) NN NN) ∧ w4.cell? ⟨g, k, none⟩ = some (.string s)) := fun w4 hc h => by
        have key : ∀ q, q < Bk → w4.heap[q]? = X0.heap[q]? := fun q h1 => hc.2.1.block q (by omega) (fun e => by cases e; omega)
        exact ⟨(World.cell?_of_block (a := ⟨T, 0, none⟩) (key T (by omega))).trans h.1, (World.cell?_of_block (a := ⟨T, 1, none⟩) (key T (by omega))).trans h.2.1, (World.cell?_of_block (a := ⟨g, k, none⟩) (key g hgBk)).trans h.2.2⟩
      have hSX : X0.cell? ⟨T, 0, none⟩ = some (slv (some ⟨g1, 0, none⟩) nb nb) ∧ X0.cell? ⟨T, 1, none⟩ = some (slv (some ⟨g2, 0, none⟩) NN NN) ∧ X0.cell? ⟨g, k, none⟩ = some (.string s) := ⟨(hbX.cell (World.block_lt_of_cell? _ _ hS.1)).trans hS.1, (hbX.cell (World.block_lt_of_cell? _ _ hS.2.1)).trans hS.2.1, (hbX.cell (World.block_lt_of_cell? _ _ hS.2.2)).trans hS.2.2⟩
      go_region_held3 (fun X => X.cell? ⟨T, 0, none⟩ = some (slv (some ⟨g1, 0, none⟩) nb nb) ∧ X.cell? ⟨T, 1, none⟩ = some (slv (some ⟨g2, 0, none⟩) NN NN) ∧ X.cell? ⟨g, k, none⟩ = some (.string s))
        (first | assumption | (apply c3_alloc2; assumption) | (apply KC; assumption; assumption))
        (first
          | (go_at_call 15; with_reducible refine (WV _).mono ?_; rintro e w' ⟨rfl, rfl⟩)
          | (go_at_call 45; with_reducible refine WC.mono ?_; rintro e w4 ⟨⟨v, rfl⟩, hc⟩))
      all_goals
        obtain ⟨⟨vw, hbw, hrw⟩, hgw, _⟩ := hc
        have hkL : k ∈ L := by rw [← HPL.out]; exact (prevs_mem hfn _ NN k).2 ⟨by omega, hlt, rfl⟩
        have hL0 : 0 < L.length := List.length_pos_of_mem hkL
        have hLl : L.length ≤ 61 := by rw [← HPL.out]; have := prevs_len hfn (hfn k) NN; omega
        have hLm : ∀ j (hj : j < L.length), L[j] ≠ 0 ∧ L[j] < NN ∧ hfn L[j] = hfn k := fun j hj => (prevs_mem hfn (hfn k) NN L[j]).1 (by rw [HPL.out]; exact List.getElem_mem hj)
        have hLt : topF hfn NN (hfn k) = L[0] := by
          unfold topF
          rw [HPL.out]
          cases L with
          | nil => simp at hL0
          | cons x l => rfl
        have hLn : L.Nodup := by rw [← HPL.out]; exact prevs_nodup _ _ _
        obtain ⟨gw, cw, rfl, hbgw, hlgw⟩ := World.ownsRow.form hrw hL0
        have hcw : L.length ≤ cw := by
          rcases hrw.2 with ⟨he, _⟩ | ⟨g', cap', cur, he, _, _, h2, _⟩
          · cases he
          · cases he; exact h2
        have hcell : ∀ j (hj : j < L.length), w4.cell? ⟨gw, j, none⟩ = some (.int .i64 (L[j] : Int)) := fun j hj => by
          rw [hrw.cellAt j (by omega)]
          simp [syC, hj]
        have key : ∀ q, q < Bk → w4.heap[q]? = wr.heap[q]? := fun q h1 => (hgw.block q (by omega) (fun e => by cases e; omega)).trans ((hbX.block q (by omega)).trans (hbx.block q (by omega)))
        have hz4 : Bk + 3 ≤ w4.heap.size := by have := hgw.size; omega
        have HRC4 : Hid (RowC w4 (T + 1) NN (cntF hfn k)) := HRC.out.same (key _ (by omega))
        have HMP4 : Hid (w4.ownsMap (H := Unit) Try.prog 51 (plainElem Try.prog 3) (T + 1 + 1) k D) := ownsMap_blk HMP.out (key _ (by omega))
        have hTb4 : w4.heap[T]? = some (.cells #[slv (some ⟨g1, 0, none⟩) nb nb, slv (some ⟨g2, 0, none⟩) NN NN] 25 (0, 0)) := (key T (by omega)).trans hTb
        have hb4 : Below w3.heap.size w3 w4 := ⟨hgw.os.trans (hbX.os.trans (hbx.os.trans hbr.os)), hgw.tape.trans (hbX.tape.trans (hbx.tape.trans hbr.tape)), hgw.output.trans (hbX.output.trans (hbx.output.trans hbr.output)), by omega, fun q hq => (key q (by omega)).trans (hbr.block q hq)⟩
        have cB4 := hbw.cell
        obtain ⟨x0, hx0⟩ : ∃ x0, L[0] = x0 := ⟨_, rfl⟩
        have hx0N : x0 < NN := by rw [← hx0]; exact (hLm 0 hL0).2.1
        have c00 := hcell 0 hL0
        rw [hx0] at c00 hLt
        have hseen := seen_at hfn NN k k (by omega) hlt
        rw [hLt] at hseen
        have hMx := HMV.out x0 (by omega)
        rw [hseen] at hMx
        have eu : IntKind.u32.wrap (x0 : Int) = (x0 : Int) := by rw [IntKind.wrap_u32]; omega
        have hkey : keyOf Try.prog 51 (.int .u32 (x0 : Int)) = some (.int .u32 (x0 : Int)) := keyOf_int_mk Try.underlying51 (wf_u32' _ (by omega))
        have HCELL : Hid (∀ j (hj : j < L.length), w4.cell? ⟨gw, j, none⟩ = some (.int .i64 (L[j] : Int))) := hcell
        have hgwT : Bk + 3 ≤ gw := by rw [← hzX]; exact hbgw
        obtain ⟨lw, hlw⟩ : ∃ lw, L.length = lw := ⟨_, rfl⟩
        have HLW : Hid (L.length = lw) := hlw
        rw [hlw] at hL0 hLl hcw cB4
        have hlwi : ¬ ((lw : Int) = 0) := by omega
        have hlwi0 : (0 : Int) < (lw : Int) := by omega
        have hlw0 : ¬ lw = 0 := by omega
        have HLM : Hid (∀ j (hj : j < L.length), L[j] ≠ 0 ∧ L[j] < NN ∧ hfn L[j] = hfn k) := hLm
        have HLN : Hid L.Nodup := hLn
        have HLT : Hid (topF hfn NN (hfn k) = x0) := hLt
        have HGW : Hid (w4.ownsRow X0.heap.size 3 1 (.slice (some ⟨gw, 0, none⟩) L.length cw) L.length (syC L)) := hrw
        have HBW : Hid (Boxed w4 Bk 38 (.slice (some ⟨gw, 0, none⟩) L.length cw)) := hbw
        have HB4 : Hid (Below w3.heap.size w3 w4) := hb4
        have HT4 : Hid (w4.heap[T]? = some (.cells #[slv (some ⟨g1, 0, none⟩) nb nb, slv (some ⟨g2, 0, none⟩) NN NN] 25 (0, 0))) := hTb4
        have HSN : Hid (seenF hfn NN k x0 = if doneB hfn k (hfn k) = true then 1 else 0) := hseen
        have HTR : Hid (Tab wr (some ⟨g1, 0, none⟩) (some ⟨g2, 0, none⟩) nb NN nb NN g1 0 g2 0 B C) := HTA.out
        clear hX0 hlw hLt hx0 hcell hLm hLn hrw hbw hb4 hTb4 hseen key hgw hbgw KC WC hS hSX hTX hJ0 hbX hbx hBx hwx hzX hbr hTb cT0 cT1 cK HTR WV hkL
        by_cases hdn : doneB hfn k (hfn k) = true
        · rw [if_pos hdn] at hMx
          go_wp2_with (first
            | (at_lookup; refine wpList_lookup_own_int _ rfl _ _ 50 rfl 51 3 .i64 (int_keyed Try.underlying51) Try.underlying50 Try.underlying3 (zero3 _) (T + 1 + 1) k _ rfl HMP4.out _ _ rfl hkey ?_; intro c hat hwc; obtain rfl : c = 1 := lit_i64 (hat.symm.trans hMx)))
          refine ⟨⟨k + 1, D, ⟨by omega, by omega⟩, by go_num, HT4.out, HRC4.out.congr (fun j hj => (cnt_same hfn k j hdn).symm), HMP4.out.mono (by omega), (fun x hx => by rw [seen_same hfn NN k x hdn]; exact HMV.out x hx), HB4.out, by omega⟩, by simp [intOf]; omega⟩
        · rw [if_neg hdn] at hMx
          have HM0 : Hid (D.atKey (.int .u32 (x0 : Int)) (.lit (.int .i64 0)) = .lit (.int .i64 ((0 : Nat) : Int))) := hMx
          have k61 : k < maxLen := by unfold maxLen; omega
          go_wp2_with (first
            | (at_lookup; refine wpList_lookup_own_int _ rfl _ _ 50 rfl 51 3 .i64 (int_keyed Try.underlying51) Try.underlying50 Try.underlying3 (zero3 _) (T + 1 + 1) k _ rfl HMP4.out _ _ rfl hkey ?_; intro c hat hwc; obtain rfl : c = 0 := lit_i64 (hat.symm.trans hMx))
            | (at_mapUpdate; refine wpList_mapUpdate_own _ rfl _ _ _ 50 rfl 51 3 (int_keyed Try.underlying51) Try.underlying50 _ (T + 1 + 1) k _ rfl HMP4.out k61 _ _ _ rfl rfl hkey _ [] (plainElem_int Try.underlying3 (by decide)) ?_; intro w5 hown5 hgrow5))
          have key5 : ∀ q, q < w4.heap.size → q ≠ T + 1 + 1 → w5.heap[q]? = w4.heap[q]? := fun q h1 h2 => hgrow5.block q h1 (fun e => h2 (by cases e; rfl))
          have hz5' : w4.heap.size ≤ w5.heap.size := hgrow5.size
          have hlg : gw < w4.heap.size := World.block_lt_of_cell? _ _ (HCELL.out 0 (by have := HLW.out; omega))
          have HRC5 : Hid (RowC w5 (T + 1) NN (cntF hfn k)) := HRC4.out.same (key5 _ (by omega) (by omega))
          have HT5 : Hid (w5.heap[T]? = some (.cells #[slv (some ⟨g1, 0, none⟩) nb nb, slv (some ⟨g2, 0, none⟩) NN NN] 25 (0, 0))) := (key5 T (by omega) (by omega)).trans HT4.out
          have HB5 : Hid (Below w3.heap.size w3 w5) := ⟨hgrow5.os.trans HB4.out.os, hgrow5.tape.trans HB4.out.tape, hgrow5.output.trans HB4.out.output, by have := HB4.out.size; omega, fun q hq => (key5 q (by have := HB4.out.size; omega) (by omega)).trans (HB4.out.block q hq)⟩
          have HC5 : Hid (∀ j (hj : j < L.length), w5.cell? ⟨gw, j, none⟩ = some (.int .i64 (L[j] : Int))) := fun j hj => (World.cell?_of_block (a := ⟨gw, j, none⟩) (key5 gw hlg (by omega))).trans (HCELL.out j hj)
          have HBx5 : Hid (w5.heap[Bk]? = some (.cells #[.slice (some ⟨gw, 0, none⟩) L.length cw] 38 (0, 0))) := (key5 Bk (by omega) (by omega)).trans HBW.out
          have HM5 : Hid (w5.ownsMap (H := Unit) Try.prog 51 (plainElem Try.prog 3) (T + 1 + 1) (k + 1) (D.put (.int .u32 (x0 : Int)) (.lit (.int .i64 1)))) := hown5
          have hMV5 : MapV (D.put (.int .u32 (x0 : Int)) (.lit (.int .i64 1))) (seenF hfn NN (k + 1)) := by
            intro x hx
            rw [seen_new hfn NN k x (by omega) hlt, HLT.out]
            by_cases e : x = x0
            · subst e
              rw [if_pos rfl]
              exact atKey_put_same (HMP4.out.isMap) (k := .int .u32 (x : Int)) (by trivial) _ _
            · rw [if_neg e]
              rw [atKey_put_other (fun h => e (by injection h with _ h; omega))]
              exact HMV.out x hx
          have HMV5 : Hid (MapV (D.put (.int .u32 (x0 : Int)) (.lit (.int .i64 1))) (seenF hfn NN (k + 1))) := hMV5
          have hz55 : Bk + 3 ≤ w5.heap.size := by omega
          clear key5 hz5' hlg hgrow5 hown5 hMV5 HMP4 HRC4 HT4 HB4 HCELL HBW HGW HMV HM0 hMx c00 cB4 hkey
          go_loopw [13] (fun jv w6 => ∃ t : Nat, t ≤ lw ∧ jv = .int .i64 (t : Int) ∧ Hid (RowC w6 (T + 1) NN (fun j => cntF hfn k j + if j ∈ L.take t then 1 else 0)) ∧ Hid (w5.grownBy w6 (some (T + 1)))) (fun jv _ => lw - (intOf jv).toNat)
          case atStart => exact ⟨0, Nat.zero_le _, rfl, HRC5.out.congr (fun j hj => by simp), ⟨rfl, rfl, rfl, Nat.le_refl _, fun _ _ _ => rfl⟩⟩
          case round =>
            obtain ⟨t, ht, rfl, HRT, HG6⟩ := hrel
            have hz6 := HG6.out.size
            have key6 : ∀ q, q < w5.heap.size → q ≠ T + 1 → wr.heap[q]? = w5.heap[q]? := fun q h1 h2 => HG6.out.block q h1 (fun e => h2 (by cases e; rfl))
            have cB6 : wr.cell? ⟨Bk, 0, none⟩ = some (.slice (some ⟨gw, 0, none⟩) lw cw) := by
              have : wr.heap[Bk]? = some (.cells #[.slice (some ⟨gw, 0, none⟩) L.length cw] 38 (0, 0)) := (key6 Bk (by omega) (by omega)).trans HBx5.out
              rw [← HLW.out]
              simp [World.cell?, this]
            by_cases htl : t < lw
            · have hti : (t : Int) < (lw : Int) := by omega
              have hti0 : (0 : Int) ≤ (t : Int) := by omega
              have htL : t < L.length := by have := HLW.out; omega
              obtain ⟨hx1, hx2, hx3⟩ := HLM.out t htL
              have c5 := HC5.out t htL
              have hlg5 := World.block_lt_of_cell? _ _ c5
              have c6 : wr.cell? ⟨gw, t, none⟩ = some (.int .i64 (L[t] : Int)) := (World.cell?_of_block (a := ⟨gw, t, none⟩) (key6 gw hlg5 (by omega))).trans c5
              have hnt : L[t] ∉ L.take t := take_not HLN.out t htL
              have hc0 : cntF hfn k L[t] = 0 := by
                unfold cntF
                rw [hx3, if_neg (fun h => hdn h.2)]
              have cc := HRT.out.cell L[t] hx2
              rw [hc0, if_neg hnt] at cc
              have ff := HRT.out.fz L[t]
              have ll := HRT.out.lt
              have HNX : Hid (∀ W : World, RowC W (T + 1) NN (upd (fun j => cntF hfn k j + if j ∈ L.take t then 1 else 0) L[t] 1) → RowC W (T + 1) NN (fun j => cntF hfn k j + if j ∈ L.take (t + 1) then 1 else 0)) := by
                intro W hW
                refine hW.congr fun j hj => ?_
                unfold upd
                have hm := take_mem HLN.out t j htL
                by_cases e : j = L[t]
                · rw [if_pos e, if_pos (hm.2 (.inl e)), e, hc0]
                · rw [if_neg e]
                  show cntF hfn k j + (if j ∈ L.take t then 1 else 0) = _
                  by_cases d : j ∈ L.take t
                  · rw [if_pos d, if_pos (hm.2 (.inr d))]
                  · rw [if_neg d, if_neg (fun h => (hm.1 h).elim e d)]
              obtain ⟨xt, hxt⟩ : ∃ xt, L[t] = xt := ⟨_, rfl⟩
              rw [hxt] at hx2 c6 cc ff HNX
              have hxi0 : (0 : Int) ≤ (xt : Int) := by omega
              have hxiN : (xt : Int) < (NN : Int) := by omega
              have KEY6 : Hid (∀ q, q < w5.heap.size → q ≠ T + 1 → wr.heap[q]? = w5.heap[q]?) := key6
              clear hxt hc0 hnt hx1 hx3 c5 hlg5 htL key6
              go_wp2
              refine ⟨⟨t + 1, by omega, by go_num, HNX.out _ (HRT.out.set xt 1 hx2), HG6.out.os, HG6.out.tape, HG6.out.output, by simpa using hz6, fun q h1 h2 => (Below.heap_setCell _ _ _ _ (fun e => h2 (by rw [e]))).trans (HG6.out.block q h1 h2)⟩, by simp [intOf]; omega⟩
            · obtain rfl : t = lw := by omega
              have hti : ¬ (t : Int) < (t : Int) := by omega
              have hRCN : RowC wr (T + 1) NN (cntF hfn (k + 1)) := HRT.out.congr fun j hj => by
                rw [List.take_of_length_le (by have := HLW.out; omega), cnt_new hfn NN k j (by omega) hj (by simpa using hdn), HPL.out]
              have hBN : Below w3.heap.size w3 wr := ⟨HG6.out.os.trans HB5.out.os, HG6.out.tape.trans HB5.out.tape, HG6.out.output.trans HB5.out.output, Nat.le_trans HB5.out.size hz6, fun q hq => (key6 q (by have := HB5.out.size; omega) (by omega)).trans (HB5.out.block q hq)⟩
              have hTN := (key6 T (by omega) (by omega)).trans HT5.out
              have hMN := ownsMap_blk HM5.out (key6 (T + 1 + 1) (by omega) (by omega))
              have HEND : Hid (RowC wr (T + 1) NN (cntF hfn (k + 1)) ∧ Below w3.heap.size w3 wr ∧ wr.heap[T]? = some (.cells #[slv (some ⟨g1, 0, none⟩) nb nb, slv (some ⟨g2, 0, none⟩) NN NN] 25 (0, 0)) ∧ wr.ownsMap (H := Unit) Try.prog 51 (plainElem Try.prog 3) (T + 1 + 1) (k + 1) (D.put (.int .u32 (x0 : Int)) (.lit (.int .i64 1)))) := ⟨hRCN, hBN, hTN, hMN⟩
              clear hRCN hBN hTN hMN key6
              go_wp2
              refine ⟨⟨k + 1, _, ⟨by omega, by omega⟩, by go_num, HEND.out.2.2.1, HEND.out.1, HEND.out.2.2.2, HMV5.out, HEND.out.2.1, by omega⟩, by simp [intOf]; omega⟩
    · obtain rfl : k = NN := by omega
      have HBR : Hid (Below w3.heap.size w3 wr) := hbr
      have cC := fun j (hj : j < k) => HRC.out.cell j hj
      clear hbr hTb HMP HMV
      go_wp2
      go_loopw [14] (fun jv w6 => ∃ t : Nat, (1 ≤ t ∧ t ≤ k) ∧ jv = .int .i64 (t : Int) ∧ w6 = wr) (fun jv _ => k - (intOf jv).toNat)
      case atStart => exact ⟨1, ⟨by omega, by omega⟩, rfl, by trivial⟩
      case round =>
        obtain ⟨t, ⟨ht1, ht⟩, rfl, rfl⟩ := hrel
        by_cases htl : t < k
        · have hti : (t : Int) < (k : Int) := by omega
          have hti0 : (0 : Int) ≤ (t : Int) := by omega
          have c := cC t htl
          rw [cnt_all hfn k t (by omega) htl] at c
          clear cC
          go_wp2
          refine ⟨⟨t + 1, ⟨by omega, by omega⟩, by go_num, by trivial⟩, by simp [intOf]; omega⟩
        · have hti : ¬ (t : Int) < (k : Int) := by omega
          clear cC
          go_wp2
          go_ret
          exact ⟨rfl, bt HB3.out HBR.out⟩
end Go.Proofs.Ytffmkkfacemchaa
