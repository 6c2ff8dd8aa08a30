/-
  Layer 13: two rows held against one another; the document's walk.
-/
import Derived.Test.YtffmkkfacemchaaS4
namespace Go.Proofs.Ytffmkkfacemchaa
open Go.RowKit Go.Sort
set_option linter.unusedVariables false

set_option maxHeartbeats 2000000 in
theorem same_any (a a' : Option Addr) (n c c' b o b' o' : Nat) (f g : Nat → Nat) (w : World) (ha : 0 < n → a = some ⟨b, o, none⟩) (ha' : 0 < n → a' = some ⟨b', o', none⟩) (hr : RowU w b o n f) (hr' : RowU w b' o' n g) (he : ∀ j, j < n → f j = g j) (hn : n ≤ 9223372036854775807) (hc : n ≤ c) (hc' : n ≤ c') :
    Calls Try.prog 12 #[.slice a n c, .slice a' n c'] w fun e w' => e = .returned (.bool true) ∧ ∃ q, w' = w.drewN q := by
  have HR : Hid (RowU w b o n f) := hr
  have HR' : Hid (RowU w b' o' n g) := hr'
  have HE : Hid (∀ j, j < n → f j = g j) := he
  have HA : Hid (0 < n → a = some ⟨b, o, none⟩) := ha
  have HA' : Hid (0 < n → a' = some ⟨b', o', none⟩) := ha'
  clear hr hr' he ha ha'
  go_enter Try.func12, Try.ntmps12
  go_wp2
  go_loopw [5] (fun i wr => ∃ k : Nat, k ≤ n ∧ i = .int .i64 k ∧ ∃ q, wr = w.drewN q) (fun i _ => n - (intOf i).toNat)
  case atStart => exact ⟨0, Nat.zero_le _, rfl, 0, rfl⟩
  case round =>
    obtain ⟨k, hk, rfl, q, rfl⟩ := hrel
    by_cases hlt : k < n
    · have hki : (k : Int) < (n : Int) := by omega
      have hk0 : (0 : Int) ≤ (k : Int) := by omega
      have e1 : a = some ⟨b, o, none⟩ := HA.out (by omega)
      have e2 : a' = some ⟨b', o', none⟩ := HA'.out (by omega)
      subst e1
      subst e2
      have x1 := HR.out k hlt
      have x2 := HR'.out k hlt
      have x3 := HE.out k hlt
      rw [← x3] at x2
      generalize f k = v at x1 x2
      clear x3
      go_wp2
      go_quiet (fail)
      go_wp2
      exact ⟨⟨k + 1, by omega, by go_num, q + nq, rfl⟩, by simp [intOf]; omega⟩
    · have hki : ¬ (k : Int) < (n : Int) := by omega
      go_wp2
      go_ret
      exact ⟨rfl, q, rfl⟩

theorem Try.info3 : (Try.prog.info? 3).map (fun i => (i.zero, i.size, i.bytes)) = some (some (.int .i64 0), 1, 8) := by kernel_rfl
/-- Symbols as cells. -/
def syC (l : List Nat) : List Value := l.map fun (x : Nat) => Value.int .i64 (x : Int)
def sliceLen : Value → Nat
  | .slice _ n _ => n
  | _ => 0
theorem syC_snoc (l : List Nat) (x : Nat) : syC (l ++ [x]) = syC l ++ [.int .i64 (x : Int)] := by simp [syC]
theorem one_n (W : World) (x : Int) : ∀ j u, [Value.int .i64 x][j]? = some u → (W.alloc (.cells #[.int .i64 x] 3)).cell? ((⟨W.heap.size, 0, none⟩ : Addr).add j) = some u := fun j u hu => by
  match j, hu with
  | 0, hu => simp at hu; subst hu; simp [go_sem]
  | j + 1, hu => simp at hu
theorem one_c (x : Int) : ∀ u ∈ [Value.int .i64 x], u.oneCell' = true := by
  intro u hu
  simp at hu
  subst hu
  rfl

set_option maxRecDepth 100000 in
set_option maxHeartbeats 4000000 in
theorem refwalk_some (a0 a1 : Option Addr) (n0 n1 c0 c1 b o b' o' : Nat) (B C : Nat → Nat) (s : ByteArray) (w : World) (hT : Tab w a0 a1 n0 n1 c0 c1 b o b' o' B C) (hm : s.size ≤ 9223372036854775807) (hz : 0 < n0) (h1 : n1 ≤ 60) :
    Calls Try.prog 14 #[.slice a0 n0 c0, .slice a1 n1 c1, .string s] w fun e w' => (∃ v, e = .returned v ∧ w'.ownsRow w.heap.size 3 1 v (walkN B C n0 n1 s).length (syC (walkN B C n0 n1 s))) ∧ Below w.heap.size w w' := by
  have HQ : ∀ W, Calls Try.prog 44 #[.string s] W fun e w' => e = .returned (.int .u32 (hs s : Int)) ∧ w' = W := fun W => refhash_any s W hm
  have hn0 := hT.hn0
  have hn1 := hT.hn1
  have hc0 := hT.hc0
  have hc1 := hT.hc1
  have eA : a0 = some ⟨b, o, none⟩ := hT.e0 hz
  subst eA
  have HT : Hid (Tab w (some ⟨b, o, none⟩) a1 n0 n1 c0 c1 b o b' o' B C) := hT
  have hl := hs_lt s
  obtain ⟨r, hr⟩ : ∃ r, hs s % n0 = r := ⟨_, rfl⟩
  have hrl : r < n0 := by rw [← hr]; exact Nat.mod_lt _ hz
  obtain ⟨h, hh⟩ : ∃ h, hs s = h := ⟨_, rfl⟩
  rw [hh] at hl hr HQ
  have hzi : ¬ (n0 : Int) = 0 := by omega
  have e1 : IntKind.i64.wrap (h : Int) = (h : Int) := wrapi64 _ (by omega) (by omega)
  have e2 : ((h : Int)).tmod (n0 : Int) = (r : Int) := by rw [Int.tmod_eq_emod_of_nonneg (by omega), ← hr]; push_cast; rfl
  have e3 : ((h : Int)) % (n0 : Int) = (r : Int) := by rw [← hr]; push_cast; rfl
  have hri : (r : Int) < (n0 : Int) := by omega
  have hri0 : (0 : Int) ≤ (r : Int) := by omega
  have rb := hT.rb r hrl
  have hBr := hT.hB r hrl
  obtain ⟨L, hL⟩ : ∃ L, L = walkN B C n0 n1 s := ⟨_, rfl⟩
  have HL : Hid (L = walkL C n1 n1 (B r)) := by
    show _ = _
    rw [hL, ← hr, ← hh]
    unfold walkN
    rw [if_neg (by omega)]
  rw [← hL]
  clear hL hT
  generalize B r = sy0 at rb hBr HL
  have e4 : IntKind.i64.wrap (sy0 : Int) = (sy0 : Int) := wrapi64 _ (by omega) (by omega)
  have hr3 : IntKind.i64.wrap (r : Int) = (r : Int) := wrapi64 _ (by omega) (by omega)
  obtain ⟨i0, hi0, hz0, hz1, hz2⟩ := info_parts Try.info3
  clear hr hh
  go_enter Try.func14, Try.ntmps14
  go_wp2_with (go_at_call 44; refine (HQ _).mono ?_; rintro e w' ⟨rfl, rfl⟩)
  clear rb
  go_loopw [7, 8] (fun v i wr => ∃ (k sy : Nat) (pre : List Nat) (a : Option Addr) (c : Nat), k ≤ n1 ∧ i = .int .i64 (sy : Int) ∧ v = .slice a k c ∧ sy < 4294967296 ∧ Hid (L = pre ++ walkL C n1 (n1 - k) sy) ∧ Hid (pre.length = k) ∧ Hid (wr.ownsRow w'.heap.size 3 1 v k (syC pre)) ∧ Hid (Below w'.heap.size w' wr)) (fun v _ _ => n1 - sliceLen v)
  case atStart => exact ⟨0, sy0, [], none, 0, Nat.zero_le _, rfl, rfl, hBr, HL.out, rfl, World.ownsRow_nil _ _ _ _, Below.refl _ _⟩
  case round =>
    obtain ⟨k, sy, pre, va, vc, hk, rfl, rfl, hsy, HP, HLen, HR, HB⟩ := hrel
    by_cases hlt : k < n1
    · have hki : (k : Int) < (n1 : Int) := by omega
      by_cases he : sy = 0 ∨ n1 ≤ sy
      · have HT2 : Hid (L = pre) := by
          show _ = _
          rw [HP.out, walkL_end C n1 _ sy he, List.append_nil]
        by_cases h00 : sy = 0
        · have h0i : ¬ (0 : Int) < (sy : Int) := by omega
          clear he h00
          go_wp2
          go_ret
          exact ⟨⟨_, rfl, by rw [HT2.out, HLen.out]; exact HR.out⟩, HB.out⟩
        · have h0i : (0 : Int) < (sy : Int) := by omega
          have hni : ¬ (sy : Int) < (n1 : Int) := by omega
          clear he
          go_wp2
          go_ret
          exact ⟨⟨_, rfl, by rw [HT2.out, HLen.out]; exact HR.out⟩, HB.out⟩
      · have h0i : (0 : Int) < (sy : Int) := by omega
        have hsl : sy < n1 := by omega
        have hsi : (sy : Int) < (n1 : Int) := by omega
        have hs0 : (0 : Int) ≤ (sy : Int) := by omega
        have eA1 : a1 = some ⟨b', o', none⟩ := HT.out.e1 (by omega)
        subst eA1
        have hlc := HT.out.lc
        have HC1 : Hid (C sy < 4294967296) := HT.out.hC sy hsl
        have xc : wr.cell? ⟨b', o' + sy, none⟩ = some (.int .u32 (C sy)) := (HB.out.cell (p := ⟨b', o' + sy, none⟩) hlc).trans (HT.out.rc sy hsl)
        have HT2 : Hid (L = (pre ++ [sy]) ++ walkL C n1 (n1 - (k + 1)) (C sy)) := by
          show _ = _
          have hNK : n1 - k = (n1 - (k + 1)) + 1 := by omega
          rw [HP.out, hNK, walkL_go C n1 _ sy he, List.append_assoc]
          rfl
        generalize C sy = sn at xc HC1 HT2
        have e5 : IntKind.i64.wrap (sn : Int) = (sn : Int) := wrapi64 _ (by omega) (by have := HC1.out; omega)
        have m1 : k + 1 ≤ maxLen := by unfold maxLen; omega
        have m2 : (k + 1) * 8 ≤ 140737488355328 := by omega
        have m3 : ∀ o : Obj, w'.heap.size ≤ (wr.alloc o).heap.size := fun o => by rw [World.size_alloc]; have := HB.out.size; omega
        have CF : ∀ (o : Obj) (w2 : World), (wr.alloc o).grownBy w2 (Value.slice va k vc).ownBlock → w2.cell? ⟨b', o' + sy, none⟩ = some (.int .u32 (sn : Int)) := fun o w2 hg => by
          have h1 := World.block_lt_of_cell? _ _ xc
          have h2 : (wr.alloc o).cell? ⟨b', o' + sy, none⟩ = some (.int .u32 (sn : Int)) := (((Below.refl _ wr).alloc (Nat.le_refl _) o).cell h1).trans xc
          refine (World.cell?_of_block (a := ⟨b', o' + sy, none⟩) (hg.block b' (by rw [World.size_alloc]; show b' < _; exact Nat.lt_succ_of_lt h1) (fun e => ?_))).trans h2
          rcases HR.out.2 with ⟨h3, _⟩ | ⟨g, cap, cur, h3, hb, _⟩
          · rw [h3] at e; cases e
          · rw [h3] at e
            obtain rfl : b' = g := by simpa [Value.ownBlock] using e
            omega
        have WF : ∀ (o : Obj) (w2 : World), (wr.alloc o).grownBy w2 (Value.slice va k vc).ownBlock → Hid (Below w'.heap.size w' w2) := fun o w2 hg => by
          refine (HB.out.alloc HB.out.size o).grown hg (m3 _) (fun q hq => ?_)
          rcases HR.out.2 with ⟨h3, _⟩ | ⟨g, cap, cur, h3, hb, _⟩
          · rw [h3] at hq; cases hq
          · rw [h3] at hq
            obtain rfl : g = q := by simpa [Value.ownBlock] using hq
            exact hb
        have HXC : Hid (wr.cell? ⟨b', o' + sy, none⟩ = some (.int .u32 (sn : Int))) := xc
        clear he xc
        go_wp2_with (at_builtin; refine wpList_append_own _ rfl _ _ 38 rfl w'.heap.size 3 i0 (.int .i64 0) 1 8 Try.underlying38 hi0 hz0 hz1 hz2 rfl (by decide) _ _ _ rfl (HR.out.alloc _) ⟨wr.heap.size, 0, none⟩ 1 1 [.int .i64 (sy : Int)] rfl rfl (one_n wr sy) (one_c sy) m1 m2 (m3 _) ?_; intro v' w2 hown' hgrow _; have xc2 := CF _ _ hgrow; have HW := WF _ _ hgrow)
        obtain ⟨vg, vcap, rfl⟩ := ownsRow_succ hown'
        refine ⟨⟨k + 1, sn, pre ++ [sy], _, _, by omega, rfl, rfl, HC1.out, HT2, (by show _ = _; rw [List.length_append, HLen.out]; rfl), ?_, HW⟩, by simp [sliceLen]; omega⟩
        show World.ownsRow _ _ _ _ _ _ _
        rw [syC_snoc]
        exact hown'
    · have hki : ¬ (k : Int) < (n1 : Int) := by omega
      have HT2 : Hid (L = pre) := by
        show _ = _
        have h0 : n1 - k = 0 := by omega
        rw [HP.out, h0]
        simp [walkL]
      go_wp2
      go_ret
      exact ⟨⟨_, rfl, by rw [HT2.out, HLen.out]; exact HR.out⟩, HB.out⟩
end Go.Proofs.Ytffmkkfacemchaa
