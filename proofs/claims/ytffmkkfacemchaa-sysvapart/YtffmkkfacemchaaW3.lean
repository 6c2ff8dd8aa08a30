/-
  Layer 13: the walk of a name, handed a closure that goes on each time. No condition.
-/
import Derived.Test.YtffmkkfacemchaaW2
namespace Go.Proofs.Ytffmkkfacemchaa
open Go.RowKit Go.Shelf Go.Sort
attribute [local go_sem] Oper.semAt_some
set_option linter.unusedVariables false

set_option maxRecDepth 100000 in
set_option maxHeartbeats 4000000 in
theorem walkc16 (n : Nat) (hn : 1 ≤ n) (va vb vc : Value) (T S : Nat) (s : ByteArray) (a0 a1 : Option Addr) (n0 n1 c0 c1 b o b' o' : Nat) (B C : Nat → Nat) (hm : s.size ≤ 9223372036854775807) (hn0 : n0 ≤ 9223372036854775807) (hn1 : n1 ≤ 9223372036854775807) (hc0 : n0 ≤ c0) (hc1 : n1 ≤ c1)
    (hB : ∀ j, j < n0 → B j < 4294967296) (hC : ∀ j, j < n1 → C j < 4294967296) (J : List Nat → World → Prop)
    (hY : ∀ pre (x : Nat) W, J pre W → pre.length < n1 → Calls Try.prog 16 #[.int .i64 (x : Int), va, vb, vc] W fun e W' => e = .returned (.bool true) ∧ J (pre ++ [x]) W' ∧ K4 T S b b' W W')
    (W : World) (hJ : ∀ X Y : World, X.grownBy Y none → J [] X → J [] Y) (hT : TabAt W T S s a0 a1 n0 n1 c0 c1 b o b' o' B C) (h0 : J [] W) :
    CallsIn Fence.wide n Try.prog 45 #[.func (.func 16) #[] #[va, vb, vc], .pointer (some ⟨T, 0, none⟩), .pointer (some ⟨S, 0, none⟩)] W fun e W' => (∃ v, e = .returned v) ∧ J (walkN B C n0 n1 s) W' := by
  have HT : Hid (TabAt W T S s a0 a1 n0 n1 c0 c1 b o b' o' B C) := hT
  have t0 := hT.t0
  have t1 := hT.t1
  have sn := hT.sn
  clear hT
  refine callsIn_of_wp Try.func45 rfl trivial ?_ rfl
  simp only [Try.ntmps45, List.size_toArray, List.length_cons, List.length_nil, Nat.reduceAdd, Nat.reduceSub, Array.replicate_succ, Array.replicate_zero, List.push_toArray, List.append_toArray, List.nil_append, List.cons_append]
  by_cases hz : n0 = 0
  · subst hz
    gi_wp2
    refine bodyPost_ret (results_none rfl _ _ _) rfl ?_
    exact ⟨⟨_, rfl⟩, h0⟩
  · have hzi : ¬ (n0 : Int) = 0 := by omega
    have eA : a0 = some ⟨b, o, none⟩ := HT.out.e0 (by omega)
    subst eA
    obtain ⟨r, hr⟩ : ∃ r, hs s % n0 = r := ⟨_, rfl⟩
    have hrl : r < n0 := by rw [← hr]; exact Nat.mod_lt _ (by omega)
    have lT := World.block_lt_of_cell? _ _ t0
    have lS := World.block_lt_of_cell? _ _ sn
    have rb := HT.out.rb r hrl
    have lb := World.block_lt_of_cell? _ _ rb
    have T0 : ∀ m os, (grow (W.drewN m) os).cell? ⟨T, 0, none⟩ = some (slv (some ⟨b, o, none⟩) n0 c0) := cell_grown lT t0
    have T1 : ∀ m os, (grow (W.drewN m) os).cell? ⟨T, 1, none⟩ = some (slv a1 n1 c1) := cell_grown lT t1
    have SN : ∀ m os, (grow (W.drewN m) os).cell? ⟨S, 0, none⟩ = some (.string s) := cell_grown lS sn
    have RB : ∀ m os, (grow (W.drewN m) os).cell? ⟨b, o + r, none⟩ = some (.int .u32 (B r)) := cell_grown lb rb
    have BK : ∀ m os, Calls Try.prog 46 #[.agg #[slv (some ⟨b, o, none⟩) n0 c0, slv a1 n1 c1], .string s] (grow (W.drewN m) os) fun e w' => e = .returned (.int .u64 (r : Int)) ∧ ∃ q os', w' = grow ((grow (W.drewN m) os).drewN q) os' := fun m os => (bucket_any (some ⟨b, o, none⟩) n0 c0 (slv a1 n1 c1) s _ hm (by omega) hn0).mono (by
      rintro e w' ⟨rfl, q, rfl⟩
      exact ⟨by rw [hr], q, _, grow_of_alloc _ _ _⟩)
    have hri : (r : Int) < (n0 : Int) := by omega
    have hri0 : (0 : Int) ≤ (r : Int) := by omega
    have f46 : Fence.wide.fn 46 := trivial
    have f16 : Fence.wide.fn 16 := trivial
    obtain ⟨L, hL⟩ : ∃ L, L = walkN B C n0 n1 s := ⟨_, rfl⟩
    have HL : Hid (L = walkL C n1 n1 (B r)) := by
      show _ = _
      rw [hL, ← hr]
      unfold walkN
      rw [if_neg hz]
    have hBr : B r < 4294967296 := hB r hrl
    rw [← hL]
    clear rb hL
    gi_wp2
    refine round_grown (by kernel_rfl) (by kernel_rfl) (by kernel_rfl) ?_
    repeat (gi_big_quiet_step (first | (gi_at_call 46; exact CallsIn.grown_of (callsIn_wide.2 (BK _ _)))))
    refine wpQuietIn_nil ?_
    intro _ hw'
    obtain ⟨⟨nq, osq⟩, hw''⟩ := hw'
    subst hw''
    gi_wp2
    have hgb := grownBy_grow W nq osq
    have hJ0 : J [] (grow (W.drewN nq) osq) := hJ W _ hgb h0
    have hK0 : K4 T S b b' W (grow (W.drewN nq) osq) := ⟨hgb.block _ lT (by simp), hgb.block _ lS (by simp), hgb.block _ lb (by simp), hgb.block _ HT.out.lc (by simp)⟩
    clear T0 T1 SN RB BK hgb
    generalize grow (W.drewN nq) osq = W0 at hJ0 hK0 ⊢
    generalize B r = sy0 at HL hBr ⊢
    gi_loopw [4, 19] (fun a i wr => ∃ (k sy : Nat) (pre : List Nat), k ≤ n1 ∧ i = .int .i64 k ∧ a = .int .u32 sy ∧ sy < 4294967296 ∧ Hid (L = pre ++ walkL C n1 (n1 - k) sy) ∧ Hid (pre.length = k) ∧ J pre wr ∧ K4 T S b b' W wr)
      (fun _ i _ => n1 - (intOf i).toNat)
    case atStart => exact ⟨0, sy0, [], Nat.zero_le _, rfl, rfl, hBr, HL.out, rfl, hJ0, hK0⟩
    case round =>
      obtain ⟨k, sy, pre, hk, rfl, rfl, hsy, HP, HLen, hJs, hnx⟩ := hrel
      have TT : Hid (TabAt wr T S s (some ⟨b, o, none⟩) a1 n0 n1 c0 c1 b o b' o' B C) := HT.out.same hnx
      have u1 := TT.out.t1
      by_cases hlt : k < n1
      · have hki : (k : Int) < (n1 : Int) := by omega
        have eA1 : a1 = some ⟨b', o', none⟩ := HT.out.e1 (by omega)
        subst eA1
        have hNK : Hid (n1 - k = (n1 - (k + 1)) + 1) := by show _ = _; omega
        by_cases he : sy = 0 ∨ n1 ≤ sy
        · have HT2 : Hid (L = pre) := by
            show _ = _
            rw [HP.out, walkL_end C n1 _ sy he, List.append_nil]
          by_cases h00 : sy = 0
          · subst h00
            gi_wp2
            repeat (refine ⟨(by intro f hf; cases hf), ?_⟩; gi_wp2)
            refine bodyPost_ret (results_none rfl _ _ _) rfl ?_
            exact ⟨⟨_, rfl⟩, by rw [HT2.out]; exact hJs⟩
          · have h0i : ¬ (sy : Int) = 0 := by omega
            have hni : (n1 : Int) ≤ (sy : Int) := by omega
            have e1 : IntKind.u64.wrap (sy : Int) = (sy : Int) := wrapu64 _ (by omega) (by omega)
            have e2 : IntKind.u64.wrap (n1 : Int) = (n1 : Int) := wrapu64 _ (by omega) (by omega)
            clear he
            gi_wp2
            repeat (refine ⟨(by intro f hf; cases hf), ?_⟩; gi_wp2)
            refine bodyPost_ret (results_none rfl _ _ _) rfl ?_
            exact ⟨⟨_, rfl⟩, by rw [HT2.out]; exact hJs⟩
        · have h0i : ¬ (sy : Int) = 0 := by omega
          have hni : ¬ (n1 : Int) ≤ (sy : Int) := by omega
          have hsl : sy < n1 := by omega
          have hsi : (sy : Int) < (n1 : Int) := by omega
          have hs0 : (0 : Int) ≤ (sy : Int) := by omega
          have e1 : IntKind.u64.wrap (sy : Int) = (sy : Int) := wrapu64 _ (by omega) (by omega)
          have e2 : IntKind.u64.wrap (n1 : Int) = (n1 : Int) := wrapu64 _ (by omega) (by omega)
          have e3 : IntKind.i64.wrap (sy : Int) = (sy : Int) := wrapi64 _ (by omega) (by omega)
          have HC1 : Hid (C sy < 4294967296) := hC sy hsl
          have HT2 : Hid (L = (pre ++ [sy]) ++ walkL C n1 (n1 - (k + 1)) (C sy)) := by
            show _ = _
            rw [HP.out, hNK.out, walkL_go C n1 _ sy he, List.append_assoc]
            rfl
          have hYx := hY _ sy _ hJs (by rw [HLen.out]; exact hlt)
          clear he
          gi_wp2_with (gi_at_call 16; refine (callsIn_wide.2 hYx).mono ?_; rintro e W3 ⟨rfl, hJ3, hk3⟩; have TT3 : Hid (TabAt W3 T S s (some ⟨b, o, none⟩) (some ⟨b', o', none⟩) n0 n1 c0 c1 b o b' o' B C) := TT.out.same hk3; have v1 := TT3.out.t1; have v2 := TT3.out.rc sy hsl; generalize C sy = sn2 at v2 HC1 HT2)
          exact ⟨⟨k + 1, sn2, pre ++ [sy], by omega, by go_num, rfl, HC1.out, HT2, (by show _ = _; rw [List.length_append, HLen.out]; rfl), hJ3, hnx.trans hk3⟩, by simp [intOf]; omega⟩
      · obtain rfl : k = n1 := by omega
        gi_wp2
        go_end0
        refine ⟨⟨_, rfl⟩, ?_⟩
        have e : L = pre := by
          rw [HP.out, Nat.sub_self]
          simp [walkL]
        rw [e]
        exact hJs

set_option maxRecDepth 100000 in
set_option maxHeartbeats 4000000 in
theorem walkc21 (n : Nat) (hn : 1 ≤ n) (va : Value) (T S : Nat) (s : ByteArray) (a0 a1 : Option Addr) (n0 n1 c0 c1 b o b' o' : Nat) (B C : Nat → Nat) (hm : s.size ≤ 9223372036854775807) (hn0 : n0 ≤ 9223372036854775807) (hn1 : n1 ≤ 9223372036854775807) (hc0 : n0 ≤ c0) (hc1 : n1 ≤ c1)
    (hB : ∀ j, j < n0 → B j < 4294967296) (hC : ∀ j, j < n1 → C j < 4294967296) (J : List Nat → World → Prop)
    (hY : ∀ pre (x : Nat) W, J pre W → pre.length < n1 → Calls Try.prog 21 #[.int .i64 (x : Int), va] W fun e W' => e = .returned (.bool true) ∧ J (pre ++ [x]) W' ∧ K4 T S b b' W W')
    (W : World) (hJ : ∀ X Y : World, X.grownBy Y none → J [] X → J [] Y) (hT : TabAt W T S s a0 a1 n0 n1 c0 c1 b o b' o' B C) (h0 : J [] W) :
    CallsIn Fence.wide n Try.prog 45 #[.func (.func 21) #[] #[va], .pointer (some ⟨T, 0, none⟩), .pointer (some ⟨S, 0, none⟩)] W fun e W' => (∃ v, e = .returned v) ∧ J (walkN B C n0 n1 s) W' := by
  have HT : Hid (TabAt W T S s a0 a1 n0 n1 c0 c1 b o b' o' B C) := hT
  have t0 := hT.t0
  have t1 := hT.t1
  have sn := hT.sn
  clear hT
  refine callsIn_of_wp Try.func45 rfl trivial ?_ rfl
  simp only [Try.ntmps45, List.size_toArray, List.length_cons, List.length_nil, Nat.reduceAdd, Nat.reduceSub, Array.replicate_succ, Array.replicate_zero, List.push_toArray, List.append_toArray, List.nil_append, List.cons_append]
  by_cases hz : n0 = 0
  · subst hz
    gi_wp2
    refine bodyPost_ret (results_none rfl _ _ _) rfl ?_
    exact ⟨⟨_, rfl⟩, h0⟩
  · have hzi : ¬ (n0 : Int) = 0 := by omega
    have eA : a0 = some ⟨b, o, none⟩ := HT.out.e0 (by omega)
    subst eA
    obtain ⟨r, hr⟩ : ∃ r, hs s % n0 = r := ⟨_, rfl⟩
    have hrl : r < n0 := by rw [← hr]; exact Nat.mod_lt _ (by omega)
    have lT := World.block_lt_of_cell? _ _ t0
    have lS := World.block_lt_of_cell? _ _ sn
    have rb := HT.out.rb r hrl
    have lb := World.block_lt_of_cell? _ _ rb
    have T0 : ∀ m os, (grow (W.drewN m) os).cell? ⟨T, 0, none⟩ = some (slv (some ⟨b, o, none⟩) n0 c0) := cell_grown lT t0
    have T1 : ∀ m os, (grow (W.drewN m) os).cell? ⟨T, 1, none⟩ = some (slv a1 n1 c1) := cell_grown lT t1
    have SN : ∀ m os, (grow (W.drewN m) os).cell? ⟨S, 0, none⟩ = some (.string s) := cell_grown lS sn
    have RB : ∀ m os, (grow (W.drewN m) os).cell? ⟨b, o + r, none⟩ = some (.int .u32 (B r)) := cell_grown lb rb
    have BK : ∀ m os, Calls Try.prog 46 #[.agg #[slv (some ⟨b, o, none⟩) n0 c0, slv a1 n1 c1], .string s] (grow (W.drewN m) os) fun e w' => e = .returned (.int .u64 (r : Int)) ∧ ∃ q os', w' = grow ((grow (W.drewN m) os).drewN q) os' := fun m os => (bucket_any (some ⟨b, o, none⟩) n0 c0 (slv a1 n1 c1) s _ hm (by omega) hn0).mono (by
      rintro e w' ⟨rfl, q, rfl⟩
      exact ⟨by rw [hr], q, _, grow_of_alloc _ _ _⟩)
    have hri : (r : Int) < (n0 : Int) := by omega
    have hri0 : (0 : Int) ≤ (r : Int) := by omega
    have f46 : Fence.wide.fn 46 := trivial
    have f21 : Fence.wide.fn 21 := trivial
    obtain ⟨L, hL⟩ : ∃ L, L = walkN B C n0 n1 s := ⟨_, rfl⟩
    have HL : Hid (L = walkL C n1 n1 (B r)) := by
      show _ = _
      rw [hL, ← hr]
      unfold walkN
      rw [if_neg hz]
    have hBr : B r < 4294967296 := hB r hrl
    rw [← hL]
    clear rb hL
    gi_wp2
    refine round_grown (by kernel_rfl) (by kernel_rfl) (by kernel_rfl) ?_
    repeat (gi_big_quiet_step (first | (gi_at_call 46; exact CallsIn.grown_of (callsIn_wide.2 (BK _ _)))))
    refine wpQuietIn_nil ?_
    intro _ hw'
    obtain ⟨⟨nq, osq⟩, hw''⟩ := hw'
    subst hw''
    gi_wp2
    have hgb := grownBy_grow W nq osq
    have hJ0 : J [] (grow (W.drewN nq) osq) := hJ W _ hgb h0
    have hK0 : K4 T S b b' W (grow (W.drewN nq) osq) := ⟨hgb.block _ lT (by simp), hgb.block _ lS (by simp), hgb.block _ lb (by simp), hgb.block _ HT.out.lc (by simp)⟩
    clear T0 T1 SN RB BK hgb
    generalize grow (W.drewN nq) osq = W0 at hJ0 hK0 ⊢
    generalize B r = sy0 at HL hBr ⊢
    gi_loopw [4, 19] (fun a i wr => ∃ (k sy : Nat) (pre : List Nat), k ≤ n1 ∧ i = .int .i64 k ∧ a = .int .u32 sy ∧ sy < 4294967296 ∧ Hid (L = pre ++ walkL C n1 (n1 - k) sy) ∧ Hid (pre.length = k) ∧ J pre wr ∧ K4 T S b b' W wr)
      (fun _ i _ => n1 - (intOf i).toNat)
    case atStart => exact ⟨0, sy0, [], Nat.zero_le _, rfl, rfl, hBr, HL.out, rfl, hJ0, hK0⟩
    case round =>
      obtain ⟨k, sy, pre, hk, rfl, rfl, hsy, HP, HLen, hJs, hnx⟩ := hrel
      have TT : Hid (TabAt wr T S s (some ⟨b, o, none⟩) a1 n0 n1 c0 c1 b o b' o' B C) := HT.out.same hnx
      have u1 := TT.out.t1
      by_cases hlt : k < n1
      · have hki : (k : Int) < (n1 : Int) := by omega
        have eA1 : a1 = some ⟨b', o', none⟩ := HT.out.e1 (by omega)
        subst eA1
        have hNK : Hid (n1 - k = (n1 - (k + 1)) + 1) := by show _ = _; omega
        by_cases he : sy = 0 ∨ n1 ≤ sy
        · have HT2 : Hid (L = pre) := by
            show _ = _
            rw [HP.out, walkL_end C n1 _ sy he, List.append_nil]
          by_cases h00 : sy = 0
          · subst h00
            gi_wp2
            repeat (refine ⟨(by intro f hf; cases hf), ?_⟩; gi_wp2)
            refine bodyPost_ret (results_none rfl _ _ _) rfl ?_
            exact ⟨⟨_, rfl⟩, by rw [HT2.out]; exact hJs⟩
          · have h0i : ¬ (sy : Int) = 0 := by omega
            have hni : (n1 : Int) ≤ (sy : Int) := by omega
            have e1 : IntKind.u64.wrap (sy : Int) = (sy : Int) := wrapu64 _ (by omega) (by omega)
            have e2 : IntKind.u64.wrap (n1 : Int) = (n1 : Int) := wrapu64 _ (by omega) (by omega)
            clear he
            gi_wp2
            repeat (refine ⟨(by intro f hf; cases hf), ?_⟩; gi_wp2)
            refine bodyPost_ret (results_none rfl _ _ _) rfl ?_
            exact ⟨⟨_, rfl⟩, by rw [HT2.out]; exact hJs⟩
        · have h0i : ¬ (sy : Int) = 0 := by omega
          have hni : ¬ (n1 : Int) ≤ (sy : Int) := by omega
          have hsl : sy < n1 := by omega
          have hsi : (sy : Int) < (n1 : Int) := by omega
          have hs0 : (0 : Int) ≤ (sy : Int) := by omega
          have e1 : IntKind.u64.wrap (sy : Int) = (sy : Int) := wrapu64 _ (by omega) (by omega)
          have e2 : IntKind.u64.wrap (n1 : Int) = (n1 : Int) := wrapu64 _ (by omega) (by omega)
          have e3 : IntKind.i64.wrap (sy : Int) = (sy : Int) := wrapi64 _ (by omega) (by omega)
          have HC1 : Hid (C sy < 4294967296) := hC sy hsl
          have HT2 : Hid (L = (pre ++ [sy]) ++ walkL C n1 (n1 - (k + 1)) (C sy)) := by
            show _ = _
            rw [HP.out, hNK.out, walkL_go C n1 _ sy he, List.append_assoc]
            rfl
          have hYx := hY _ sy _ hJs (by rw [HLen.out]; exact hlt)
          clear he
          gi_wp2_with (gi_at_call 21; refine (callsIn_wide.2 hYx).mono ?_; rintro e W3 ⟨rfl, hJ3, hk3⟩; have TT3 : Hid (TabAt W3 T S s (some ⟨b, o, none⟩) (some ⟨b', o', none⟩) n0 n1 c0 c1 b o b' o' B C) := TT.out.same hk3; have v1 := TT3.out.t1; have v2 := TT3.out.rc sy hsl; generalize C sy = sn2 at v2 HC1 HT2)
          exact ⟨⟨k + 1, sn2, pre ++ [sy], by omega, by go_num, rfl, HC1.out, HT2, (by show _ = _; rw [List.length_append, HLen.out]; rfl), hJ3, hnx.trans hk3⟩, by simp [intOf]; omega⟩
      · obtain rfl : k = n1 := by omega
        gi_wp2
        go_end0
        refine ⟨⟨_, rfl⟩, ?_⟩
        have e : L = pre := by
          rw [HP.out, Nat.sub_self]
          simp [walkL]
        rw [e]
        exact hJs

end Go.Proofs.Ytffmkkfacemchaa
