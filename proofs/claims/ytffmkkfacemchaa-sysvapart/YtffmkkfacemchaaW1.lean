/-
  Layer 13: the walk of a name, gone through by whatever loop.
-/
import Derived.Test.YtffmkkfacemchaaR0
namespace Go.Proofs.Ytffmkkfacemchaa
open Go.RowKit Go.Shelf Go.Sort
attribute [local go_sem] Oper.semAt_some
set_option linter.unusedVariables false

/-- The symbols from one on, as far as so many steps go. -/
def walkL (C : Nat → Nat) (nc : Nat) : Nat → Nat → List Nat
  | 0, _ => []
  | f + 1, s => if s = 0 ∨ nc ≤ s then [] else s :: walkL C nc f (C s)
theorem walkL_end (C : Nat → Nat) (nc f s : Nat) (h : s = 0 ∨ nc ≤ s) : walkL C nc f s = [] := by
  cases f with
  | zero => rfl
  | succ f => simp only [walkL, if_pos h]
theorem walkL_go (C : Nat → Nat) (nc f s : Nat) (h : ¬ (s = 0 ∨ nc ≤ s)) : walkL C nc (f + 1) s = s :: walkL C nc f (C s) := by simp only [walkL, if_neg h]
theorem walkL_len (C : Nat → Nat) (nc : Nat) : ∀ f s, (walkL C nc f s).length ≤ f
  | 0, _ => Nat.le_refl _
  | f + 1, s => by
    unfold walkL
    split
    · exact Nat.zero_le _
    · simp only [List.length_cons]; have := walkL_len C nc f (C s); omega
/-- The walk of a name. -/
def walkN (B C : Nat → Nat) (nb nc : Nat) (s : ByteArray) : List Nat := if nb = 0 then [] else walkL C nc nc (B (hs s % nb))

/-- The four blocks of a walk are as they were. -/
def K4 (T S b c : Nat) (A B : World) : Prop := B.heap[T]? = A.heap[T]? ∧ B.heap[S]? = A.heap[S]? ∧ B.heap[b]? = A.heap[b]? ∧ B.heap[c]? = A.heap[c]?
theorem K4.refl (T S b c : Nat) (A : World) : K4 T S b c A A := ⟨rfl, rfl, rfl, rfl⟩
theorem K4.trans {T S b c : Nat} {A B C : World} (h : K4 T S b c A B) (k : K4 T S b c B C) : K4 T S b c A C := ⟨k.1.trans h.1, k.2.1.trans h.2.1, k.2.2.1.trans h.2.2.1, k.2.2.2.trans h.2.2.2⟩
theorem K4.of_below {T S b c n : Nat} {A B : World} (h : Below n A B) (h1 : T < n) (h2 : S < n) (h3 : b < n) (h4 : c < n) : K4 T S b c A B := ⟨h.block _ h1, h.block _ h2, h.block _ h3, h.block _ h4⟩
theorem K4.cT {T S b c : Nat} {A B : World} (h : K4 T S b c A B) (i : Nat) : B.cell? ⟨T, i, none⟩ = A.cell? ⟨T, i, none⟩ := World.cell?_of_block (a := ⟨T, i, none⟩) h.1
theorem K4.cS {T S b c : Nat} {A B : World} (h : K4 T S b c A B) (i : Nat) : B.cell? ⟨S, i, none⟩ = A.cell? ⟨S, i, none⟩ := World.cell?_of_block (a := ⟨S, i, none⟩) h.2.1

/-- What a walk reads. -/
structure TabAt (w : World) (T S : Nat) (s : ByteArray) (a0 a1 : Option Addr) (n0 n1 c0 c1 b o b' o' : Nat) (B C : Nat → Nat) : Prop where
  t0 : w.cell? ⟨T, 0, none⟩ = some (slv a0 n0 c0)
  t1 : w.cell? ⟨T, 1, none⟩ = some (slv a1 n1 c1)
  sn : w.cell? ⟨S, 0, none⟩ = some (.string s)
  e0 : 0 < n0 → a0 = some ⟨b, o, none⟩
  e1 : 0 < n1 → a1 = some ⟨b', o', none⟩
  rb : RowU w b o n0 B
  rc : RowU w b' o' n1 C
  lb : b < w.heap.size
  lc : b' < w.heap.size
theorem TabAt.same {w W : World} {T S : Nat} {s : ByteArray} {a0 a1 : Option Addr} {n0 n1 c0 c1 b o b' o' : Nat} {B C : Nat → Nat} (h : TabAt w T S s a0 a1 n0 n1 c0 c1 b o b' o' B C) (k : K4 T S b b' w W) : TabAt W T S s a0 a1 n0 n1 c0 c1 b o b' o' B C :=
  ⟨(k.cT 0).trans h.t0, (k.cT 1).trans h.t1, (k.cS 0).trans h.sn, h.e0, h.e1, h.rb.same k.2.2.1, h.rc.same k.2.2.2, (Array.getElem?_eq_some_iff.1 (k.2.2.1.trans (Array.getElem?_eq_getElem h.lb))).1, (Array.getElem?_eq_some_iff.1 (k.2.2.2.trans (Array.getElem?_eq_getElem h.lc))).1⟩

abbrev encS (x : Nat) : Array Value := #[.int .i64 (x : Int)]
theorem grownBy_grow (W : World) (q : Nat) (os : Array Obj) : W.grownBy (grow (W.drewN q) os) none :=
  ⟨rfl, rfl, rfl, by rw [size_grow]; show W.heap.size ≤ W.heap.size + _; omega, fun k hk _ => heap_grow_old (W.drewN q) os hk⟩
theorem wrapu64 (x : Int) (h0 : 0 ≤ x) (h1 : x ≤ 9223372036854775807) : IntKind.u64.wrap x = x := by rw [IntKind.wrap_u64]; omega
theorem wrapi64 (x : Int) (h0 : 0 ≤ x) (h1 : x ≤ 9223372036854775807) : IntKind.i64.wrap x = x := by rw [IntKind.wrap_i64]; omega
set_option maxRecDepth 100000 in
set_option maxHeartbeats 4000000 in
theorem walk1_in (n : Nat) (hn : 1 ≤ n) (l T S : Nat) (s : ByteArray) (a0 a1 : Option Addr) (n0 n1 c0 c1 b o b' o' : Nat) (B C : Nat → Nat) (hm : s.size ≤ 9223372036854775807) (hn0 : n0 ≤ 9223372036854775807) (hn1 : n1 ≤ 9223372036854775807) (hc0 : n0 ≤ c0) (hc1 : n1 ≤ c1)
    (hB : ∀ j, j < n0 → B j < 4294967296) (hC : ∀ j, j < n1 → C j < 4294967296) (J Jx : List Nat → World → Prop)
    (hY : ∀ pre x W, J pre W → pre.length < n1 → YieldAt Fence.wide (n - 1) Try.prog l (encS x) W fun e W' =>
      (e = .returned (.bool true) ∧ J (pre ++ [x]) W' ∧ K4 T S b b' W W') ∨ (e = .returned (.bool false) ∧ Jx (pre ++ [x]) W'))
    (W : World) (hJ : AbidesFrom W.heap.size J) (hT : TabAt W T S s a0 a1 n0 n1 c0 c1 b o b' o' B C) (h0 : J [] W) :
    CallsIn Fence.wide n Try.prog 45 #[.func (.yield l) #[] #[], .pointer (some ⟨T, 0, none⟩), .pointer (some ⟨S, 0, none⟩)] W fun e W' => (∃ v, e = .returned v) ∧
      ((∃ ys, ys = walkN B C n0 n1 s ∧ J ys W') ∨ (∃ pre, pre <+: walkN B C n0 n1 s ∧ Jx pre W')) := by
  have HT : Hid (TabAt W T S s a0 a1 n0 n1 c0 c1 b o b' o' B C) := hT
  have t0 := hT.t0
  have t1 := hT.t1
  have sn := hT.sn
  clear hT
  refine callsIn_of_wp Try.func45 rfl trivial ?_ rfl
  simp only [Try.ntmps45, List.size_toArray, List.length_cons, List.length_nil, Nat.reduceAdd, Nat.reduceSub, Array.replicate_succ, Array.replicate_zero, List.push_toArray, List.append_toArray, List.nil_append, List.cons_append]
  by_cases hz : n0 = 0
  · subst hz
    gi_wp2
    refine bodyPost_ret (results_none rfl _ _ _) rfl ?_
    exact ⟨⟨_, rfl⟩, .inl ⟨[], rfl, h0⟩⟩
  · have hzi : ¬ (n0 : Int) = 0 := by omega
    have eA : a0 = some ⟨b, o, none⟩ := HT.out.e0 (by omega)
    subst eA
    obtain ⟨r, hr⟩ : ∃ r, hs s % n0 = r := ⟨_, rfl⟩
    have hrl : r < n0 := by rw [← hr]; exact Nat.mod_lt _ (by omega)
    have lT := World.block_lt_of_cell? _ _ t0
    have lS := World.block_lt_of_cell? _ _ sn
    have rb := HT.out.rb r hrl
    have lb := World.block_lt_of_cell? _ _ rb
    have T0 : ∀ m os, (grow (W.drewN m) os).cell? ⟨T, 0, none⟩ = some (slv (some ⟨b, o, none⟩) n0 c0) := cell_grown lT t0
    have T1 : ∀ m os, (grow (W.drewN m) os).cell? ⟨T, 1, none⟩ = some (slv a1 n1 c1) := cell_grown lT t1
    have SN : ∀ m os, (grow (W.drewN m) os).cell? ⟨S, 0, none⟩ = some (.string s) := cell_grown lS sn
    have RB : ∀ m os, (grow (W.drewN m) os).cell? ⟨b, o + r, none⟩ = some (.int .u32 (B r)) := cell_grown lb rb
    have BK : ∀ m os, Calls Try.prog 46 #[.agg #[slv (some ⟨b, o, none⟩) n0 c0, slv a1 n1 c1], .string s] (grow (W.drewN m) os) fun e w' => e = .returned (.int .u64 (r : Int)) ∧ ∃ q os', w' = grow ((grow (W.drewN m) os).drewN q) os' := fun m os => (bucket_any (some ⟨b, o, none⟩) n0 c0 (slv a1 n1 c1) s _ hm (by omega) hn0).mono (by
      rintro e w' ⟨rfl, q, rfl⟩
      exact ⟨by rw [hr], q, _, grow_of_alloc _ _ _⟩)
    have hri : (r : Int) < (n0 : Int) := by omega
    have hri0 : (0 : Int) ≤ (r : Int) := by omega
    have f46 : Fence.wide.fn 46 := trivial
    obtain ⟨L, hL⟩ : ∃ L, L = walkN B C n0 n1 s := ⟨_, rfl⟩
    have HL : Hid (L = walkL C n1 n1 (B r)) := by
      show _ = _
      rw [hL, ← hr]
      unfold walkN
      rw [if_neg hz]
    have hBr : B r < 4294967296 := hB r hrl
    rw [← hL]
    clear rb hL
    gi_wp2
    refine round_grown (by kernel_rfl) (by kernel_rfl) (by kernel_rfl) ?_
    repeat (gi_big_quiet_step (first | (gi_at_call 46; exact CallsIn.grown_of (callsIn_wide.2 (BK _ _)))))
    refine wpQuietIn_nil ?_
    intro _ hw'
    obtain ⟨⟨nq, osq⟩, hw''⟩ := hw'
    subst hw''
    gi_wp2
    have hgb := grownBy_grow W nq osq
    have hJ0 : J [] (grow (W.drewN nq) osq) := hJ [] W _ none h0 hgb (fun r hr => by cases hr)
    have hK0 : K4 T S b b' W (grow (W.drewN nq) osq) := ⟨hgb.block _ lT (by simp), hgb.block _ lS (by simp), hgb.block _ lb (by simp), hgb.block _ HT.out.lc (by simp)⟩
    clear T0 T1 SN RB BK hgb
    generalize grow (W.drewN nq) osq = W0 at hJ0 hK0 ⊢
    generalize B r = sy0 at HL hBr ⊢
    gi_loopw [4, 19] (fun a i wr => ∃ (k sy : Nat) (pre : List Nat), k ≤ n1 ∧ i = .int .i64 k ∧ a = .int .u32 sy ∧ sy < 4294967296 ∧ Hid (L = pre ++ walkL C n1 (n1 - k) sy) ∧ Hid (pre.length = k) ∧ J pre wr ∧ K4 T S b b' W wr)
      (fun _ i _ => n1 - (intOf i).toNat)
    case atStart => exact ⟨0, sy0, [], Nat.zero_le _, rfl, rfl, hBr, HL.out, rfl, hJ0, hK0⟩
    case round =>
      obtain ⟨k, sy, pre, hk, rfl, rfl, hsy, HP, HLen, hJs, hnx⟩ := hrel
      have TT : Hid (TabAt wr T S s (some ⟨b, o, none⟩) a1 n0 n1 c0 c1 b o b' o' B C) := HT.out.same hnx
      have u1 := TT.out.t1
      by_cases hlt : k < n1
      · have hki : (k : Int) < (n1 : Int) := by omega
        have eA1 : a1 = some ⟨b', o', none⟩ := HT.out.e1 (by omega)
        subst eA1
        have hNK : Hid (n1 - k = (n1 - (k + 1)) + 1) := by show _ = _; omega
        by_cases he : sy = 0 ∨ n1 ≤ sy
        · have HT2 : Hid (L = pre) := by
            show _ = _
            rw [HP.out, walkL_end C n1 _ sy he, List.append_nil]
          by_cases h00 : sy = 0
          · subst h00
            gi_wp2
            repeat (refine ⟨(by intro f hf; cases hf), ?_⟩; gi_wp2)
            refine bodyPost_ret (results_none rfl _ _ _) rfl ?_
            exact ⟨⟨_, rfl⟩, .inl ⟨_, HT2.out.symm, hJs⟩⟩
          · have h0i : ¬ (sy : Int) = 0 := by omega
            have hni : (n1 : Int) ≤ (sy : Int) := by omega
            have e1 : IntKind.u64.wrap (sy : Int) = (sy : Int) := wrapu64 _ (by omega) (by omega)
            have e2 : IntKind.u64.wrap (n1 : Int) = (n1 : Int) := wrapu64 _ (by omega) (by omega)
            clear he
            gi_wp2
            repeat (refine ⟨(by intro f hf; cases hf), ?_⟩; gi_wp2)
            refine bodyPost_ret (results_none rfl _ _ _) rfl ?_
            exact ⟨⟨_, rfl⟩, .inl ⟨_, HT2.out.symm, hJs⟩⟩
        · have h0i : ¬ (sy : Int) = 0 := by omega
          have hni : ¬ (n1 : Int) ≤ (sy : Int) := by omega
          have hsl : sy < n1 := by omega
          have hsi : (sy : Int) < (n1 : Int) := by omega
          have hs0 : (0 : Int) ≤ (sy : Int) := by omega
          have e1 : IntKind.u64.wrap (sy : Int) = (sy : Int) := wrapu64 _ (by omega) (by omega)
          have e2 : IntKind.u64.wrap (n1 : Int) = (n1 : Int) := wrapu64 _ (by omega) (by omega)
          have e3 : IntKind.i64.wrap (sy : Int) = (sy : Int) := wrapi64 _ (by omega) (by omega)
          have HC1 : Hid (C sy < 4294967296) := hC sy hsl
          have HT2 : Hid (L = (pre ++ [sy]) ++ walkL C n1 (n1 - (k + 1)) (C sy)) := by
            show _ = _
            rw [HP.out, hNK.out, walkL_go C n1 _ sy he, List.append_assoc]
            rfl
          obtain ⟨fn, tmps, assign, body, hy, hR⟩ := hY _ sy _ hJs (by rw [HLen.out]; exact hlt)
          dsimp only [encS] at hy
          clear he
          gi_wp2
          refine hR.mono ?_
          rintro e W3 (⟨rfl, hJ3, hk3⟩ | ⟨rfl, hJx3⟩)
          · have TT3 : Hid (TabAt W3 T S s (some ⟨b, o, none⟩) (some ⟨b', o', none⟩) n0 n1 c0 c1 b o b' o' B C) := TT.out.same hk3
            have v1 := TT3.out.t1
            have v2 := TT3.out.rc sy hsl
            generalize C sy = sn2 at v2 HC1 HT2
            gi_wp2
            exact ⟨⟨k + 1, sn2, pre ++ [sy], by omega, by go_num, rfl, HC1.out, HT2, (by show _ = _; rw [List.length_append, HLen.out]; rfl), hJ3, hnx.trans hk3⟩, by simp [intOf]; omega⟩
          · gi_wp2
            refine bodyPost_ret (results_none rfl _ _ _) rfl ?_
            refine ⟨⟨_, rfl⟩, .inr ⟨_, ?_, hJx3⟩⟩
            rw [HT2.out]
            exact List.prefix_append _ _
      · obtain rfl : k = n1 := by omega
        gi_wp2
        go_end0
        refine ⟨⟨_, rfl⟩, .inl ⟨_, ?_, hJs⟩⟩
        rw [HP.out, Nat.sub_self]
        simp [walkL]

/-- As a range over it wants it. -/
theorem walk_stops (n : Nat) (hn : 1 ≤ n) (T S : Nat) (s : ByteArray) (a0 a1 : Option Addr) (n0 n1 c0 c1 b o b' o' : Nat) (B C : Nat → Nat) (hm : s.size ≤ 9223372036854775807) (hn0 : n0 ≤ 9223372036854775807) (hn1 : n1 ≤ 9223372036854775807) (hc0 : n0 ≤ c0) (hc1 : n1 ≤ c1)
    (hB : ∀ j, j < n0 → B j < 4294967296) (hC : ∀ j, j < n1 → C j < 4294967296) (w : World) (hT : TabAt w T S s a0 a1 n0 n1 c0 c1 b o b' o' B C) :
    SeqStopsK Fence.wide n Try.prog 45 #[.pointer (some ⟨T, 0, none⟩), .pointer (some ⟨S, 0, none⟩)] encS (K4 T S b b') (fun xs => xs = walkN B C n0 n1 s) (fun pre => pre <+: walkN B C n0 n1 s) n1 w := by
  intro l J Jx W hW hJ hJx hY h0
  have lT := World.block_lt_of_cell? _ _ hT.t0
  have lS := World.block_lt_of_cell? _ _ hT.sn
  exact walk1_in n hn l T S s a0 a1 n0 n1 c0 c1 b o b' o' B C hm hn0 hn1 hc0 hc1 hB hC J Jx hY W hJ (hT.same (K4.of_below hW lT lS hT.lb hT.lc)) h0
end Go.Proofs.Ytffmkkfacemchaa
