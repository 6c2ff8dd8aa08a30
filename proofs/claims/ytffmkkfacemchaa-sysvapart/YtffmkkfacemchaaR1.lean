/-
  Layer 13: Read of bytes that have all their numbers.
-/
import Derived.Test.YtffmkkfacemchaaV0
import Derived.RangeFuncOwn
import Derived.Deep.RegionHeld3
import Derived.RangeFuncNested
import Derived.Sort.CutIn
import Derived.Sort.QuietIn
namespace Go.Proofs.Ytffmkkfacemchaa
open Go.RowKit Go.Shelf Go.Sort
attribute [local go_sem] Oper.semAt_some
set_option linter.unusedVariables false

set_option maxRecDepth 100000 in
set_option maxHeartbeats 8000000 in
theorem read_some (b : ByteArray) (n m : Nat) (w : World) (hb : b.size ≤ 9223372036854775807) (h8 : 8 ≤ b.size) (e0 : num (b.extract 0 4) = (n : Int)) (e1 : num (b.extract 4 8) = (m : Int)) (hn0 : 0 < n) (hn : n ≤ 256) (hm : m ≤ 256) (hl : 8 + 4 * n + 4 * m ≤ b.size) :
    Calls Try.prog 10 #[.string b] w (RdP w b n m) := by
  have hs : ¬ (b.size : Int) < 8 := by omega
  have h4i : (4 : Int) ≤ (b.size : Int) := by omega
  have h8i : (8 : Int) ≤ (b.size : Int) := by omega
  have z0 : (b.extract 0 4).size ≤ maxLen := by unfold maxLen; simp; omega
  have z1 : (b.extract 4 8).size ≤ maxLen := by unfold maxLen; simp; omega
  have G0 : ∀ W, CallsIn Fence.wide 3 Try.prog 35 #[.string (b.extract 0 4)] W fun e w' => e = .returned (.int .u64 (n : Int)) ∧ w' = W := fun W => callsIn_wide.2 (by rw [← e0]; exact get_any (b.extract 0 4) W z0)
  have G1 : ∀ W, CallsIn Fence.wide 3 Try.prog 35 #[.string (b.extract 4 8)] W fun e w' => e = .returned (.int .u64 (m : Int)) ∧ w' = W := fun W => callsIn_wide.2 (by rw [← e1]; exact get_any (b.extract 4 8) W z1)
  have i0 : ¬ (n : Int) = 0 := by omega
  have i1 : ¬ (256 : Int) < (n : Int) := by omega
  have i2 : ¬ (256 : Int) < (m : Int) := by omega
  have u1 : IntKind.u64.wrap ((n : Int) + (m : Int)) = (n : Int) + (m : Int) := wrapu64 _ (by omega) (by omega)
  have u2 : IntKind.u64.wrap (((n : Int) + (m : Int)) * 4) = ((n : Int) + (m : Int)) * 4 := wrapu64 _ (by omega) (by omega)
  obtain ⟨bo, hbo⟩ : ∃ bo, bo = b.extract 8 (8 + 4 * (n + m)) := ⟨_, rfl⟩
  have HBO : Hid (bo = b.extract (8 : Int).toNat ((8 : Int) + ((n : Int) + (m : Int)) * 4).toNat) := by
    show _ = _
    rw [hbo]
    congr 1
    omega
  have PY : ∀ W, CallsIn Fence.wide 3 Try.prog 36 #[.string b, .int .u64 8, .int .u64 (((n : Int) + (m : Int)) * 4)] W _ := fun W => callsIn_wide.2 (part_yes b bo 8 (((n : Int) + (m : Int)) * 4) W HBO hb (by omega) (by omega) (by omega))
  have hbs : bo.size = 4 * (n + m) := by rw [hbo]; simp; omega
  have HBO2 : Hid (bo = b.extract 8 (8 + 4 * (n + m))) := hbo
  clear e0 e1 z0 z1 hbo
  refine (callsIn_wide (n := 4)).1 ?_
  refine callsIn_of_wp_marks Try.func10 rfl trivial ?_ rfl
  simp only [Try.ntmps10, List.size_toArray, List.length_cons, List.length_nil, Nat.reduceAdd, Nat.reduceSub, Array.replicate_succ, Array.replicate_zero, List.push_toArray, List.append_toArray, List.nil_append, List.cons_append]
  have f35 : Fence.wide.fn 35 := trivial
  have f36 : Fence.wide.fn 36 := trivial
  have f37 : Fence.wide.fn 37 := trivial
  have mixed : Try.prog.follows .mixedOrders = true := by kernel_rfl
  gi_upto_region 3 with fail
  gi_cut [4, 5] from 12 (fun p q wx => p = .int .u64 (n : Int) ∧ q = .pointer (some ⟨w.heap.size + 1 + 1, 0, none⟩) ∧ wx = (((w.alloc (Obj.cells #[Value.slice none 0 0, Value.slice none 0 0] 25)).alloc (Obj.cells #[Value.int IntKind.i64 0, Value.int IntKind.u64 0, Value.string ⟨#[]⟩] 29)).alloc (Obj.cells #[Value.int IntKind.u64 (m : Int)] 27)).drew)
  case first =>
    refine np_region ?_
    gi_region_with_o (first | (gi_at_call 35; with_reducible refine (G0 _).mono ?_; rintro e w' ⟨rfl, rfl⟩) | (gi_at_call 35; with_reducible refine (G1 _).mono ?_; rintro e w' ⟨rfl, rfl⟩))
    all_goals
      refine np_normal ?_
      gi_wp2
      gi_meet
    all_goals exact ⟨rfl, rfl, rfl⟩
  case rest =>
  obtain ⟨rfl, rfl, hw⟩ := hcut
  have hb0 : Below w.heap.size w wc := by
    rw [hw]
    exact ((((Below.refl _ w).alloc (Nat.le_refl _) _).alloc (by simp) _).alloc (by simp; omega) _).drew
  have hR : wc.heap[w.heap.size]? = some (.cells #[.slice none 0 0, .slice none 0 0] 25 (0, 0)) := by rw [hw]; exact (two_al w _ _ _).1
  have hF : wc.heap[w.heap.size + 1]? = some (.cells #[.int .i64 0, .int .u64 0, .string ⟨#[]⟩] 29 (0, 0)) := by rw [hw]; exact (two_al w _ _ _).2
  have hC : Boxed wc (w.heap.size + 1 + 1) 27 (.int .u64 (m : Int)) := by
    rw [hw]
    have h := World.alloc_heap_new ((w.alloc (Obj.cells #[Value.slice none 0 0, Value.slice none 0 0] 25)).alloc (Obj.cells #[Value.int IntKind.i64 0, Value.int IntKind.u64 0, Value.string ⟨#[]⟩] 29)) (Obj.cells #[Value.int IntKind.u64 (m : Int)] 27)
    rw [World.size_alloc, World.size_alloc] at h
    exact h
  have hsz : wc.heap.size = w.heap.size + 3 := by rw [hw]; simp
  have cC := hC.cell
  clear hw
  gi_wp2_with (first
    | (gi_at_call 36; refine (PY _).mono ?_; rintro e w' ⟨rfl, rfl⟩)
    | (gi_at_call 37; refine (each_in Fence.wide 3 trivial rfl _ _ _).mono ?_; rintro e w' ⟨rfl, rfl⟩))
  rename_i K hK
  have hW : ∃ W0 : World, (((w'.alloc (Obj.cells #[Value.slice none 0 0] 23)).alloc (Obj.cells #[Value.string bo] 9)).alloc (Obj.cells #[Value.int IntKind.i64 4] 3)) = W0 ∧ W0.heap.size = w.heap.size + 6 ∧ RDI w bo m [] W0 := by
    refine ⟨_, rfl, by simp [hsz], ⟨.slice none 0 0, ?_, World.ownsRow_nil _ _ _ _, trivial⟩, ⟨⟨?_, ?_⟩, ?_, ?_, ?_⟩, by simp, ?_⟩
    · have h := ((Boxed.new w' 23 (.slice none 0 0)).alloc (Obj.cells #[Value.string bo] 9)).alloc (Obj.cells #[Value.int IntKind.i64 4] 3)
      rw [hsz] at h
      exact h
    · have h := (Boxed.new (w'.alloc (Obj.cells #[Value.slice none 0 0] 23)) 9 (.string bo)).alloc (Obj.cells #[Value.int IntKind.i64 4] 3)
      rw [World.size_alloc, hsz] at h
      exact h
    · have h := Boxed.new ((w'.alloc (Obj.cells #[Value.slice none 0 0] 23)).alloc (Obj.cells #[Value.string bo] 9)) 3 (.int .i64 4)
      rw [World.size_alloc, World.size_alloc, hsz] at h
      exact h
    · exact ((hC.alloc _).alloc _).alloc _
    · exact (Below.heap_alloc _ _ _ (by first | (simp [hsz]; omega) | simp [hsz])).trans ((Below.heap_alloc _ _ _ (by first | (simp [hsz]; omega) | simp [hsz])).trans ((Below.heap_alloc _ _ _ (by omega)).trans hR))
    · exact (Below.heap_alloc _ _ _ (by first | (simp [hsz]; omega) | simp [hsz])).trans ((Below.heap_alloc _ _ _ (by first | (simp [hsz]; omega) | simp [hsz])).trans ((Below.heap_alloc _ _ _ (by omega)).trans hF))
    · exact ((hb0.alloc hb0.size _).alloc (by simp [hsz]; omega) _).alloc (by simp [hsz]; omega) _
  obtain ⟨W0, hW0, hsz0, hI0⟩ := hW
  rw [hW0]
  clear hW0 hR hF hC cC
  have PG : ∀ xp : ByteArray, xp.size = 4 → ∃ x : Nat, (∀ X, Calls Try.prog 35 #[.string xp] X fun e w' => e = .returned (.int .u64 (x : Int)) ∧ w' = X) ∧ (∀ i, valE (i, xp) = x) ∧ x < 4294967296 := by
    intro xp hxp
    refine ⟨(num xp).toNat, fun X => ?_, fun i => rfl, num_lt4 xp (by omega)⟩
    have h := get_any xp X (by unfold maxLen; omega)
    have hn := (num_bounds xp).1
    rw [← show ((num xp).toNat : Int) = num xp by omega] at h
    exact h
  refine wpIn_rangeFunc_ownH rfl (by omega) (gf := 62) (lb := #[.pointer (some ⟨w.heap.size + 3 + 1 + 1, 0, none⟩), .pointer (some ⟨w.heap.size + 3 + 1, 0, none⟩)]) rfl trivial (enters_of Try.func62 (by kernel_rfl) rfl)
    (each_stops Fence.wide 3 trivial rfl (by omega) (w.heap.size + 3 + 1 + 1) (w.heap.size + 3 + 1) bo 4 (n + m) (by omega) (by omega) (by omega) (by omega) (by omega) W0 hI0.2.1.1.2.cell hI0.2.1.1.1.cell) KZ.trans
    (fun W l o o' hl h hc hw => by
      have hB := belowK_b (n₀ := w.heap.size + 6) (w := W0) (by omega) W l o o' hl h hc hw
      exact ⟨hB.block _ (by omega), hB.block _ (by omega)⟩) (Below.refl _ _) (fun _ => rfl)
    (fun pre W => RDI w bo m (pre.map Part.pl) W)
    (fun c pre W => c = .ret ∧ RDX w m (pre.map Part.pl) W)
    (fun s X Y row hs hg hr => RDI_own w bo m _ (by omega) (s.map Part.pl) X Y row hs hg hr) (fun c => OwnFrom.and (ownFrom_pure _ _) (fun s X Y row hs hg hr => RDX_own w m _ (by omega) (s.map Part.pl) X Y row hs hg hr))
    hI0
    (fun x a' W => a' = { tmps := List.toArray ((Value.string b) :: undef :: (Value.pointer (some { block := w.heap.size, off := 0 })) :: (Value.pointer (some { block := w.heap.size + 1, off := 0 })) :: (Value.int IntKind.u64 (n : Int)) :: (Value.pointer (some { block := w.heap.size + 1 + 1, off := 0 })) :: (Value.string bo) :: (Value.bool true) :: (Value.pointer (some { block := w.heap.size + 3, off := 0 })) :: (Value.int IntKind.i64 (x.i : Int)) :: (Value.string x.p) :: undef :: u12 :: u13 :: u14 :: u15 :: u16 :: u17 :: u18 :: u19 :: u20 :: u21 :: u22 :: (Value.bool false) :: (Value.int IntKind.u64 (n : Int)) :: (Value.bool false) :: u26 :: u27 :: (Value.bool false) :: (Value.int IntKind.u64 (n : Int)) :: (Value.bool false) :: (Value.bool false) :: (Value.int IntKind.u64 (m : Int)) :: (Value.bool false) :: (Value.bool false) :: u35 :: u36 :: (Value.tuple #[Value.string bo, Value.bool true]) :: (Value.string b) :: (Value.int IntKind.u64 (n : Int)) :: (Value.int IntKind.u64 (m : Int)) :: (Value.int IntKind.u64 ((n : Int) + (m : Int))) :: (Value.int IntKind.u64 (((n : Int) + (m : Int)) * 4)) :: (Value.tuple #[Value.string bo, Value.bool true]) :: (Value.string bo) :: (Value.bool true) :: (Value.bool true) :: (Value.bool false) :: u48 :: u49 :: (Value.string bo) :: (Value.func (Fn.func 62) #[] #[Value.pointer (some { block := w.heap.size + 3 + 1 + 1, off := 0 }), Value.pointer (some { block := w.heap.size + 3 + 1, off := 0 })]) :: (Value.int IntKind.i64 (x.i : Int)) :: (Value.string x.p) :: u54 :: u55 :: u56 :: u57 :: u58 :: u59 :: u60 :: u61 :: u62 :: u63 :: u64 :: u65 :: u66 :: u67 :: u68 :: u69 :: u70 :: u71 :: u72 :: u73 :: u74 :: u75 :: u76 :: u77 :: u78 :: u79 :: u80 :: u81 :: u82 :: u83 :: u84 :: u85 :: u86 :: []), defers := [] })
    (fun x a' _ X Y row hs hg hr => hs)
    ?assign ?body ?done ?stop
  case assign =>
    rintro l pre ⟨xi, xp, hxi, hxp⟩ W K hI hK
    gi_wp2
    exact hK _ _ (KeepsFrom.refl _ _) (KZ.refl _ _ _) hI rfl
  case body =>
    rintro l pre ⟨xi, xp, hxi, hxp⟩ a' W hl ⟨r, hr⟩ hI rfl hlt
    obtain ⟨⟨v, bv, hrow, -⟩, ⟨⟨bS, bZ⟩, bM, bR, bF⟩, hok, hB⟩ := hI
    obtain ⟨x, G, hx, hx4⟩ := PG xp hxp
    have cM := bM.cell
    have cV := bv.cell
    have fV := bv.frozen
    have lV := bv.lt
    have f38 : Fence.wide.fn 38 := trivial
    have HB : Hid (Below w.heap.size w W) := hB
    have HV : Hid (Boxed W (w.heap.size + 3) 23 v) := bv
    have HBX : Hid ((Boxed W (w.heap.size + 3 + 1) 9 (.string bo) ∧ Boxed W (w.heap.size + 3 + 1 + 1) 3 (.int .i64 4)) ∧ Boxed W (w.heap.size + 1 + 1) 27 (.int .u64 (m : Int)) ∧ W.heap[w.heap.size]? = some (.cells #[.slice none 0 0, .slice none 0 0] 25 (0, 0)) ∧ W.heap[w.heap.size + 1]? = some (.cells #[.int .i64 0, .int .u64 0, .string ⟨#[]⟩] 29 (0, 0))) := ⟨⟨bS, bZ⟩, bM, bR, bF⟩
    have HR : Hid (W.ownsRow w.heap.size 51 1 v pre.length (cellsE (List.map Part.pl pre))) := by rw [List.length_map] at hrow; exact hrow
    have HO : Hid (∀ y ∈ List.map Part.pl pre, ¬ offE m y) := hok
    have HX : Hid (∀ i, valE (i, xp) = x) := hx
    obtain ⟨i0, hi0, hz0, hz1, hz2⟩ := info_parts Try.info51
    have hBs := hB.size
    have m1 : pre.length + 1 ≤ maxLen := by unfold maxLen; omega
    have m2 : (pre.length + 1) * 4 ≤ 140737488355328 := by omega
    have wx := wrapu32i x hx4
    have APP : Hid (∀ (v' : Value) (w1 : World), ¬ offE m (xi, xp) → w1.ownsRow w.heap.size 51 1 v' (pre.length + 1) (cellsE (List.map Part.pl pre) ++ [.int .u32 (x : Int)]) → (W.alloc (Obj.cells #[.int .u32 (x : Int)] 51)).grownBy w1 v.ownBlock →
        KeepsFrom W0.heap.size W (w1.setCell ⟨w.heap.size + 3, 0, none⟩ v') ∧ KZ (w.heap.size + 3 + 1 + 1) (w.heap.size + 3 + 1) W (w1.setCell ⟨w.heap.size + 3, 0, none⟩ v') ∧ RDI w bo m (List.map Part.pl (pre ++ [⟨xi, xp, hxi, hxp⟩])) (w1.setCell ⟨w.heap.size + 3, 0, none⟩ v')) := by
      intro v' w1 hoff hown' hgrow
      obtain ⟨hv1, hv2, hr2, hk2, hb2⟩ := HV.out.appended (by decide) HR.out hBs (by omega) hown' hgrow
      have keep : ∀ (B : Nat) (cs : Array Value) (t : TypeId), W.heap[B]? = some (.cells cs t (0, 0)) → t ≠ 51 → B ≠ w.heap.size + 3 → (w1.setCell ⟨w.heap.size + 3, 0, none⟩ v').heap[B]? = some (.cells cs t (0, 0)) := by
        intro B cs t h1 h2 h3
        have hlt := (Array.getElem?_eq_some_iff.1 h1).1
        have e2 := (Below.heap_alloc W (Obj.cells #[.int .u32 (x : Int)] 51) B hlt).trans h1
        exact (Below.heap_setCell _ _ _ _ h3).trans ((hgrow.block B (Array.getElem?_eq_some_iff.1 e2).1 (obj_not_row e2 h2 (HR.out.alloc _))).trans e2)
      obtain ⟨⟨bS, bZ⟩, bM, bR, bF⟩ := HBX.out
      have kS := keep _ _ _ bS (by decide) (by omega)
      have kZ := keep _ _ _ bZ (by decide) (by omega)
      have kM := keep _ _ _ bM (by decide) (by omega)
      have kR := keep _ _ _ bR (by decide) (by omega)
      have kF := keep _ _ _ bF (by decide) (by omega)
      have e0 : List.map Part.pl (pre ++ [⟨xi, xp, hxi, hxp⟩]) = List.map Part.pl pre ++ [(xi, xp)] := by rw [List.map_append]; rfl
      refine ⟨hk2.from _, ⟨kZ.trans (Eq.symm bZ), kS.trans (Eq.symm bS)⟩, ⟨_, hv2, ?_, trivial⟩, ⟨⟨kS, kZ⟩, kM, kR, kF⟩, ?_, HB.out.trans hb2⟩
      · rw [e0, cellsE_snoc, HX.out, List.length_append, List.length_map]
        exact hr2
      · rw [e0]
        intro y hy
        rcases List.mem_append.1 hy with hy | hy
        · exact HO.out y hy
        · obtain rfl : y = (xi, xp) := by simpa using hy
          exact hoff
    clear bv hrow bS bZ bM hB hok hx
    by_cases hx0 : x = 0
    · have ho : Hid (¬ offE m (xi, xp)) := fun h => h.1 (by rw [HX.out]; exact hx0)
      clear HX bR bF
      subst hx0
      gi_wp2_with (first
        | (gi_at_call 35; refine (CallsIn.inRound l (callsIn_wide.2 (G _))).mono ?_; rintro e w' ⟨rfl, rfl⟩)
        | (gi_at_builtin; refine wpListIn_append_own _ rfl _ _ 23 rfl w.heap.size 51 i0 _ 1 4 Try.underlying23 hi0 hz0 hz1 hz2 rfl (by decide) v _ _ rfl (HR.out.alloc _) ⟨_, 0, none⟩ 1 1 [Value.int .u32 _] rfl rfl (one_u _ _) (one_uc _) m1 m2 (by simp; omega) ?_; intro v' w1 hown' hgrow _; obtain ⟨g', cap', rfl⟩ := ownsRow_succ hown'; obtain ⟨hv1, -, -, -, -⟩ := HV.out.appended (by decide) HR.out hBs (by omega) hown' hgrow; have hc1 := hv1.cell; have hf1 := hv1.frozen))
      exact APP.out _ _ ho.out hown' hgrow
    · have hxi0 : ¬ (x : Int) = 0 := by omega
      have hxb : ((x : Int) != 0) = true := by simp [hx0]
      have HX0 : Hid (¬ x = 0) := hx0
      clear hx0
      by_cases hxm : x < m
      · have ho : Hid (¬ offE m (xi, xp)) := fun h => by have := h.2; rw [HX.out] at this; omega
        have hmi : ¬ (m : Int) ≤ (x : Int) := by omega
        clear HX bR bF hxm
        gi_wp2_with (first
          | (gi_at_call 35; refine (CallsIn.inRound l (callsIn_wide.2 (G _))).mono ?_; rintro e w' ⟨rfl, rfl⟩)
          | (gi_at_builtin; refine wpListIn_append_own _ rfl _ _ 23 rfl w.heap.size 51 i0 _ 1 4 Try.underlying23 hi0 hz0 hz1 hz2 rfl (by decide) v _ _ rfl (HR.out.alloc _) ⟨_, 0, none⟩ 1 1 [Value.int .u32 _] rfl rfl (one_u _ _) (one_uc _) m1 m2 (by simp; omega) ?_; intro v' w1 hown' hgrow _; obtain ⟨g', cap', rfl⟩ := ownsRow_succ hown'; obtain ⟨hv1, -, -, -, -⟩ := HV.out.appended (by decide) HR.out hBs (by omega) hown' hgrow; have hc1 := hv1.cell; have hf1 := hv1.frozen))
        exact APP.out _ _ ho.out hown' hgrow
      · have hmi : (m : Int) ≤ (x : Int) := by omega
        have HF : Hid (offE m (xi, xp)) := ⟨by rw [HX.out]; exact HX0.out, by rw [HX.out]; omega⟩
        obtain ⟨cR0, cR1⟩ := cells_of2 bR
        obtain ⟨cF0, cF1, cF2⟩ := three_c bF
        have fR0 : W.frozen? ⟨w.heap.size, 0, none⟩ = false := by simp [World.frozen?, bR]
        have fR1 : W.frozen? ⟨w.heap.size, 1, none⟩ = false := by simp [World.frozen?, bR]
        have fF0 : W.frozen? ⟨w.heap.size + 1, 0, none⟩ = false := by simp [World.frozen?, bF]
        have fF1 : W.frozen? ⟨w.heap.size + 1, 1, none⟩ = false := by simp [World.frozen?, bF]
        have fF2 : W.frozen? ⟨w.heap.size + 1, 2, none⟩ = false := by simp [World.frozen?, bF]
        have lR : w.heap.size < W.heap.size := (Array.getElem?_eq_some_iff.1 bR).1
        have lF : w.heap.size + 1 < W.heap.size := (Array.getElem?_eq_some_iff.1 bF).1
        have w64 : IntKind.u64.wrap (xi : Int) = (xi : Int) := wrapu64 _ (by omega) (by omega)
        have w4 : IntKind.u64.wrap ((xi : Int) * 4) = (xi : Int) * 4 := wrapu64 _ (by omega) (by omega)
        have w8 : IntKind.u64.wrap (8 + (xi : Int) * 4) = 8 + (xi : Int) * 4 := wrapu64 _ (by omega) (by omega)
        have w8' : IntKind.u64.wrap ((xi : Int) * 4 + 8) = (xi : Int) * 4 + 8 := wrapu64 _ (by omega) (by omega)
        clear HX bR bF hxm
        gi_wp2_with (first
          | (gi_at_call 35; refine (CallsIn.inRound l (callsIn_wide.2 (G _))).mono ?_; rintro e w' ⟨rfl, rfl⟩)
          | (gi_at_call 38; refine (CallsIn.inRound l (callsIn_wide.2 (fat_any _ _ _))).mono ?_; rintro e w' ⟨rfl, rfl⟩))
        obtain ⟨-, -, bR, bF⟩ := HBX.out
        have k2 := set2_blk bR (.slice none 0 0) (.slice none 0 0)
        have k1 : ((w'.setCell ⟨w.heap.size, 0, none⟩ (.slice none 0 0)).setCell ⟨w.heap.size, 1, none⟩ (.slice none 0 0)).heap[w.heap.size + 1]? = _ := (Below.heap_setCell _ _ _ _ (by show w.heap.size + 1 ≠ w.heap.size; omega)).trans ((Below.heap_setCell _ _ _ _ (by show w.heap.size + 1 ≠ w.heap.size; omega)).trans bF)
        have k3 := set3_blk k1 (.int .i64 5) (.int .u64 (8 + (xi : Int) * 4)) (.string ⟨#[]⟩)
        refine ⟨?_, rfl, pre.map Part.pl, (xi, xp), by rw [List.map_append]; rfl, HO.out, HF.out, ?_, ?_, ?_⟩
        · exact ((((((KeepsOthers.setCell _ _ _).trans (KeepsOthers.setCell _ _ _)).trans (KeepsOthers.setCell _ _ _)).trans (KeepsOthers.setCell _ _ _)).trans (KeepsOthers.setCell _ _ _)).trans (KeepsOthers.alloc _ _)).from _
        · refine (Below.heap_alloc _ _ _ (by simp; omega)).trans ?_
          refine (Below.heap_setCell _ _ _ _ (by show w.heap.size ≠ w.heap.size + 1; omega)).trans ?_
          refine (Below.heap_setCell _ _ _ _ (by show w.heap.size ≠ w.heap.size + 1; omega)).trans ?_
          exact (Below.heap_setCell _ _ _ _ (by show w.heap.size ≠ w.heap.size + 1; omega)).trans k2
        · exact (Below.heap_alloc _ _ _ (by simp; omega)).trans k3
        · have h2 := ((((HB.out.setCell (p := ⟨w.heap.size, 0, none⟩) (by show w.heap.size ≤ w.heap.size; omega) (.slice none 0 0)).setCell (p := ⟨w.heap.size, 1, none⟩) (by show w.heap.size ≤ w.heap.size; omega) (.slice none 0 0)).setCell (p := ⟨w.heap.size + 1, 0, none⟩) (by show w.heap.size ≤ w.heap.size + 1; omega) (.int .i64 5)).setCell (p := ⟨w.heap.size + 1, 1, none⟩) (by show w.heap.size ≤ w.heap.size + 1; omega) (.int .u64 (8 + (xi : Int) * 4))).setCell (p := ⟨w.heap.size + 1, 2, none⟩) (by show w.heap.size ≤ w.heap.size + 1; omega) (.string ⟨#[]⟩)
          exact h2.alloc h2.size _
  case done =>
    rintro D ys W hD rfl hI hK2
    have hY : (List.map Part.pl (eachP bo 4 (n + m) (by omega) (n + m) (Nat.le_refl _))) = eachL bo 4 (n + m) := eachP_pl _ _ _ _ _ _
    rw [hY] at hI
    clear hY
    obtain ⟨⟨v, bv, hrow, -⟩, ⟨⟨bS, bZ⟩, bM, bR, bF⟩, hok, hB⟩ := hI
    rw [eachL_length] at hrow
    have hg : ∃ g c, v = .slice (some ⟨g, 0, none⟩) (n + m) c := by
      obtain ⟨k, hk⟩ : ∃ k, n + m = k + 1 := ⟨n + m - 1, by omega⟩
      rw [hk] at hrow ⊢
      exact ownsRow_succ hrow
    obtain ⟨g, c, rfl⟩ := hg
    have cV := bv.cell
    have lV := bv.lt
    obtain ⟨cR0, cR1⟩ := cells_of2 bR
    obtain ⟨cF0, cF1, cF2⟩ := three_c bF
    have fR0 : W.frozen? ⟨w.heap.size, 0, none⟩ = false := by simp [World.frozen?, bR]
    have fR1 : W.frozen? ⟨w.heap.size, 1, none⟩ = false := by simp [World.frozen?, bR]
    have fF0 : W.frozen? ⟨w.heap.size + 1, 0, none⟩ = false := by simp [World.frozen?, bF]
    have fF1 : W.frozen? ⟨w.heap.size + 1, 1, none⟩ = false := by simp [World.frozen?, bF]
    have fF2 : W.frozen? ⟨w.heap.size + 1, 2, none⟩ = false := by simp [World.frozen?, bF]
    have lR : w.heap.size < W.heap.size := (Array.getElem?_eq_some_iff.1 bR).1
    have lF : w.heap.size + 1 < W.heap.size := (Array.getElem?_eq_some_iff.1 bF).1
    have HH : Hid (W.ownsRow w.heap.size 51 1 (.slice (some ⟨g, 0, none⟩) (n + m) c) (n + m) (cellsE (eachL bo 4 (n + m)))) := hrow
    have HBX : Hid (Boxed W (w.heap.size + 3) 23 (.slice (some ⟨g, 0, none⟩) (n + m) c) ∧ W.heap[w.heap.size]? = some (.cells #[.slice none 0 0, .slice none 0 0] 25 (0, 0)) ∧ W.heap[w.heap.size + 1]? = some (.cells #[.int .i64 0, .int .u64 0, .string ⟨#[]⟩] 29 (0, 0))) := ⟨bv, bR, bF⟩
    have HB : Hid (Below w.heap.size w W) := hB
    have HO : Hid (∀ x ∈ eachL bo 4 (n + m), ¬ offE m x) := hok
    have hcap : n + m ≤ c := (own_cap hrow).1
    clear bv hrow bS bZ bM bR bF hok hB
    have a1 : (n : Int) ≤ (c : Int) := by omega
    have a2 : (n : Int) + (m : Int) ≤ (c : Int) := by omega
    have a3 : (n : Int) ≤ (n : Int) + (m : Int) := by omega
    have a4 : ((n + m : Nat) : Int) = (n : Int) + (m : Int) := by omega
    show K _ _
    refine hK _ _ ?_
    refine wpIn_wide.2 ?_
    go_wp2
    go_region_held3 (fun w' => w'.cell? ⟨w.heap.size + 3, 0, none⟩ = some (.slice (some ⟨g, 0, none⟩) (n + m) c)) (go_keep) (fail)
    have e1 : ((n : Int) + (m : Int)).toNat - n = m := by omega
    obtain ⟨a1, ha1⟩ : ∃ a1, (if ((n : Int) + (m : Int)).toNat = n then some (⟨g, 0, none⟩ : Addr) else some ⟨g, n, none⟩) = a1 := ⟨_, rfl⟩
    have ha2 : 0 < m → a1 = some ⟨g, n, none⟩ := by
      intro h
      rw [← ha1, if_neg (by omega)]
    rw [ha1, e1]
    have HA : Hid (0 < m → a1 = some ⟨g, n, none⟩) := ha2
    clear ha1 ha2
    have HY : Hid _ := fin_world w W D (.slice (some ⟨g, 0, none⟩) n n) (.slice a1 m m) _ _ _ HBX.out.2.1 HBX.out.2.2 HH.out HB.out hK2 (by omega)
    go_wp2
    obtain ⟨Y, hY, y1, y2, y5, y6, y7⟩ := HY.out
    rw [hY]
    have hbz := belowK_b (n₀ := w.heap.size + 6) (w := W0) (by omega) Y D _ (.deferred none) hD y5 rfl rfl
    refine ⟨by simp, .inl ⟨_, _, rfl, run_takeDeferred y5, ?_⟩⟩
    have z2 := three_c ((hbz.block (w.heap.size + 1) (by omega)).trans y2)
    refine ⟨_, results_two_mid (fn := Try.f10) rfl _ _ w.heap.size (w.heap.size + 1) _ _ _ _ rfl rfl (range2 ((hbz.block w.heap.size (by omega)).trans y1)) Try.underlying25 rfl info25 (range3 z2.1 z2.2.1 z2.2.2) Try.underlying29 rfl info27, .inl ⟨g, c, a1, rfl, HA.out, ?_, ?_⟩, y6.trans (hbz.mono (by omega))⟩
    · rw [← cellsE_u32 b bo (n + m) HBO2.out (by omega) (n + m) (Nat.le_refl _)]
      exact ownsRow_putObj y7 _ y5 rfl
    · intro i hi h
      refine HO.out (i, bo.extract (i * 4) ((i + 1) * 4)) ?_ ((offE_off b bo (n + m) m i HBO2.out (by omega) hi).2 h)
      simp only [eachL, List.mem_map, List.mem_range]
      exact ⟨i, hi, rfl⟩
  case stop =>
    rintro D c pre W hD hSp ⟨rfl, q, x, hpx, hq, hx, bR, bF, hB⟩ hK2
    have hsz6 : w.heap.size + 1 < W.heap.size := (Array.getElem?_eq_some_iff.1 bF).1
    gi_wp2
    have hbz := belowK_b (n₀ := w.heap.size + 6) (w := W0) (by omega) W D _ (.deferred none) hD hK2 rfl rfl
    refine ⟨by simp, .inl ⟨_, _, rfl, run_takeDeferred hK2, ?_⟩⟩
    have z2 := three_c ((hbz.block (w.heap.size + 1) (by omega)).trans bF)
    have hs2 := hSp.map Part.pl
    rw [eachP_pl, hpx] at hs2
    obtain ⟨j, hj, hqj, hxj⟩ := pre_each bo (n + m) q x hs2
    refine ⟨_, results_two_mid (fn := Try.f10) rfl _ _ w.heap.size (w.heap.size + 1) _ _ _ _ rfl rfl (range2 ((hbz.block w.heap.size (by omega)).trans bR)) Try.underlying25 rfl info25 (range3 z2.1 z2.2.1 z2.2.2) Try.underlying29 rfl info27, .inr ⟨j, hj, ?_, ?_, by rw [hxj]⟩, hB.trans (hbz.mono (by omega))⟩
    · intro i hi h
      refine hq (i, bo.extract (i * 4) ((i + 1) * 4)) ?_ ((offE_off b bo (n + m) m i HBO2.out (by omega) (by omega)).2 h)
      rw [hqj]
      simp only [eachL, List.mem_map, List.mem_range]
      exact ⟨i, hi, rfl⟩
    · rw [hxj] at hx
      exact (offE_off b bo (n + m) m j HBO2.out (by omega) hj).1 hx
end Go.Proofs.Ytffmkkfacemchaa
