/-
  Layer 12: Needs of any bytes.
-/
import Derived.Test.YtnlpncgblegbkaaK4
import Derived.Outline
namespace Go.Proofs.Ytnlpncgblegbkaa
open Go.RowKit Go.Shelf
set_option linter.unusedVariables false
attribute [local go_sem] Oper.semAt_some

theorem num_lt2 (s : ByteArray) (h : s.size ≤ 2) : (num s).toNat < 65536 := by
  rw [num_small s (by omega), Int.toNat_natCast]
  have h1 := dec_lt s.data.toList
  have h2 : s.data.toList.length ≤ 2 := by simpa using h
  have h3 : 256 ^ s.data.toList.length ≤ 256 ^ 2 := Nat.pow_le_pow_right (by omega) h2
  omega

theorem load_slice40 {w : World} {B : Nat} {v : Value} (h : w.cell? ⟨B, 0, none⟩ = some v) : (loadVar 40 ⟨B, 0, none⟩).run Try.prog w = .ok v w := by
  have hagg : (isAgg 40).run Try.prog w = .ok false w := by
    simp [isAgg, go_sem]
  simp [loadVar, Sem.run_bind, hagg, Result.andThen, go_sem, h]

set_option maxRecDepth 100000 in
set_option maxHeartbeats 2000000 in
theorem needs_limit (b names : ByteArray) (n : Int) (w : World) (h : n < 0 ∨ 64 < n) : Calls Try.prog 13 #[.string b, .string names, .int .i64 n] w fun e w' => e = .returned (.tuple #[.slice none 0 0, flt 6 0]) ∧ Below w.heap.size w w' := by
  refine (callsIn_wide (n := 4)).1 ?_
  by_cases h0 : n < 0
  all_goals
    refine callsIn_of_wp_marks Try.func13 rfl trivial ?_ rfl
    simp only [Try.ntmps13, List.size_toArray, List.length_cons, List.length_nil, Nat.reduceAdd, Nat.reduceSub, Array.replicate_succ, Array.replicate_zero, List.push_toArray, List.append_toArray, List.nil_append, List.cons_append]
    have f23 : Fence.wide.fn 20 := trivial
    have h1 : n < 0 ∨ (64 < n ∧ ¬ n < 0) := by omega
    first
      | (have h2 : ¬ n < 0 := h0; have h3 : 64 < n := by omega
         clear h h1
         gi_wp2_with (gi_at_call 20; refine (callsIn_wide.2 (of_any _ _)).mono ?_; rintro e w' ⟨rfl, rfl⟩))
      | (clear h h1
         gi_wp2_with (gi_at_call 20; refine (callsIn_wide.2 (of_any _ _)).mono ?_; rintro e w' ⟨rfl, rfl⟩))
    refine ⟨_, results_two_cells (fn := Try.f13) rfl _ _ (w.heap.size + 1 + 1) (w.heap.size + 1 + 1 + 1) (.slice none 0 0) [.int .i64 6, .int .u64 0, .string ⟨#[]⟩] _ rfl rfl (load_slice40 (by simp [go_sem])) (range3 (by simp [go_sem]) (by simp [go_sem]) (by simp [go_sem])) Try.underlying30 rfl info27, rfl, ?_⟩
    go_grown

set_option maxRecDepth 100000 in
set_option maxHeartbeats 8000000 in
theorem needs_any (b names : ByteArray) (n : Nat) (w : World) (hb : b.size ≤ 140737488351232) (hnm : names.size ≤ 9223372036854775807) (hn : n ≤ 64) : Calls Try.prog 13 #[.string b, .string names, .int .i64 (n : Int)] w (NeedsPost w b names n) := by
  have h0 : decide ((n : Int) < 0) = false := by simp
  have h1 : decide ((64 : Int) < (n : Int)) = false := by simp; omega
  refine (callsIn_wide (n := 6)).1 ?_
  refine callsIn_of_wp_marks Try.func13 rfl trivial ?_ rfl
  simp only [Try.ntmps13, List.size_toArray, List.length_cons, List.length_nil, Nat.reduceAdd, Nat.reduceSub, Array.replicate_succ, Array.replicate_zero, List.push_toArray, List.append_toArray, List.nil_append, List.cons_append]
  have f33 : Fence.wide.fn 21 := trivial
  gi_wp2_with (gi_at_call 21; refine (chain_in Fence.wide 5 trivial rfl _ _ _ _ _).mono ?_; rintro e w' ⟨rfl, rfl⟩)
  have hW : ∃ W0 : World, (((((((((w.alloc (Obj.cells #[Value.string b] 9)).alloc (Obj.cells #[Value.string names] 9)).alloc (Obj.cells #[Value.slice none 0 0] 40)).alloc (Obj.cells #[Value.int IntKind.i64 0, Value.int IntKind.u64 0, Value.string ⟨#[]⟩] 30)).alloc (Obj.cells #[Value.slice none 0 0] 40)).alloc (Obj.cells #[Value.string b] 9)).alloc (Obj.cells #[Value.int IntKind.u64 0] 28)).alloc (Obj.cells #[Value.int IntKind.u64 16] 28)).alloc (Obj.cells #[Value.int IntKind.i64 (n : Int)] 3)) = W0 ∧ W0.heap.size = w.heap.size + 9 ∧ NI w b names (runO b names [] []) W0 ∧ Boxed W0 (w.heap.size + 1 + 1 + 1 + 1 + 1 + 1) 28 (.int .u64 0) ∧ Boxed W0 (w.heap.size + 1 + 1 + 1 + 1 + 1 + 1 + 1 + 1) 3 (.int .i64 (n : Int)) := by
    refine ⟨_, rfl, by simp, ⟨⟨.slice none 0 0, ?_, World.ownsRow_nil _ _ _ _, trivial⟩, ⟨⟨?_, ?_⟩, ⟨?_, ?_⟩, ?_, ?_⟩, Nat.zero_le _, ?_⟩, ?_, ?_⟩
    · have h := (((((Boxed.new ((((w.alloc (Obj.cells #[Value.string b] 9)).alloc (Obj.cells #[Value.string names] 9)).alloc (Obj.cells #[Value.slice none 0 0] 40)).alloc (Obj.cells #[Value.int IntKind.i64 0, Value.int IntKind.u64 0, Value.string ⟨#[]⟩] 30)) 40 (.slice none 0 0)).alloc (Obj.cells #[Value.string b] 9)).alloc (Obj.cells #[Value.int IntKind.u64 0] 28)).alloc (Obj.cells #[Value.int IntKind.u64 16] 28)).alloc (Obj.cells #[Value.int IntKind.i64 (n : Int)] 3))
      simp only [World.size_alloc] at h
      exact h
    · have h := ((((Boxed.new (((((w.alloc (Obj.cells #[Value.string b] 9)).alloc (Obj.cells #[Value.string names] 9)).alloc (Obj.cells #[Value.slice none 0 0] 40)).alloc (Obj.cells #[Value.int IntKind.i64 0, Value.int IntKind.u64 0, Value.string ⟨#[]⟩] 30)).alloc (Obj.cells #[Value.slice none 0 0] 40)) 9 (.string b)).alloc (Obj.cells #[Value.int IntKind.u64 0] 28)).alloc (Obj.cells #[Value.int IntKind.u64 16] 28)).alloc (Obj.cells #[Value.int IntKind.i64 (n : Int)] 3))
      simp only [World.size_alloc] at h
      exact h
    · have h := ((Boxed.new (((((((w.alloc (Obj.cells #[Value.string b] 9)).alloc (Obj.cells #[Value.string names] 9)).alloc (Obj.cells #[Value.slice none 0 0] 40)).alloc (Obj.cells #[Value.int IntKind.i64 0, Value.int IntKind.u64 0, Value.string ⟨#[]⟩] 30)).alloc (Obj.cells #[Value.slice none 0 0] 40)).alloc (Obj.cells #[Value.string b] 9)).alloc (Obj.cells #[Value.int IntKind.u64 0] 28)) 28 (.int .u64 16)).alloc (Obj.cells #[Value.int IntKind.i64 (n : Int)] 3))
      simp only [World.size_alloc] at h
      exact h
    · have h := (((((((((Boxed.new w 9 (.string b)).alloc (Obj.cells #[Value.string names] 9)).alloc (Obj.cells #[Value.slice none 0 0] 40)).alloc (Obj.cells #[Value.int IntKind.i64 0, Value.int IntKind.u64 0, Value.string ⟨#[]⟩] 30)).alloc (Obj.cells #[Value.slice none 0 0] 40)).alloc (Obj.cells #[Value.string b] 9)).alloc (Obj.cells #[Value.int IntKind.u64 0] 28)).alloc (Obj.cells #[Value.int IntKind.u64 16] 28)).alloc (Obj.cells #[Value.int IntKind.i64 (n : Int)] 3))
      exact h
    · have h := ((((((((Boxed.new (w.alloc (Obj.cells #[Value.string b] 9)) 9 (.string names)).alloc (Obj.cells #[Value.slice none 0 0] 40)).alloc (Obj.cells #[Value.int IntKind.i64 0, Value.int IntKind.u64 0, Value.string ⟨#[]⟩] 30)).alloc (Obj.cells #[Value.slice none 0 0] 40)).alloc (Obj.cells #[Value.string b] 9)).alloc (Obj.cells #[Value.int IntKind.u64 0] 28)).alloc (Obj.cells #[Value.int IntKind.u64 16] 28)).alloc (Obj.cells #[Value.int IntKind.i64 (n : Int)] 3))
      simp only [World.size_alloc] at h
      exact h
    · have h := (((((((Boxed.new ((w.alloc (Obj.cells #[Value.string b] 9)).alloc (Obj.cells #[Value.string names] 9)) 40 (.slice none 0 0)).alloc (Obj.cells #[Value.int IntKind.i64 0, Value.int IntKind.u64 0, Value.string ⟨#[]⟩] 30)).alloc (Obj.cells #[Value.slice none 0 0] 40)).alloc (Obj.cells #[Value.string b] 9)).alloc (Obj.cells #[Value.int IntKind.u64 0] 28)).alloc (Obj.cells #[Value.int IntKind.u64 16] 28)).alloc (Obj.cells #[Value.int IntKind.i64 (n : Int)] 3))
      simp only [World.size_alloc] at h
      exact h
    · have h := World.alloc_heap_new (((w.alloc (Obj.cells #[Value.string b] 9)).alloc (Obj.cells #[Value.string names] 9)).alloc (Obj.cells #[Value.slice none 0 0] 40)) (Obj.cells #[Value.int IntKind.i64 0, Value.int IntKind.u64 0, Value.string ⟨#[]⟩] 30)
      simp only [World.size_alloc] at h
      exact ((Below.heap_alloc _ _ _ (by simp)).trans ((Below.heap_alloc _ _ _ (by simp)).trans ((Below.heap_alloc _ _ _ (by simp)).trans ((Below.heap_alloc _ _ _ (by simp)).trans ((Below.heap_alloc _ _ _ (by simp)).trans h)))))
    · exact (((((((((Below.refl _ w).alloc (Nat.le_refl _) _).alloc (by simp) _).alloc (by simp; omega) _).alloc (by simp; omega) _).alloc (by simp; omega) _).alloc (by simp; omega) _).alloc (by simp; omega) _).alloc (by simp; omega) _).alloc (by simp; omega) _
    · have h := (((Boxed.new ((((((w.alloc (Obj.cells #[Value.string b] 9)).alloc (Obj.cells #[Value.string names] 9)).alloc (Obj.cells #[Value.slice none 0 0] 40)).alloc (Obj.cells #[Value.int IntKind.i64 0, Value.int IntKind.u64 0, Value.string ⟨#[]⟩] 30)).alloc (Obj.cells #[Value.slice none 0 0] 40)).alloc (Obj.cells #[Value.string b] 9)) 28 (.int .u64 0)).alloc (Obj.cells #[Value.int IntKind.u64 16] 28)).alloc (Obj.cells #[Value.int IntKind.i64 (n : Int)] 3))
      simp only [World.size_alloc] at h
      exact h
    · have h := (Boxed.new ((((((((w.alloc (Obj.cells #[Value.string b] 9)).alloc (Obj.cells #[Value.string names] 9)).alloc (Obj.cells #[Value.slice none 0 0] 40)).alloc (Obj.cells #[Value.int IntKind.i64 0, Value.int IntKind.u64 0, Value.string ⟨#[]⟩] 30)).alloc (Obj.cells #[Value.slice none 0 0] 40)).alloc (Obj.cells #[Value.string b] 9)).alloc (Obj.cells #[Value.int IntKind.u64 0] 28)).alloc (Obj.cells #[Value.int IntKind.u64 16] 28)) 3 (.int .i64 (n : Int)))
      simp only [World.size_alloc] at h
      exact h
  obtain ⟨W0, hW0, hsz, hI0, bA, bC⟩ := hW
  rw [hW0]
  clear hW0
  refine wpIn_rangeFunc_ownH rfl (by omega) (gf := 36) (lb := #[.pointer (some ⟨w.heap.size + 1 + 1 + 1 + 1 + 1 + 1, 0, none⟩), .pointer (some ⟨w.heap.size + 1 + 1 + 1 + 1 + 1 + 1 + 1 + 1, 0, none⟩), .pointer (some ⟨w.heap.size + 1 + 1 + 1 + 1 + 1, 0, none⟩), .pointer (some ⟨w.heap.size + 1 + 1 + 1 + 1 + 1 + 1 + 1, 0, none⟩)]) rfl trivial (enters_of Try.func36 (by kernel_rfl) rfl)
    (chain_stops 5 (by omega) (w.heap.size + 1 + 1 + 1 + 1 + 1 + 1) (w.heap.size + 1 + 1 + 1 + 1 + 1 + 1 + 1 + 1) (w.heap.size + 1 + 1 + 1 + 1 + 1) (w.heap.size + 1 + 1 + 1 + 1 + 1 + 1 + 1) b 16 n 0 (by omega) (by omega) hb (by omega) (by omega) W0 bA.cell bC.cell hI0.2.1.1.1.cell hI0.2.1.1.2.cell) KZ.trans
    (fun W l o o' hl h hc hw => by
      have hB := belowK_b (n₀ := w.heap.size + 9) (w := W0) (by omega) W l o o' hl h hc hw
      exact ⟨hB.block _ (by omega), hB.block _ (by omega)⟩) (Below.refl _ _) (fun _ => rfl)
    (fun pre W => NI w b names (runO b names [] (pre.map Ent.pl)) W)
    (fun c pre W => c = .ret ∧ NX w (runO b names [] (pre.map Ent.pl)) W)
    (NI_own w b names _ _ (by omega)) (fun c => OwnFrom.and (ownFrom_pure _ _) (NX_own w _ _ (by omega)))
    hI0
    (fun x a' W => a' = { tmps := #[.string b, .string names, .int .i64 (n : Int), .pointer (some ⟨w.heap.size, 0, none⟩), .pointer (some ⟨w.heap.size + 1, 0, none⟩), undef, .pointer (some ⟨w.heap.size + 1 + 1, 0, none⟩), .pointer (some ⟨w.heap.size + 1 + 1 + 1, 0, none⟩), .pointer (some ⟨w.heap.size + 1 + 1 + 1 + 1, 0, none⟩), .int .u64 (x.p : Int), .string x.e, undef, undef, undef, undef, undef, undef, undef, undef, .int .i64 (n : Int), .bool false, .bool false, .int .i64 (n : Int), .bool false, .bool false, undef, .string b, .int .i64 (n : Int), .func (.func 36) #[] #[.pointer (some ⟨w.heap.size + 1 + 1 + 1 + 1 + 1 + 1, 0, none⟩), .pointer (some ⟨w.heap.size + 1 + 1 + 1 + 1 + 1 + 1 + 1 + 1, 0, none⟩), .pointer (some ⟨w.heap.size + 1 + 1 + 1 + 1 + 1, 0, none⟩), .pointer (some ⟨w.heap.size + 1 + 1 + 1 + 1 + 1 + 1 + 1, 0, none⟩)], .int .u64 (x.p : Int), .string x.e, undef, undef, undef, undef, undef, undef, undef, undef, undef, undef, undef, undef, undef, undef, undef, undef, undef, undef, undef, undef, undef, undef, undef, undef, undef, undef, undef, undef, undef, undef, undef, undef, undef, undef, undef, undef, undef, undef, undef, undef, undef, undef, undef, undef, undef, undef, undef, undef, undef, undef, undef, undef, undef], defers := [] })
    (fun x a' _ X Y row hs hg hr => hs)
    ?assign ?body ?done ?stop
  case assign =>
    rintro l pre ⟨xp, xe, hxp, hxe⟩ W K hI hK
    gi_wp2
    exact hK _ _ (KeepsFrom.refl _ _) (KZ.refl _ _ _) hI rfl
  case body =>
    rintro l pre ⟨xp, xe, hxp, hxe⟩ a' W hl ⟨r, hr⟩ hI rfl hlt
    obtain ⟨⟨v, bv, hrow, _⟩, ⟨⟨bS, bZ⟩, ⟨bB, bN⟩, bR, bF⟩, hok, hB⟩ := hI
    obtain ⟨ro, hro⟩ : ∃ ro, runO b names [] (pre.map Ent.pl) = ro := ⟨_, rfl⟩
    rw [hro] at hrow hok
    cases ro with
    | error cp => obtain ⟨c, p⟩ := cp; exact False.elim hok
    | ok acc =>
    change W.ownsRow w.heap.size 48 4 v acc.length (ndC acc) at hrow
    change acc.length ≤ 64 at hok
    have HRO : Hid (∀ x, runO b names [] (List.map Ent.pl (pre ++ [x])) = stepO b names acc x.pl) := fun x => by
      rw [List.map_append]
      show runO b names [] (List.map Ent.pl pre ++ [x.pl]) = _
      rw [runO_snoc, hro]
    clear hro
    obtain ⟨sc, hsc⟩ : ∃ sc, fileF b names xe xp = sc := ⟨_, rfl⟩
    have SY : ∀ X : World, Calls Try.prog 27 #[.string b, .string names, .int .u64 (xp : Int), .string xe] X fun r w' => r = .returned (.tuple #[.string sc.1, .int .i64 sc.2]) ∧ ∃ q, w' = X.drewN q := by
      intro X
      have := file_any b names xe xp X hb hnm hxp hxe
      rw [hsc] at this
      exact this
    have HSC : Hid (fileF b names xe xp = sc) := hsc
    clear hsc
    obtain ⟨fl, c⟩ := sc
    have cB := bB.cell
    have hBl := bB.lt
    have cN := bN.cell
    have hNl := bN.lt
    have f27 : Fence.wide.fn 27 := trivial
    have f23 : Fence.wide.fn 23 := trivial
    have f28 : Fence.wide.fn 28 := trivial
    have f21 : Fence.wide.fn 21 := trivial
    by_cases hc : c = 0
    · subst hc
      have hxe16 : xe.size = 16 := by
        rcases hxe with h | h
        · exfalso
          have hh := HSC.out
          unfold fileF at hh
          rw [if_pos h] at hh
          cases hh
        · exact h
      have z8 : (xe.extract 8 12).size ≤ maxLen := by unfold maxLen; simp; omega
      have z2 : (xe.extract 2 4).size ≤ maxLen := by unfold maxLen; simp; omega
      have G8 := fun W => get_any (xe.extract 8 12) W z8
      have G2 := fun W => get_any (xe.extract 2 4) W z2
      obtain ⟨q8, hq8, hq84⟩ : ∃ q : Nat, num (xe.extract 8 12) = (q : Int) ∧ q < 4294967296 := ⟨(num (xe.extract 8 12)).toNat, by have := (num_bounds (xe.extract 8 12)).1; omega, num_lt4 _ (by simp; omega)⟩
      obtain ⟨q2, hq2, hq24⟩ : ∃ q : Nat, num (xe.extract 2 4) = (q : Int) ∧ q < 65536 := ⟨(num (xe.extract 2 4)).toNat, by have := (num_bounds (xe.extract 2 4)).1; omega, num_lt2 _ (by simp; omega)⟩
      rw [hq8] at G8
      rw [hq2] at G2
      gi_wp2_with (first
        | (gi_at_call 27; refine (CallsIn.inRound l (callsIn_wide.2 (SY _))).mono ?_; rintro e W1 ⟨rfl, hW1⟩; have HW1 : Hid (_) := hW1; clear hW1))
      have f28' : (Fence.wide.inRound l).fn 28 := trivial
      refine round_region (by kernel_rfl) (by kernel_rfl) (by kernel_rfl) ?_
      repeat (gi_big_quiet_step (first | (gi_at_call 28; first | with_reducible exact CallsIn.quiet_of_same (CallsIn.inRound l (callsIn_wide.2 (G8 _))) | with_reducible exact CallsIn.quiet_of_same (CallsIn.inRound l (callsIn_wide.2 (G2 _))))))
      refine wpQuietIn_nil ?_
      intro _ hw'
      obtain ⟨nq, hw''⟩ := hw'
      subst hw''
      obtain ⟨q0, rfl⟩ := HW1.out
      have hFs : (W.drewN q0).heap.size = W.heap.size := rfl
      obtain ⟨Wb, hWb⟩ : ∃ Wb, ((W.drewN q0).alloc (Obj.cells #[Value.string fl] 9)).drewN nq = Wb := ⟨_, rfl⟩
      have kb : ∀ B t u, Boxed W B t u → Boxed Wb B t u := fun _ _ _ h => by rw [← hWb]; exact h.alloc _
      have bBb := kb _ _ _ bB
      have NBb : Hid (NB w b names Wb) := ⟨⟨kb _ _ _ bS, kb _ _ _ bZ⟩, ⟨kb _ _ _ bB, kb _ _ _ bN⟩, kb _ _ _ bR, by rw [← hWb]; exact (Below.heap_alloc W _ _ (Array.getElem?_eq_some_iff.1 bF).1).trans bF⟩
      have BFb : Hid (Boxed Wb W.heap.size 9 (.string fl)) := by show Boxed _ _ _ _; rw [← hWb]; exact Boxed.new W 9 (.string fl)
      have BVb : Hid (Boxed Wb (w.heap.size + 1 + 1 + 1 + 1) 40 v ∧ Wb.ownsRow w.heap.size 48 4 v acc.length (ndC acc) ∧ True) := ⟨kb _ _ _ bv, by rw [← hWb]; exact hrow.alloc _, trivial⟩
      have hsb : Wb.heap.size = W.heap.size + 1 := by rw [← hWb]; exact World.size_alloc W _
      have hBb : Below w.heap.size w Wb := by rw [← hWb]; exact below_drewN ((below_drewN hB q0).alloc hB.size _) nq
      have HBb : Hid (Below w.heap.size w Wb) := hBb
      have KFb : Hid (KeepsFrom W0.heap.size W Wb) := by
        show KeepsFrom _ _ _
        rw [← hWb]
        exact (((keepsOthers_drewN W q0).trans (KeepsOthers.alloc _ _)).trans (keepsOthers_drewN _ nq)).from _
      have HLb : Hid (Wb.heap[l]? = some (.loop r)) := by
        show _ = _
        rw [← hWb]
        exact (Below.heap_alloc W _ _ (Array.getElem?_eq_some_iff.1 hr).1).trans hr
      have HKZ : Hid ((Boxed W (w.heap.size + 1 + 1 + 1 + 1 + 1) 9 (.string b) ∧ Boxed W (w.heap.size + 1 + 1 + 1 + 1 + 1 + 1 + 1) 28 (.int .u64 16))) := ⟨bS, bZ⟩
      have hWs := hB.size
      have hWn := bv.lt
      rw [hWb]
      have cBb := bBb.cell
      have lBb := bBb.lt
      clear hWb kb bBb bS bZ bB bN bR bF bv hrow hB hr HW1 cB cN hBl hNl hBb
      gi_wp2_with (first
        | (gi_at_call 21; refine (CallsIn.inRound l (chain_in Fence.wide _ trivial rfl _ _ _ _ _)).mono ?_; rintro e w' ⟨rfl, rfl⟩))
      have hin : xp + q8 + 16 ≤ b.size := by
        have hh := HSC.out
        unfold fileF at hh
        rw [if_neg (by omega), hq8, Int.toNat_natCast] at hh
        by_cases h : b.size < xp + q8 + 16
        · rw [if_pos h] at hh; cases hh
        · omega
      obtain ⟨Wi, hWi⟩ : ∃ Wi, (((Wb.alloc (Obj.cells #[Value.string b] 9)).alloc (Obj.cells #[Value.int IntKind.u64 ((xp : Int) + (q8 : Int))] 28)).alloc (Obj.cells #[Value.int IntKind.u64 16] 28)).alloc (Obj.cells #[Value.int IntKind.i64 (q2 : Int)] 3) = Wi := ⟨_, rfl⟩
      have hsi : Wi.heap.size = Wb.heap.size + 4 := by rw [← hWi]; simp
      have ki : ∀ B t u, Boxed Wb B t u → Boxed Wi B t u := fun _ _ _ h => by rw [← hWi]; exact (((h.alloc _).alloc _).alloc _).alloc _
      have bZi : Boxed Wi Wb.heap.size 9 (.string b) := by rw [← hWi]; exact (((Boxed.new Wb 9 (.string b)).alloc _).alloc _).alloc _
      have bAi : Boxed Wi (Wb.heap.size + 1) 28 (.int .u64 ((xp + q8 : Nat) : Int)) := by
        rw [← hWi]
        have h := ((Boxed.new (Wb.alloc (Obj.cells #[Value.string b] 9)) 28 (.int .u64 ((xp : Int) + (q8 : Int)))).alloc (Obj.cells #[Value.int IntKind.u64 16] 28)).alloc (Obj.cells #[Value.int IntKind.i64 (q2 : Int)] 3)
        rw [World.size_alloc] at h
        rw [show ((xp + q8 : Nat) : Int) = (xp : Int) + (q8 : Int) by omega]
        exact h
      have bSi : Boxed Wi (Wb.heap.size + 1 + 1) 28 (.int .u64 16) := by
        rw [← hWi]
        have h := (Boxed.new ((Wb.alloc (Obj.cells #[Value.string b] 9)).alloc (Obj.cells #[Value.int IntKind.u64 ((xp : Int) + (q8 : Int))] 28)) 28 (.int .u64 16)).alloc (Obj.cells #[Value.int IntKind.i64 (q2 : Int)] 3)
        simp only [World.size_alloc] at h
        exact h
      have bCi : Boxed Wi (Wb.heap.size + 1 + 1 + 1) 3 (.int .i64 (q2 : Int)) := by
        rw [← hWi]
        have h := Boxed.new (((Wb.alloc (Obj.cells #[Value.string b] 9)).alloc (Obj.cells #[Value.int IntKind.u64 ((xp : Int) + (q8 : Int))] 28)).alloc (Obj.cells #[Value.int IntKind.u64 16] 28)) 3 (.int .i64 (q2 : Int))
        simp only [World.size_alloc] at h
        exact h
      have hlb : ∀ k o, Wb.heap[k]? = some o → Wi.heap[k]? = some o := fun k o h => by
        have e := (Array.getElem?_eq_some_iff.1 h).1
        rw [← hWi]
        exact (Below.heap_alloc _ _ _ (by simp; omega)).trans ((Below.heap_alloc _ _ _ (by simp; omega)).trans ((Below.heap_alloc _ _ _ (by simp; omega)).trans ((Below.heap_alloc _ _ _ e).trans h)))
      have NBi : NB w b names Wi := by
        obtain ⟨⟨a1, a2⟩, ⟨a3, a4⟩, a5, a6⟩ := NBb.out
        exact ⟨⟨ki _ _ _ a1, ki _ _ _ a2⟩, ⟨ki _ _ _ a3, ki _ _ _ a4⟩, ki _ _ _ a5, hlb _ _ a6⟩
      have hBi : Below w.heap.size w Wi := by
        rw [← hWi]
        have s0 := HBb.out.size
        exact (((HBb.out.alloc s0 _).alloc (by simp; omega) _).alloc (by simp; omega) _).alloc (by simp; omega) _
      have KFi : KeepsFrom W0.heap.size W Wi := by
        rw [← hWi]
        exact KFb.out.trans ((((((KeepsOthers.alloc _ _).trans (KeepsOthers.alloc _ _)).trans (KeepsOthers.alloc _ _)).trans (KeepsOthers.alloc _ _))).from _)
      have NIi : NI w b names (runI names fl acc ([] : List Pt)) Wi := ⟨⟨v, ki _ _ _ BVb.out.1, by rw [← hWi]; exact (((BVb.out.2.1.alloc _).alloc _).alloc _).alloc _, trivial⟩, NBi, hok, hBi⟩
      have hli : Wi.heap[l]? = some (.loop r) := hlb _ _ HLb.out
      have hWi0 : W0.heap.size ≤ Wi.heap.size := Nat.le_of_lt (Nat.lt_of_le_of_lt hl (Array.getElem?_eq_some_iff.1 hli).1)
      rw [hsb] at bZi bAi bSi bCi
      rw [hWi]
      clear hWi
      refine wpIn_rangeFunc_ownN (l₀ := l) rfl hli (by omega) (gf := 36) (lb := #[.pointer (some ⟨(W.heap.size + 1) + 1, 0, none⟩), .pointer (some ⟨(W.heap.size + 1) + 1 + 1 + 1, 0, none⟩), .pointer (some ⟨(W.heap.size + 1), 0, none⟩), .pointer (some ⟨(W.heap.size + 1) + 1 + 1, 0, none⟩)]) rfl trivial (enters_of Try.func36 (by kernel_rfl) rfl)
        (SeqStopsK.inRound l (chain_stops 3 (by omega) ((W.heap.size + 1) + 1) ((W.heap.size + 1) + 1 + 1 + 1) (W.heap.size + 1) ((W.heap.size + 1) + 1 + 1) b 16 q2 (xp + q8) (by omega) (by omega) hb (by omega) (by omega) Wi bAi.cell bCi.cell bZi.cell bSi.cell)) KZ.trans
        (fun X k o o' hk h hc hw => by
          have hB := belowK_b (n₀ := W.heap.size + 5) (w := Wi) (by omega) X k o o' hk h hc hw
          exact ⟨hB.block _ (by omega), hB.block _ (by omega)⟩) (Below.refl _ _) (fun _ => rfl)
        (fun pr X => NI w b names (runI names fl acc (pr.map Ent.pl)) X ∧ (Boxed X W.heap.size 9 (.string fl) ∧ Boxed X (W.heap.size + 1) 9 (.string b) ∧ Boxed X ((W.heap.size + 1) + 1 + 1) 28 (.int .u64 16)) ∧ KeepsFrom W0.heap.size W X)
        (fun c pr X => c = .ret ∧ NX w (runI names fl acc (pr.map Ent.pl)) X ∧ KeepsFrom W0.heap.size W X)
        (OwnFrom.and (NI_own w b names _ _ (by omega)) (OwnFrom.and (OwnFrom.and (Own.from (boxed_own _ _ _) _) (OwnFrom.and (Own.from (boxed_own _ _ _) _) (Own.from (boxed_own _ _ _) _))) (ownFrom_keepsFrom (by omega))))
        (fun c => OwnFrom.and (ownFrom_pure _ _) (OwnFrom.and (NX_own w _ _ (by omega)) (ownFrom_keepsFrom (by omega))))
        ⟨NIi, ⟨ki _ _ _ BFb.out, bZi, bSi⟩, KFi⟩
        (fun x a' X => a' = { tmps := #[.string b, .string names, .int .i64 (n : Int), .pointer (some ⟨w.heap.size, 0, none⟩), .pointer (some ⟨w.heap.size + 1, 0, none⟩), undef, .pointer (some ⟨w.heap.size + 1 + 1, 0, none⟩), .pointer (some ⟨w.heap.size + 1 + 1 + 1, 0, none⟩), .pointer (some ⟨w.heap.size + 1 + 1 + 1 + 1, 0, none⟩), .int .u64 (xp : Int), .string xe, .pointer (some ⟨W.heap.size, 0, none⟩), .int .i64 0, .int .u64 ((xp : Int) + (q8 : Int)), .int .i64 (q2 : Int), .int .u64 (x.p : Int), .string x.e, undef, undef, .int .i64 (n : Int), .bool false, .bool false, .int .i64 (n : Int), .bool false, .bool false, undef, .string b, .int .i64 (n : Int), .func (.func 36) #[] #[.pointer (some ⟨w.heap.size + 1 + 1 + 1 + 1 + 1 + 1, 0, none⟩), .pointer (some ⟨w.heap.size + 1 + 1 + 1 + 1 + 1 + 1 + 1 + 1, 0, none⟩), .pointer (some ⟨w.heap.size + 1 + 1 + 1 + 1 + 1, 0, none⟩), .pointer (some ⟨w.heap.size + 1 + 1 + 1 + 1 + 1 + 1 + 1, 0, none⟩)], .int .u64 (xp : Int), .string xe, .tuple #[.string fl, .int .i64 0], .string b, .string names, .int .u64 (xp : Int), .string xe, .tuple #[.string fl, .int .i64 0], .string fl, .int .i64 0, .int .i64 0, .bool false, undef, undef, undef, .int .u64 (xp : Int), .string xe, .string (xe.extract 8 12), .int .u64 (q8 : Int), .int .u64 ((xp : Int) + (q8 : Int)), .string xe, .string (xe.extract 2 4), .int .u64 (q2 : Int), .int .i64 (q2 : Int), .string b, .int .u64 ((xp : Int) + (q8 : Int)), .int .i64 (q2 : Int), .func (.func 36) #[] #[.pointer (some ⟨(W.heap.size + 1) + 1, 0, none⟩), .pointer (some ⟨(W.heap.size + 1) + 1 + 1 + 1, 0, none⟩), .pointer (some ⟨(W.heap.size + 1), 0, none⟩), .pointer (some ⟨(W.heap.size + 1) + 1 + 1, 0, none⟩)], .int .u64 (x.p : Int), .string x.e, undef, undef, undef, undef, undef, undef, undef, undef, undef, undef, undef, undef, undef, undef, undef, undef, undef, undef, undef, undef, undef, undef, undef, undef, undef], defers := [] })
        (fun x a' _ X Y row hs hg hr => hs)
        ?assign2 ?body2 ?done2 ?stop2
      case assign2 =>
        rintro l2 pr ⟨yp, ye, hyp, hye⟩ X K hI hK
        gi_wp2
        exact hK _ _ (KeepsFrom.refl _ _) (KZ.refl _ _ _) hI rfl
      case body2 =>
        rintro l2 pr ⟨yp, ye, hyp, hye⟩ a' X hl2 ⟨r2, hr2⟩ ⟨hNI, hBX, hKF⟩ rfl hlt2
        rw [show (Fence.wide.inRound l).inRound l2 = Fence.wide.inRound l2 from rfl]
        obtain ⟨⟨v2, bv2, hrow2, _⟩, hNB2, hok2, hB2⟩ := hNI
        obtain ⟨ri, hri⟩ : ∃ ri, runI names fl acc (pr.map Ent.pl) = ri := ⟨_, rfl⟩
        rw [hri] at hrow2 hok2
        cases ri with
        | error cp => obtain ⟨c, p⟩ := cp; exact False.elim hok2
        | ok acc2 =>
        change X.ownsRow w.heap.size 48 4 v2 acc2.length (ndC acc2) at hrow2
        change acc2.length ≤ 64 at hok2
        have HRI : Hid (runI names fl acc (List.map Ent.pl (pr ++ [⟨yp, ye, hyp, hye⟩])) = stepI names fl acc2 (yp, ye)) := by
          show _ = _
          rw [List.map_append]
          show runI names fl acc (List.map Ent.pl pr ++ [(yp, ye)]) = _
          rw [runI_snoc, hri]
        clear hri
        obtain ⟨sn, hsn⟩ : ∃ sn, needF names fl ye = sn := ⟨_, rfl⟩
        have SN : ∀ Z : World, Calls Try.prog 29 #[.string names, .string fl, .string ye] Z fun r w' => r = .returned (.tuple #[sn.1.val, .int .i64 sn.2]) ∧ ∃ o q, w' = (Z.alloc o).drewN q := by
          intro Z
          have := need_any names fl ye Z hnm hye
          rw [hsn] at this
          exact this
        have HSN : Hid (needF names fl ye = sn) := hsn
        clear hsn
        obtain ⟨⟨nn, nf, nm, nw⟩, c2⟩ := sn
        dsimp only at SN
        have cN2 := hNB2.2.1.2.cell
        have cF2 := hBX.1.cell
        have lN2 := hNB2.2.1.2.lt
        have lF2 := hBX.1.lt
        have HNB2 : Hid (NB w b names X) := hNB2
        have HB2 : Hid (Below w.heap.size w X) := hB2
        have HKF : Hid (KeepsFrom W0.heap.size W X) := hKF
        have HBX : Hid (Boxed X W.heap.size 9 (.string fl) ∧ Boxed X (W.heap.size + 1) 9 (.string b) ∧ Boxed X (W.heap.size + 1 + 1 + 1) 28 (.int .u64 16)) := hBX
        have HV2 : Hid (Boxed X (w.heap.size + 1 + 1 + 1 + 1) 40 v2 ∧ X.ownsRow w.heap.size 48 4 v2 acc2.length (ndC acc2)) := ⟨bv2, hrow2⟩
        have HW2 : Hid (∀ W2 : World, (∃ o q, W2 = (X.alloc o).drewN q) → Below X.heap.size X W2 ∧ KeepsOthers X W2) := fun W2 h => by
          obtain ⟨o, q, rfl⟩ := h
          exact ⟨below_drewN ((Below.refl _ X).alloc (Nat.le_refl _) o) q, (KeepsOthers.alloc X o).trans (keepsOthers_drewN _ q)⟩
        have HFA : Hid (∀ W2 : World, (∃ o q, W2 = (X.alloc o).drewN q) → _) := fun W2 h => nb_facts hNB2 (HW2.out W2 h).1
        have hB2s := hB2.size
        clear hNB2 hB2 hKF hBX bv2 hrow2
        have f29 : Fence.wide.fn 29 := trivial
        by_cases hc2 : c2 = 0
        · subst hc2
          by_cases h64 : acc2.length = 64
          · have hr64 := HV2.out.2
            rw [h64] at hr64
            obtain ⟨g, cap, rfl⟩ := ownsRow_succ hr64
            have HVC : Hid (∀ W2 : World, (∃ o q, W2 = (X.alloc o).drewN q) → W2.cell? ⟨w.heap.size + 1 + 1 + 1 + 1, 0, none⟩ = some (.slice (some ⟨g, 0, none⟩) 64 cap) ∧ w.heap.size + 1 + 1 + 1 + 1 < W2.heap.size) := fun W2 h => by
              have e : Boxed W2 (w.heap.size + 1 + 1 + 1 + 1) 40 (.slice (some ⟨g, 0, none⟩) 64 cap) := ((HW2.out W2 h).1.block _ HV2.out.1.lt).trans HV2.out.1
              exact ⟨e.cell, e.lt⟩
            clear hr64
            gi_wp2_with (first
              | (gi_at_call 29; refine (CallsIn.inRound l2 (callsIn_wide.2 (SN _))).mono ?_; rintro e W2 ⟨rfl, hW2⟩; have HW3 : Hid (_) := HW2.out W2 hW2; have HF3 := HFA.out W2 hW2; obtain ⟨⟨cR, fR, lR⟩, ⟨cE0, cE1, cE2⟩, fE0, fE1, fE2, lE⟩ := HF3; have lR' : w.heap.size + 1 < W2.heap.size := Nat.lt_of_succ_lt lR; obtain ⟨cV, lV⟩ := HVC.out W2 hW2; clear hW2)
              | (gi_at_call 23; refine (CallsIn.inRound l2 (callsIn_wide.2 (fat_any _ _ _))).mono ?_; rintro e w' ⟨rfl, rfl⟩))
            obtain ⟨k1, k2, k3, k4⟩ := err_close (B0 := W0.heap.size) 6 yp HNB2.out HB2.out HW3.out.1 HW3.out.2 rfl
            refine ⟨keeps_mono k1 hWi0, rfl, ⟨6, yp, ?_, k2, k3, k4⟩, HKF.out.trans k1⟩
            rw [HRI.out]
            unfold stepI
            rw [HSN.out, if_neg (fun h => h rfl), if_pos h64]
          · obtain ⟨vb, vn, vc, rfl⟩ := ownsRow_slice HV2.out.2
            have hvn : acc2.length = vn := (slice_len HV2.out.2).symm
            have hvz : acc2.length < 64 := by omega
            have hne : ((vn : Int) == 64) = false := by simp; omega
            obtain ⟨i0, hi0, hz0, hz1, hz2⟩ := info_parts Try.info48
            have HVC : Hid (∀ W2 : World, (∃ o q, W2 = (X.alloc o).drewN q) → W2.cell? ⟨w.heap.size + 1 + 1 + 1 + 1, 0, none⟩ = some (.slice vb vn vc) ∧ w.heap.size + 1 + 1 + 1 + 1 < W2.heap.size) := fun W2 h => by
              have e : Boxed W2 (w.heap.size + 1 + 1 + 1 + 1) 40 (.slice vb vn vc) := ((HW2.out W2 h).1.block _ HV2.out.1.lt).trans HV2.out.1
              exact ⟨e.cell, e.lt⟩
            have HRW : Hid (∀ W2 : World, (∃ o q, W2 = (X.alloc o).drewN q) → W2.ownsRow w.heap.size 48 4 (.slice vb vn vc) acc2.length (ndC acc2)) := fun W2 h => by
              obtain ⟨o, q, rfl⟩ := h
              exact HV2.out.2.alloc o
            have HNW : Hid (∀ W2 : World, ∀ (j : Nat) (u : Value), [Value.int .i64 nn, Value.string nf, Value.string nm, Value.bool nw][j]? = some u → ((W2.alloc (Obj.cells #[Value.int .i64 nn, Value.string nf, Value.string nm, Value.bool nw] 48)).alloc (Obj.cells #[Value.int .i64 nn, Value.string nf, Value.string nm, Value.bool nw] 48)).cell? ((⟨W2.heap.size + 1, 0, none⟩ : Addr).add j) = some u) := fun W2 => nd_new W2 ⟨nn, nf, nm, nw⟩
            have oc : ∀ u ∈ [Value.int .i64 nn, Value.string nf, Value.string nm, Value.bool nw], u.oneCell' = true := nd_one ⟨nn, nf, nm, nw⟩
            have HRX : Hid (∀ W2 : World, (∃ o q, W2 = (X.alloc o).drewN q) → ((W2.alloc (Obj.cells #[Value.int .i64 nn, Value.string nf, Value.string nm, Value.bool nw] 48)).alloc (Obj.cells #[Value.int .i64 nn, Value.string nf, Value.string nm, Value.bool nw] 48)).ownsRow w.heap.size 48 4 (.slice vb vn vc) acc2.length (ndC acc2)) := fun W2 h => ((HRW.out W2 h).alloc _).alloc _
            have HSX : Hid (∀ W2 : World, (∃ o q, W2 = (X.alloc o).drewN q) → w.heap.size ≤ ((W2.alloc (Obj.cells #[Value.int .i64 nn, Value.string nf, Value.string nm, Value.bool nw] 48)).alloc (Obj.cells #[Value.int .i64 nn, Value.string nf, Value.string nm, Value.bool nw] 48)).heap.size) := fun W2 h => by
              have := (HW2.out W2 h).1.size
              simp
              omega
            have m1 : acc2.length + 1 ≤ maxLen := by unfold maxLen; omega
            have m2 : (acc2.length + 1) * 48 ≤ 140737488355328 := by omega
            have HVN : Hid (acc2.length = vn) := hvn
            have HH64 : Hid (¬ acc2.length = 64) := h64
            have hXs : w.heap.size ≤ X.heap.size := hB2s
            clear hvn h64 hvz
            gi_wp2_with (first
              | (gi_at_call 29; refine (CallsIn.inRound l2 (callsIn_wide.2 (SN _))).mono ?_; rintro e W2 ⟨rfl, hW2⟩; have HW3 : Hid (_) := HW2.out W2 hW2; obtain ⟨cV, lV⟩ := HVC.out W2 hW2; have HR3 : Hid (_) := HRW.out W2 hW2; have hn1 := HNW.out W2; have b3 := HSX.out W2 hW2; have HR4 : Hid (_) := HRX.out W2 hW2; clear hW2)
              | (gi_at_builtin; refine wpListIn_append_own _ rfl _ _ 40 rfl w.heap.size 48 i0 _ 4 48 Try.underlying40 hi0 hz0 hz1 hz2 rfl (by decide) _ _ _ rfl HR4.out ⟨W2.heap.size + 1, 0, none⟩ 1 1 [Value.int .i64 nn, Value.string nf, Value.string nm, Value.bool nw] rfl rfl hn1 oc m1 m2 b3 ?_; intro v' w1 hown' hgrow _; obtain ⟨g', cap', rfl⟩ := ownsRow_succ hown'; have HAC : Hid (_) := app_close (B0 := W0.heap.size) HNB2.out HB2.out HW3.out.1 HW3.out.2 HV2.out.1 HR3.out hown' hgrow; have hc1 := HAC.out.1.cell; have hf1 := HAC.out.1.frozen; have hl1 := HAC.out.1.lt))
            obtain ⟨_, ⟨a2, a3⟩, a4, keep, a5, a6⟩ := HAC.out
            have hst : runI names fl acc (List.map Ent.pl (pr ++ [⟨yp, ye, hyp, hye⟩])) = .ok (acc2 ++ [⟨nn, nf, nm, nw⟩]) := by
              rw [HRI.out]
              unfold stepI
              rw [HSN.out, if_neg (fun h => h rfl), if_neg HH64.out]
            have lb1 := HBX.out.1.lt
            have nb4 := HV2.out.1
            have kF := keep _ _ _ HBX.out.1 (by decide) ?n1
            have kZ := keep _ _ _ HBX.out.2.1 (by decide) ?n2
            have kS := keep _ _ _ HBX.out.2.2 (by decide) ?n3
            refine ⟨keeps_mono a5 hWi0, ⟨kZ.trans HBX.out.2.1.symm, kS.trans HBX.out.2.2.symm⟩, ?_, ⟨kF, kZ, kS⟩, HKF.out.trans a5⟩
            · show NI w b names (runI names fl acc (List.map Ent.pl (pr ++ [⟨yp, ye, hyp, hye⟩]))) _
              rw [hst]
              refine ⟨⟨_, a2, ?_, trivial⟩, a4, ?_, a6⟩
              · show World.ownsRow _ _ _ _ _ (acc2 ++ [(⟨nn, nf, nm, nw⟩ : Nd)]).length (ndC (acc2 ++ [(⟨nn, nf, nm, nw⟩ : Nd)]))
                rw [ndC_snoc, List.length_append]
                exact a3
              · show (acc2 ++ [(⟨nn, nf, nm, nw⟩ : Nd)]).length ≤ 64
                have := HH64.out
                simp
                omega
            all_goals omega
        · have hcb : (c2 != 0) = true := by simp [hc2]
          have HC : Hid (¬ c2 = 0) := hc2
          clear hc2
          gi_wp2_with (first
            | (gi_at_call 29; refine (CallsIn.inRound l2 (callsIn_wide.2 (SN _))).mono ?_; rintro e W2 ⟨rfl, hW2⟩; have HW3 : Hid (_) := HW2.out W2 hW2; have HF3 := HFA.out W2 hW2; obtain ⟨⟨cR, fR, lR⟩, ⟨cE0, cE1, cE2⟩, fE0, fE1, fE2, lE⟩ := HF3; have lR' : w.heap.size + 1 < W2.heap.size := Nat.lt_of_succ_lt lR; clear hW2)
            | (gi_at_call 23; refine (CallsIn.inRound l2 (callsIn_wide.2 (fat_any _ _ _))).mono ?_; rintro e w' ⟨rfl, rfl⟩))
          obtain ⟨k1, k2, k3, k4⟩ := err_close (B0 := W0.heap.size) c2 yp HNB2.out HB2.out HW3.out.1 HW3.out.2 rfl
          refine ⟨keeps_mono k1 hWi0, rfl, ⟨c2, yp, ?_, k2, k3, k4⟩, HKF.out.trans k1⟩
          · rw [HRI.out]
            unfold stepI
            rw [HSN.out, if_pos HC.out]
      case done2 =>
        rintro ys X rfl ⟨hNI, _, hKF⟩
        rw [entL_pl] at hNI
        have HST : stepO b names acc (xp, xe) = runI names fl acc (ptsL b 16 q2 (xp + q8)) := by
          unfold stepO
          rw [HSC.out, if_neg (fun h => h rfl), hq2, hq8, Int.toNat_natCast, Int.toNat_natCast]
        have hkz : KZ (w.heap.size + 1 + 1 + 1 + 1 + 1) (w.heap.size + 1 + 1 + 1 + 1 + 1 + 1 + 1) W X := ⟨hNI.2.1.1.1.trans HKZ.out.1.symm, hNI.2.1.1.2.trans HKZ.out.2.symm⟩
        gi_wp2
        refine ⟨hKF, hkz, ?_⟩
        show NI w b names (runO b names [] (List.map Ent.pl (pre ++ [⟨xp, xe, hxp, hxe⟩]))) X
        rw [HRO.out]
        show NI w b names (stepO b names acc (xp, xe)) X
        rw [HST]
        exact hNI
      case stop2 =>
        rintro c pr X hSp ⟨rfl, ⟨ce, cp, hce, hx1, hx2, hx3⟩, hKF⟩
        have HST : stepO b names acc (xp, xe) = runI names fl acc (ptsL b 16 q2 (xp + q8)) := by
          unfold stepO
          rw [HSC.out, if_neg (fun h => h rfl), hq2, hq8, Int.toNat_natCast, Int.toNat_natCast]
        have hrun : runO b names [] (List.map Ent.pl (pre ++ [⟨xp, xe, hxp, hxe⟩])) = .error (ce, cp) := by
          rw [HRO.out]
          show stepO b names acc (xp, xe) = _
          rw [HST]
          obtain ⟨m, hm⟩ := hSp
          rw [← entL_pl b 16 (by omega) hb q2 (xp + q8) (by omega), ← hm, List.map_append]
          exact runI_more names fl _ ce cp _ _ hce
        gi_wp2
        exact ⟨hKF, rfl, ce, cp, hrun, hx1, hx2, hx3⟩
    · have hcb : (c != 0) = true := by simp [hc]
      have HC : Hid (¬ c = 0) := hc
      have HNB1 : Hid (NB w b names W) := ⟨⟨bS, bZ⟩, ⟨bB, bN⟩, bR, bF⟩
      have HB1 : Hid (Below w.heap.size w W) := hB
      have HW2 : Hid (∀ W2 : World, (∃ q, W2 = W.drewN q) → Below W.heap.size W W2 ∧ KeepsOthers W W2) := fun W2 h => by
        obtain ⟨q, rfl⟩ := h
        exact ⟨below_drewN (Below.refl _ W) q, keepsOthers_drewN _ q⟩
      have HFA : Hid (∀ W2 : World, (∃ q, W2 = W.drewN q) → _) := fun W2 h => nb_facts HNB1.out (HW2.out W2 h).1
      clear hc bR bF bS bZ bN bB bv hrow hB
      gi_wp2_with (first
        | (gi_at_call 27; refine (CallsIn.inRound l (callsIn_wide.2 (SY _))).mono ?_; rintro e W2 ⟨rfl, hW2⟩; have HW3 : Hid (_) := HW2.out W2 hW2; have HF3 := HFA.out W2 hW2; obtain ⟨⟨cR, fR, lR⟩, ⟨cE0, cE1, cE2⟩, fE0, fE1, fE2, lE⟩ := HF3; have lR' : w.heap.size + 1 < W2.heap.size := Nat.lt_of_succ_lt lR; clear hW2)
        | (gi_at_call 23; refine (CallsIn.inRound l (callsIn_wide.2 (fat_any _ _ _))).mono ?_; rintro e w' ⟨rfl, rfl⟩))
      obtain ⟨k1, k2, k3, k4⟩ := err_close (B0 := W0.heap.size) c xp HNB1.out HB1.out HW3.out.1 HW3.out.2 rfl
      refine ⟨k1, rfl, c, xp, ?_, k2, k3, k4⟩
      rw [HRO.out]
      show stepO b names acc (xp, xe) = _
      unfold stepO
      rw [HSC.out, if_pos HC.out]
  case done =>
    rintro D ys W hD rfl ⟨⟨v, bv, hrow, _⟩, ⟨⟨bS, bZ⟩, ⟨bB, bN⟩, bR, bF⟩, hok, hB⟩ hK
    rw [entL_pl] at hrow hok
    obtain ⟨r, hr⟩ : ∃ r, runO b names [] (ptsL b 16 n 0) = r := ⟨_, rfl⟩
    rw [hr] at hrow hok
    cases r with
    | error cp => obtain ⟨c, p⟩ := cp; exact False.elim hok
    | ok L =>
    change W.ownsRow w.heap.size 48 4 v L.length (ndC L) at hrow
    change L.length ≤ 64 at hok
    obtain ⟨vb, vn, vc, rfl⟩ := ownsRow_slice hrow
    have HR : Hid (W.ownsRow w.heap.size 48 4 (.slice vb vn vc) L.length (ndC L)) := hrow
    have HBX : Hid (Boxed W (w.heap.size + 1 + 1) 40 (.slice none 0 0) ∧ W.heap[w.heap.size + 1 + 1 + 1]? = some (.cells #[.int .i64 0, .int .u64 0, .string ⟨#[]⟩] 30 (0, 0))) := ⟨bR, bF⟩
    have cV := bv.cell
    have lV := bv.lt
    have cR := bR.cell
    have fR := bR.frozen
    have lR := bR.lt
    have cF0 : W.cell? ⟨w.heap.size + 1 + 1 + 1, 0, none⟩ = some (.int .i64 0) := by simp [World.cell?, bF]
    have cF1 : W.cell? ⟨w.heap.size + 1 + 1 + 1, 1, none⟩ = some (.int .u64 0) := by simp [World.cell?, bF]
    have cF2 : W.cell? ⟨w.heap.size + 1 + 1 + 1, 2, none⟩ = some (.string ⟨#[]⟩) := by simp [World.cell?, bF]
    have fF0 : W.frozen? ⟨w.heap.size + 1 + 1 + 1, 0, none⟩ = false := by simp [World.frozen?, bF]
    have fF1 : W.frozen? ⟨w.heap.size + 1 + 1 + 1, 1, none⟩ = false := by simp [World.frozen?, bF]
    have fF2 : W.frozen? ⟨w.heap.size + 1 + 1 + 1, 2, none⟩ = false := by simp [World.frozen?, bF]
    have lF : w.heap.size + 1 + 1 + 1 < W.heap.size := (Array.getElem?_eq_some_iff.1 bF).1
    have HB : Hid (Below w.heap.size w W) := hB
    have HO : Hid (runO b names [] (ptsL b 16 n 0) = .ok L ∧ L.length ≤ 64) := ⟨hr, hok⟩
    clear bv hrow bS bZ bN bB bR bF hB hok hr
    have HY : Hid (∃ Y : World, (((W.setCell ⟨w.heap.size + 1 + 1, 0, none⟩ (.slice vb vn vc)).setCell ⟨w.heap.size + 1 + 1 + 1, 0, none⟩ (.int .i64 0)).setCell ⟨w.heap.size + 1 + 1 + 1, 1, none⟩ (.int .u64 0)).setCell ⟨w.heap.size + 1 + 1 + 1, 2, none⟩ (.string ⟨#[]⟩) = Y ∧ Y.cell? ⟨w.heap.size + 1 + 1, 0, none⟩ = some (.slice vb vn vc) ∧ (Y.cell? ⟨w.heap.size + 1 + 1 + 1, 0, none⟩ = some (.int .i64 0) ∧ Y.cell? ⟨w.heap.size + 1 + 1 + 1, 1, none⟩ = some (.int .u64 0) ∧ Y.cell? ⟨w.heap.size + 1 + 1 + 1, 2, none⟩ = some (.string ⟨#[]⟩)) ∧ Y.heap[D]? = some (.deferred (some [])) ∧ Below w.heap.size w Y ∧ Y.ownsRow w.heap.size 48 4 (.slice vb vn vc) L.length (ndC L)) := by
      obtain ⟨bR, bF⟩ := HBX.out
      have n1 := bR.not_row (e := 48) (by decide) HR.out
      have n2 := obj_not_row (e := 48) bF (by decide) HR.out
      refine ⟨_, rfl, ?_, ?_, ?_, ?_, ?_⟩
      · have h1 := (((bR.set (.slice vb vn vc)).kept (grownBy_setAt _ (w.heap.size + 1 + 1 + 1) 0 (.int .i64 0)) (by simp)).kept (grownBy_setAt _ (w.heap.size + 1 + 1 + 1) 1 (.int .u64 0)) (by simp)).kept (grownBy_setAt _ (w.heap.size + 1 + 1 + 1) 2 (.string ⟨#[]⟩)) (by simp)
        exact h1.cell
      · have x0 : ∀ j v, W.cell? ⟨w.heap.size + 1 + 1 + 1, j, none⟩ = some v → (W.setCell ⟨w.heap.size + 1 + 1, 0, none⟩ (.slice vb vn vc)).cell? ⟨w.heap.size + 1 + 1 + 1, j, none⟩ = some v := fun j v hv => (World.cell?_of_block (a := ⟨w.heap.size + 1 + 1 + 1, j, none⟩) (Below.heap_setCell _ _ _ _ (by show w.heap.size + 1 + 1 + 1 ≠ w.heap.size + 1 + 1; omega))).trans hv
        exact set3_cells (.int .i64 0) (.int .u64 0) (.string ⟨#[]⟩) (x0 0 _ cF0) (x0 1 _ cF1) (x0 2 _ cF2)
      · rw [Below.heap_setCell _ _ _ _ (by show D ≠ w.heap.size + 1 + 1 + 1; omega), Below.heap_setCell _ _ _ _ (by show D ≠ w.heap.size + 1 + 1 + 1; omega), Below.heap_setCell _ _ _ _ (by show D ≠ w.heap.size + 1 + 1 + 1; omega), Below.heap_setCell _ _ _ _ (by show D ≠ w.heap.size + 1 + 1; omega)]
        exact hK
      · exact (((HB.out.setCell (p := ⟨w.heap.size + 1 + 1, 0, none⟩) (by show w.heap.size ≤ w.heap.size + 1 + 1; omega) (.slice vb vn vc)).setCell (p := ⟨w.heap.size + 1 + 1 + 1, 0, none⟩) (by show w.heap.size ≤ w.heap.size + 1 + 1 + 1; omega) (.int .i64 0)).setCell (p := ⟨w.heap.size + 1 + 1 + 1, 1, none⟩) (by show w.heap.size ≤ w.heap.size + 1 + 1 + 1; omega) (.int .u64 0)).setCell (p := ⟨w.heap.size + 1 + 1 + 1, 2, none⟩) (by show w.heap.size ≤ w.heap.size + 1 + 1 + 1; omega) (.string ⟨#[]⟩)
      · exact (((HR.out.kept (grownBy_setAt _ (w.heap.size + 1 + 1) 0 (.slice vb vn vc)) (.inr n1.symm)).kept (grownBy_setAt _ (w.heap.size + 1 + 1 + 1) 0 (.int .i64 0)) (.inr n2.symm)).kept (grownBy_setAt _ (w.heap.size + 1 + 1 + 1) 1 (.int .u64 0)) (.inr n2.symm)).kept (grownBy_setAt _ (w.heap.size + 1 + 1 + 1) 2 (.string ⟨#[]⟩)) (.inr n2.symm)
    gi_wp2
    obtain ⟨Y, hY, y1, ⟨y2, y3, y4⟩, y5, y6, y7⟩ := HY.out
    rw [hY]
    have hbz := belowK_b (n₀ := w.heap.size + 9) (w := W0) (by omega) Y D _ (.deferred none) hD y5 rfl rfl
    refine ⟨by simp, .inl ⟨_, _, rfl, run_takeDeferred y5, ?_⟩⟩
    refine ⟨_, results_two_cells (fn := Try.f13) rfl _ _ (w.heap.size + 1 + 1) (w.heap.size + 1 + 1 + 1) (.slice vb vn vc) [.int .i64 0, .int .u64 0, .string ⟨#[]⟩] _ rfl rfl (load_slice40 ((hbz.cell (p := ⟨w.heap.size + 1 + 1, 0, none⟩) (by show w.heap.size + 1 + 1 < _; omega)).trans y1)) (range3 ((hbz.cell (p := ⟨w.heap.size + 1 + 1 + 1, 0, none⟩) (by show w.heap.size + 1 + 1 + 1 < _; omega)).trans y2) ((hbz.cell (p := ⟨w.heap.size + 1 + 1 + 1, 1, none⟩) (by show w.heap.size + 1 + 1 + 1 < _; omega)).trans y3) ((hbz.cell (p := ⟨w.heap.size + 1 + 1 + 1, 2, none⟩) (by show w.heap.size + 1 + 1 + 1 < _; omega)).trans y4)) Try.underlying30 rfl info27, .inl ⟨L, _, HO.out.1, rfl, ?_, HO.out.2⟩, y6.trans (hbz.mono (by omega))⟩
    exact ownsRow_putObj y7 _ y5 rfl
  case stop =>
    rintro D c pre W hD hSp ⟨rfl, cc, cp, hx, bR, ⟨c0, c1, c2⟩, hB⟩ hK
    gi_wp2
    have hbz := belowK_b (n₀ := w.heap.size + 9) (w := W0) (by omega) W D _ (.deferred none) hD hK rfl rfl
    refine ⟨by simp, .inl ⟨_, _, rfl, run_takeDeferred hK, ?_⟩⟩
    refine ⟨_, results_two_cells (fn := Try.f13) rfl _ _ (w.heap.size + 1 + 1) (w.heap.size + 1 + 1 + 1) (.slice none 0 0) [.int .i64 cc, .int .u64 (cp : Int), .string ⟨#[]⟩] _ rfl rfl (load_slice40 ((hbz.cell (p := ⟨w.heap.size + 1 + 1, 0, none⟩) (by show w.heap.size + 1 + 1 < _; omega)).trans bR.cell)) (range3 ((hbz.cell (p := ⟨w.heap.size + 1 + 1 + 1, 0, none⟩) (by show w.heap.size + 1 + 1 + 1 < _; omega)).trans c0) ((hbz.cell (p := ⟨w.heap.size + 1 + 1 + 1, 1, none⟩) (by show w.heap.size + 1 + 1 + 1 < _; omega)).trans c1) ((hbz.cell (p := ⟨w.heap.size + 1 + 1 + 1, 2, none⟩) (by show w.heap.size + 1 + 1 + 1 < _; omega)).trans c2)) Try.underlying30 rfl info27, .inr ⟨cc, cp, ?_, rfl⟩, hB.trans (hbz.mono (by omega))⟩
    obtain ⟨m, hm⟩ := hSp
    rw [← entL_pl b 16 (by omega) hb n 0 (by omega), ← hm, List.map_append]
    exact runO_more b names _ cc cp _ _ hx
end Go.Proofs.Ytnlpncgblegbkaa
