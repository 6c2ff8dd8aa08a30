/-
  Layer 15: the document's Read of any bytes.
-/
import Derived.Test.YtghbkjdjginfjaaQ0
import Derived.Deep.RegionHeldLaw
import Derived.Deep.AppendLies
import Derived.Deep.QuietTactic
import Derived.BigQuiet
import Derived.Deep.DeepCutAuto
import Derived.Deep.RegionHeld3
import Derived.Test.YtghbkjdjginfjaaV1
namespace Go.Proofs.Ytghbkjdjginfjaa
open Go.RowKit
set_option linter.unusedVariables false

set_option maxRecDepth 100000 in
set_option maxHeartbeats 8000000 in
theorem rread_few (b : ByteArray) (sy : Int) (n : Nat) (w : World) (hb : b.size ≤ 140737488351232) (hbn : b.size = n * 24) (hn : n ≤ 256) : Calls Try.prog 10 #[.string b, .int .i64 sy] w (RReadPost w b sy) := by
  have h0 : ((((b.size : Nat) : Int)) % 24 != 0) = false := by simp; omega
  have h1 : ¬ (256 : Int) < ((b.size : Nat) : Int) / 24 := by omega
  have HH : Hid (b.size % 24 = 0 ∧ b.size / 24 = n) := ⟨by omega, by omega⟩
  obtain ⟨i0, hi0, hz0, hz1, hz2⟩ := info_parts Try.info27
  go_enter Try.func10, Try.ntmps10
  go_wp2
  go_loopw [7, 8] (fun s i wr => ∃ (k : Nat) (v : Value), k ≤ n ∧ i = .int .i64 ((k * 24 : Nat) : Int) ∧ s = v ∧ Hid (∀ y ∈ eachL b 24 k, (relF y.2 sy).2 = 0) ∧ Hid (wr.ownsRow w.heap.size 27 4 v k (cellsL sy (eachL b 24 k))) ∧ Hid (Below w.heap.size w wr))
    (fun _ i _ => n * 24 - (intOf i).toNat)
  case atStart => exact ⟨0, _, Nat.zero_le _, rfl, rfl, (fun y hy => by simp [eachL] at hy), World.ownsRow_nil _ _ _ _, Below.refl _ _⟩
  case round =>
    obtain ⟨k, v, hk, rfl, rfl, HOK, HR, HB⟩ := hrel
    by_cases hlt : k < n
    · obtain ⟨o, ho⟩ : ∃ o : Nat, k * 24 = o := ⟨_, rfl⟩
      have hin : (k + 1) * 24 ≤ b.size := by omega
      have hki : (o : Int) < (b.size : Int) := by omega
      obtain ⟨e, he⟩ : ∃ e, b.extract (k * 24) ((k + 1) * 24) = e := ⟨_, rfl⟩
      have HE : Hid (b.extract (k * 24) ((k + 1) * 24) = e) := he
      have HO : Hid (k * 24 = o) := ho
      have hes : e.size = 24 := by rw [← he]; simp; omega
      have p0 : b.extract o (o + 8) = e.extract 0 8 := by rw [← he, sub_part b k 0 8 (by omega) hin, ← ho]; rfl
      have p1 : b.extract (o + 8) (o + 12) = e.extract 8 12 := by rw [← he, sub_part b k 8 12 (by omega) hin, ho]
      have p2 : b.extract (o + 12) (o + 16) = e.extract 12 16 := by rw [← he, sub_part b k 12 16 (by omega) hin, ho]
      have p3 : b.extract (o + 16) (o + 24) = e.extract 16 24 := by rw [← he, sub_part b k 16 24 (by omega) hin, ho]
      have z0 : (e.extract 0 8).size ≤ maxLen := by unfold maxLen; simp; omega
      have z1 : (e.extract 8 12).size ≤ maxLen := by unfold maxLen; simp; omega
      have z2 : (e.extract 12 16).size ≤ maxLen := by unfold maxLen; simp; omega
      have z3 : (e.extract 16 24).size ≤ maxLen := by unfold maxLen; simp; omega
      have G0 : ∀ W, Calls Try.prog 19 #[.string (b.extract o (o + 8))] W fun r w' => r = .returned (.int .u64 (num (e.extract 0 8))) ∧ w' = W := fun W => by rw [p0]; exact refget_any _ W z0
      have G1 : ∀ W, Calls Try.prog 19 #[.string (b.extract (o + 8) (o + 12))] W fun r w' => r = .returned (.int .u64 (num (e.extract 8 12))) ∧ w' = W := fun W => by rw [p1]; exact refget_any _ W z1
      have G2 : ∀ W, Calls Try.prog 19 #[.string (b.extract (o + 12) (o + 16))] W fun r w' => r = .returned (.int .u64 (num (e.extract 12 16))) ∧ w' = W := fun W => by rw [p2]; exact refget_any _ W z2
      have G3 : ∀ W, Calls Try.prog 19 #[.string (b.extract (o + 16) (o + 24))] W fun r w' => r = .returned (.int .u64 (num (e.extract 16 24))) ∧ w' = W := fun W => by rw [p3]; exact refget_any _ W z3
      have b0 := num_bounds (e.extract 0 8)
      have b1 := num_lt4 (e.extract 8 12) (by simp; omega)
      have b2 := num_lt4 (e.extract 12 16) (by simp; omega)
      have HF : Hid (relF e sy = relN (num (e.extract 0 8)) (num (e.extract 8 12)) (num (e.extract 12 16)) (num (e.extract 16 24)) sy) := rfl
      rw [ho]
      clear ho he hes p0 p1 p2 p3 z0 z1 z2 z3
      generalize num (e.extract 0 8) = a at *
      generalize num (e.extract 8 12) = kk at *
      generalize num (e.extract 12 16) = s at *
      generalize num (e.extract 16 24) = d at *
      obtain ⟨r, hr⟩ : ∃ r, a.tmod 8 = r := ⟨_, rfl⟩
      have hr8 : a % 8 = r := by rw [← hr, Int.tmod_eq_emod_of_nonneg b0.1]
      have wk : IntKind.i64.wrap kk = kk := by rw [IntKind.wrap_i64]; omega
      have ws : IntKind.i64.wrap s = s := by rw [IntKind.wrap_i64]; omega
      have CS := rel_cases a kk s d sy r hr8 b2.1
      have on : (o : Int) + 24 ≤ (n : Int) * 24 := by have := HO.out; omega
      have w8 : IntKind.i64.wrap ((o : Int) + 8) = ((o + 8 : Nat) : Int) := by rw [IntKind.wrap_i64]; omega
      have w12 : IntKind.i64.wrap ((o : Int) + 12) = ((o + 12 : Nat) : Int) := by rw [IntKind.wrap_i64]; omega
      have w16 : IntKind.i64.wrap ((o : Int) + 16) = ((o + 16 : Nat) : Int) := by rw [IntKind.wrap_i64]; omega
      have w24 : IntKind.i64.wrap ((o : Int) + 24) = ((o + 24 : Nat) : Int) := by rw [IntKind.wrap_i64]; omega
      have a8 : (0 : Int) ≤ (o : Int) + 8 := by omega
      have a12 : (0 : Int) ≤ (o : Int) + 12 := by omega
      have a16 : (0 : Int) ≤ (o : Int) + 16 := by omega
      have c0 : (o : Int) ≤ (o : Int) + 8 := by omega
      have c8 : (o : Int) + 8 ≤ (o : Int) + 12 := by omega
      have c12 : (o : Int) + 12 ≤ (o : Int) + 16 := by omega
      have c16 : (o : Int) + 16 ≤ (o : Int) + 24 := by omega
      have d8 : (o : Int) + 8 ≤ (n : Int) * 24 := by omega
      have d12 : (o : Int) + 12 ≤ (n : Int) * 24 := by omega
      have d16 : (o : Int) + 16 ≤ (n : Int) * 24 := by omega
      have t8 : ((o : Int) + 8).toNat = o + 8 := by omega
      have t12 : ((o : Int) + 12).toNat = o + 12 := by omega
      have t16 : ((o : Int) + 16).toNat = o + 16 := by omega
      have t24 : ((o : Int) + 24).toNat = o + 24 := by omega
      have m1 : k + 1 ≤ maxLen := by unfold maxLen; omega
      have m2 : (k + 1) * 32 ≤ 140737488355328 := by omega
      have HCS : Hid (_) := CS
      clear hr8 b0 CS b1 b2
      go_wp2
      go_cut [9] (fun p wx => p = .pointer (some ⟨wr.heap.size, 0, none⟩) ∧ wx = (wr.alloc (Obj.cells #[Value.int IntKind.u64 a, Value.int IntKind.i64 kk, Value.int IntKind.i64 s, Value.int IntKind.u64 d] 27)).drew)
      case first =>
        go_region_held3 (fun _ => True) (trivial)
          (first
            | (go_at_call 19; with_reducible refine (G0 _).mono ?_; rintro r w' ⟨rfl, rfl⟩)
            | (go_at_call 19; with_reducible refine (G1 _).mono ?_; rintro r w' ⟨rfl, rfl⟩)
            | (go_at_call 19; with_reducible refine (G2 _).mono ?_; rintro r w' ⟨rfl, rfl⟩)
            | (go_at_call 19; with_reducible refine (G3 _).mono ?_; rintro r w' ⟨rfl, rfl⟩))
        all_goals
          go_wp2
          go_meet
          case rel => exact ⟨rfl, rfl⟩
      case rest =>
      obtain ⟨rfl, rfl⟩ := hcut
      obtain ⟨x0, x1, x2, x3⟩ : Four (wr.alloc (Obj.cells #[Value.int IntKind.u64 a, Value.int IntKind.i64 kk, Value.int IntKind.i64 s, Value.int IntKind.u64 d] 27)).drew wr.heap.size (.int .u64 a) (.int .i64 kk) (.int .i64 s) (.int .u64 d) := Four.new wr (.int .u64 a) (.int .i64 kk) (.int .i64 s) (.int .u64 d) 27
      have HR2 := fun o o' : Obj => own_d ((HR.out.alloc o).alloc o')
      have hBs := HB.out.size
      have HN := news4 (wr.alloc (Obj.cells #[Value.int IntKind.u64 a, Value.int IntKind.i64 kk, Value.int IntKind.i64 s, Value.int IntKind.u64 d] 27)) (a, kk, s, d) 27
      rw [World.size_alloc] at HN
      clear G0 G1 G2 G3 w8 w12 w16 w24 a8 a12 a16 c0 c8 c12 c16 d8 d12 d16 t8 t12 t16 t24
      have CS := HCS.out
      clear HCS
      rcases CS with ⟨f0, f1, f2, f3, hv⟩ | ⟨f0, f1, f2, f3, hv⟩ | ⟨f0, f1, f2, f3, hv⟩ | ⟨f0, f1, f2, f3, hv⟩ | ⟨f0, f1, f2, f3, f4, hv⟩ | ⟨f0, f1, f2, f3, f4, hv⟩ | ⟨f0, f1, f2, f3, f4, hv⟩ | ⟨f0, f1, f2, f3, f4, hv⟩ | ⟨rfl, f1, f2, hv⟩ | ⟨rfl, f1, f2, hv⟩ | ⟨rfl, f1, f2, hv⟩ | ⟨f0, f1, f2, f3, f4, hv⟩ | ⟨f0, f1, f2, f3, f4, hv⟩ | ⟨f0, f1, f2, f3, f4, hv⟩ | ⟨rfl, f1, f2, hv⟩ | ⟨f0, f1, f2, f3, f4, hv⟩
      all_goals
        have HV : Hid (relF e sy = _) := HF.out.trans hv
        clear hv HF
        go_wp2_with (at_builtin; refine wpList_append_own _ rfl _ _ 35 rfl w.heap.size 27 i0 _ 4 32 Try.underlying35 hi0 hz0 hz1 hz2 rfl (by decide) _ k _ rfl (HR2 _ _) ⟨_, 0, none⟩ 1 1 (rlc _) rfl rfl HN (one4 _) m1 m2 (size_d hBs) ?_; intro x' w2 hown' hgrow _)
      all_goals first
        | (refine ⟨rfl, _, results_three' rfl _ _, ?_⟩
           refine rread_bad HH.out.1 HH.out.2 hn hlt HOK.out (by rw [HE.out, HV.out]) (by decide) ?_ (HB.out.alloc HB.out.size _).drew
           rw [show (k : Int) * 24 = (o : Int) by have := HO.out; omega]
           rfl)
        | (refine ⟨⟨k + 1, _, by omega, ?_, rfl, ?_, ?_, ?_⟩, ?_⟩
           · have h1 := HO.out
             have e1 : (((k + 1) * 24 : Nat) : Int) = (o : Int) + 24 := by omega
             rw [e1]
           · intro y hy
             rw [eachL_succ, List.mem_append] at hy
             rcases hy with hy | hy
             · exact HOK.out y hy
             · obtain rfl : y = (k, b.extract (k * 24) ((k + 1) * 24)) := by simpa using hy
               show (relF (b.extract (k * 24) ((k + 1) * 24)) sy).2 = 0
               rw [HE.out, HV.out]
           · show World.ownsRow _ _ _ _ _ _ _
             rw [eachL_succ, cellsL_snoc]
             show World.ownsRow _ _ _ _ _ _ (cellsL sy (eachL b 24 k) ++ rlc (relF (b.extract (k * 24) ((k + 1) * 24)) sy).1)
             rw [HE.out, HV.out]
             exact hown'
           · exact (((HB.out.alloc hBs _).alloc (HB.out.alloc hBs _).size _).drew).grown hgrow (size_d hBs) (fun j ej => row_ge HR.out j ej)
           · simp [intOf]
             omega)
    · obtain rfl : k = n := by omega
      go_wp2
      refine ⟨rfl, _, results_three' rfl _ _, .inr (.inr ⟨HH.out.1, by have := HH.out.2; omega, .inl ⟨_, rfl, ?_, ?_⟩⟩), HB.out⟩
      · rw [HH.out.2]; exact HR.out
      · rw [HH.out.2]; exact HOK.out

theorem rread_any (b : ByteArray) (sy : Int) (w : World) (hb : b.size ≤ 140737488351232) : Calls Try.prog 10 #[.string b, .int .i64 sy] w (RReadPost w b sy) := by
  by_cases h : b.size % 24 = 0
  · by_cases h2 : b.size / 24 ≤ 256
    · exact rread_few b sy (b.size / 24) w hb (by omega) h2
    · exact rread_many b sy w hb h (by omega)
  · exact rread_form b sy w hb h
end Go.Proofs.Ytghbkjdjginfjaa
