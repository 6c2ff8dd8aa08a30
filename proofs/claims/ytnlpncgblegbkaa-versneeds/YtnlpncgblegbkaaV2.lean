/-
  Layer 12: the document's Defs of any bytes.
-/
import Derived.Test.YtnlpncgblegbkaaV1
namespace Go.Proofs.Ytnlpncgblegbkaa
open Go.RowKit
set_option linter.unusedVariables false

theorem rn_in (b : ByteArray) (p i m : Nat) (hin : p + 20 ≤ b.size) (h : i + m ≤ 20) : rn b (p + i) m = num ((b.extract p (p + 20)).extract i (i + m)) := by
  unfold rn
  rw [if_pos (by omega), ext_ext b p 20 i (i + m) h hin, Nat.add_assoc]

theorem rn_lt4 (b : ByteArray) (p : Nat) : 0 ≤ rn b p 4 ∧ rn b p 4 < 4294967296 := by
  unfold rn
  split
  · rename_i h
    have h1 := (num_bounds (b.extract p (p + 4))).1
    have h2 := num_lt4 (b.extract p (p + 4)) (by simp; omega)
    omega
  · omega

theorem defF_in (b names e : ByteArray) (p q : Nat) (he : e.size = 20) (hq : num (e.extract 12 16) = (q : Int)) :
    defF b names e p = (if b.size < p + q + 8 then ((0, ⟨#[]⟩), 2) else if (num (e.extract 0 2) == 1 && num (e.extract 6 8) != 0) then if (txt names (num ((b.extract (p + q) (p + q + 8)).extract 0 4)) 32).2 then ((num (e.extract 4 6) % 32768, (txt names (num ((b.extract (p + q) (p + q + 8)).extract 0 4)) 32).1), 0) else ((0, ⟨#[]⟩), 25) else ((0, ⟨#[]⟩), 4)) := by
  unfold defF
  rw [if_neg (by omega), hq, Int.toNat_natCast]

theorem Try.info37 : (Try.prog.info? 37).map (fun i => (i.zero, i.size, i.bytes)) = some (some (dfv (0, ⟨#[]⟩)), 2, 24) := by kernel_rfl

/-- What the document's Defs answers. -/
def RefPost (w : World) (b names : ByteArray) (hb : b.size ≤ 140737488351232) (n : Nat) (e : Ending) (w' : World) : Prop :=
  ((∃ v, e = .returned (.tuple #[v, .int .i64 0, .int .u64 0]) ∧ w'.ownsRow w.heap.size 37 2 v (ents b hb n).length (cellsD b names (ents b hb n)) ∧ ∀ x ∈ ents b hb n, (defF b names x.2 x.1).2 = 0) ∨
   (∃ q x, q ++ [x] <+: ents b hb n ∧ (∀ y ∈ q, (defF b names y.2 y.1).2 = 0) ∧ (defF b names x.2 x.1).2 ≠ 0 ∧ e = .returned (.tuple #[.slice none 0 0, .int .i64 (defF b names x.2 x.1).2, .int .u64 (x.1 : Int)]))) ∧
  Below w.heap.size w w'

theorem ref_bad {w wr : World} {b names : ByteArray} {hb : b.size ≤ 140737488351232} {N p : Nat} {c : Int} {e : Ending} {L pre : List (Ent 20)} {x : Ent 20} (hL : L = entL b 20 (by omega) hb N 0 (by omega)) (hpre : pre ++ [x] <+: L) (hok : ∀ y ∈ pre.map Ent.pl, (defF b names y.2 y.1).2 = 0) (hx : (defF b names x.e x.p).2 = c) (hc : c ≠ 0) (hp : x.p = p)
    (he : e = .returned (.tuple #[.slice none 0 0, .int .i64 c, .int .u64 (p : Int)])) (hB : Below w.heap.size w wr) : RefPost w b names hb N e wr := by
  refine ⟨.inr ⟨pre.map Ent.pl, x.pl, ?_, hok, ?_, ?_⟩, hB⟩
  · have := hpre.map Ent.pl
    rw [hL] at this
    simpa [ents] using this
  · show (defF b names x.e x.p).2 ≠ 0
    rw [hx]; exact hc
  · rw [he]
    show _ = Ending.returned (.tuple #[.slice none 0 0, .int .i64 (defF b names x.e x.p).2, .int .u64 (x.p : Int)])
    rw [hx, hp]

theorem two_new (W : World) (dn : Int) (t : ByteArray) : ∀ j u, [Value.int .i64 dn, Value.string t][j]? = some u → (W.alloc (.cells #[.int .i64 dn, .string t] 37)).cell? ((⟨W.heap.size, 0, none⟩ : Addr).add j) = some u := by
  intro j u hu
  match j, hu with
  | 0, hu => simp at hu; subst hu; simp [go_sem]
  | 1, hu => simp at hu; subst hu; simp [go_sem]
  | j + 2, hu => simp at hu
theorem two_one (dn : Int) (t : ByteArray) : ∀ u ∈ [Value.int .i64 dn, Value.string t], u.oneCell' = true := by
  intro u hu
  simp at hu
  rcases hu with rfl | rfl <;> rfl
theorem row_ge {W : World} {base k size : Nat} {e : TypeId} {v : Value} {xs : List Value} (h : W.ownsRow base e size v k xs) : ∀ j, v.ownBlock = some j → base ≤ j := by
  intro j ej
  rcases h.2 with ⟨rfl, _⟩ | ⟨g, cap, cur, rfl, hb, _⟩
  · simp [Value.ownBlock] at ej
  · obtain rfl : g = j := by simpa [Value.ownBlock] using ej
    exact hb
theorem results_three {P : Program} {fn : Func} {p q r : Tmp} (h : fn.results = #[.tmp p, .tmp q, .tmp r]) (tmps : Array Value) (w : World) :
    (results fn tmps).run P w = .ok (.tuple #[tmps.getD p undef, tmps.getD q undef, tmps.getD r undef]) w := by
  simp [results, h]

set_option maxRecDepth 100000 in
set_option maxHeartbeats 8000000 in
theorem refdefs_any (b names : ByteArray) (N : Nat) (w : World) (hb : b.size ≤ 140737488351232) (hnm : names.size ≤ 9223372036854775807) (hN : N ≤ 64) :
    Calls Try.prog 12 #[.string b, .string names, .int .i64 (N : Int)] w (RefPost w b names hb N) := by
  obtain ⟨i0, hi0, hz0, hz1, hz2⟩ := info_parts Try.info37
  obtain ⟨L, hL⟩ : ∃ L, L = entL b 20 (by omega) hb N 0 (by omega) := ⟨_, rfl⟩
  have HL : Hid (L = entL b 20 (by omega) hb N 0 (by omega)) := hL
  clear hL
  have hNi : ¬ (N : Int) < 0 := by omega
  have hN64 : ¬ (64 : Int) < (N : Int) := by omega
  go_enter Try.func12, Try.ntmps12
  go_wp2
  go_loopw [9, 10, 11] (fun s a i wr => ∃ (k p : Nat) (hp : p < 1125899906842624) (pre : List (Ent 20)) (v : Value), k ≤ N ∧ i = .int .i64 k ∧ a = .int .u64 (p : Int) ∧ s = v ∧ Hid (L = pre ++ entL b 20 (by omega) hb (N - k) p hp) ∧ Hid (pre.length = k) ∧ Hid (∀ y ∈ pre.map Ent.pl, (defF b names y.2 y.1).2 = 0) ∧ Hid (wr.ownsRow w.heap.size 37 2 v k (cellsD b names (pre.map Ent.pl))) ∧ Hid (Below w.heap.size w wr))
    (fun _ _ i _ => N - (intOf i).toNat)
  case atStart => exact ⟨0, 0, by omega, [], _, Nat.zero_le _, rfl, rfl, rfl, HL.out, rfl, (fun y hy => by simp at hy), World.ownsRow_nil _ _ _ _, Below.refl _ _⟩
  case round =>
    obtain ⟨k, p, hp, pre, v, hk, rfl, rfl, rfl, HP, HLen, HOK, HR, HB⟩ := hrel
    by_cases hlt : k < N
    · have hki : (k : Int) < (N : Int) := by omega
      have HNK : Hid (entL b 20 (by omega) hb (N - k) p hp = entL b 20 (by omega) hb ((N - (k + 1)) + 1) p hp) := by
        show _ = _
        rw [show N - k = (N - (k + 1)) + 1 by omega]
      by_cases hin : p + 20 ≤ b.size
      · obtain ⟨e, he⟩ : ∃ e, b.extract p (p + 20) = e := ⟨_, rfl⟩
        have hes : e.size = 20 := by rw [← he]; exact ext_m b p 20 hin
        obtain ⟨q, hq, hq4⟩ : ∃ q : Nat, num (e.extract 12 16) = (q : Int) ∧ q < 4294967296 := ⟨(num (e.extract 12 16)).toNat, by have := (num_bounds (e.extract 12 16)).1; omega, num_lt4 _ (by simp; omega)⟩
        obtain ⟨nx, hnx, hnx4⟩ : ∃ nx : Nat, num (e.extract 16 20) = (nx : Int) ∧ nx < 4294967296 := ⟨(num (e.extract 16 20)).toNat, by have := (num_bounds (e.extract 16 20)).1; omega, num_lt4 _ (by simp; omega)⟩
        have hpn : p + nx < 1125899906842624 := by omega
        have HT : Hid (L = (pre ++ [⟨p, e, hp, .inr hes⟩]) ++ entL b 20 (by omega) hb (N - (k + 1)) (p + nx) hpn) := by
          show _ = _
          rw [HP.out, HNK.out, entL_yes b 20 _ hb _ p hp hin]
          subst he
          have h2 : (num ((b.extract p (p + 20)).extract (20 - 4) 20)).toNat = nx := by
            show (num ((b.extract p (p + 20)).extract 16 20)).toNat = nx
            rw [hnx]; simp
          simp only [h2, List.append_assoc, List.singleton_append]
        have HPX : Hid (pre ++ [⟨p, e, hp, .inr hes⟩] <+: L) := by
          show _ <+: _
          rw [HT.out]; exact List.prefix_append _ _
        have HD : Hid (_) := defF_in b names e p q hes hq
        have N12 : ∀ W, Calls Try.prog 24 #[.string b, .int .u64 ((p : Int) + 12), .int .i64 4] W fun r w' => r = .returned (.int .u64 (q : Int)) ∧ w' = W := by
          intro W
          have h := rnum_any b (p + 12) 4 W hb (by omega) (by omega)
          rw [rn_in b p 12 4 hin (by omega), he, hq] at h
          exact h
        have N0 : ∀ W, Calls Try.prog 24 #[.string b, .int .u64 (p : Int), .int .i64 2] W fun r w' => r = .returned (.int .u64 (num (e.extract 0 2))) ∧ w' = W := by
          intro W
          have h := rnum_any b (p + 0) 2 W hb (by omega) (by omega)
          rw [rn_in b p 0 2 hin (by omega), he] at h
          exact h
        have N6 : ∀ W, Calls Try.prog 24 #[.string b, .int .u64 ((p : Int) + 6), .int .i64 2] W fun r w' => r = .returned (.int .u64 (num (e.extract 6 8))) ∧ w' = W := by
          intro W
          have h := rnum_any b (p + 6) 2 W hb (by omega) (by omega)
          rw [rn_in b p 6 2 hin (by omega), he] at h
          exact h
        have N4 : ∀ W, Calls Try.prog 24 #[.string b, .int .u64 ((p : Int) + 4), .int .i64 2] W fun r w' => r = .returned (.int .u64 (num (e.extract 4 6))) ∧ w' = W := by
          intro W
          have h := rnum_any b (p + 4) 2 W hb (by omega) (by omega)
          rw [rn_in b p 4 2 hin (by omega), he] at h
          exact h
        have N16 : ∀ W, Calls Try.prog 24 #[.string b, .int .u64 ((p : Int) + 16), .int .i64 4] W fun r w' => r = .returned (.int .u64 (nx : Int)) ∧ w' = W := by
          intro W
          have h := rnum_any b (p + 16) 4 W hb (by omega) (by omega)
          rw [rn_in b p 16 4 hin (by omega), he, hnx] at h
          exact h
        have H20 : ∀ W, Calls Try.prog 25 #[.string b, .int .u64 (p : Int), .int .u64 20] W fun r w' => r = .returned (.bool true) ∧ w' = W := fun W => has_any b p 20 true W hb (by omega) (by omega) (by show _ = _; simp; omega)
        have b4 := num_bounds (e.extract 4 6)
        clear HP HNK
        by_cases hfar : p + q + 8 ≤ b.size
        · have H8 : ∀ W, Calls Try.prog 25 #[.string b, .int .u64 ((p : Int) + (q : Int)), .int .u64 8] W fun r w' => r = .returned (.bool true) ∧ w' = W := by
            intro W
            have h := has_any b (p + q) 8 true W hb (by omega) (by omega) (by show _ = _; simp; omega)
            exact h
          obtain ⟨x0, hx0⟩ : ∃ x0, num (e.extract 0 2) = x0 := ⟨_, rfl⟩
          obtain ⟨x6, hx6⟩ : ∃ x6, num (e.extract 6 8) = x6 := ⟨_, rfl⟩
          rw [hx0] at N0
          rw [hx6] at N6
          have hnb : ¬ b.size < p + q + 8 := by omega
          by_cases h1 : x0 = 1
          · subst h1
            by_cases h6 : x6 = 0
            · subst h6
              have HDD : Hid ((defF b names e p).2 = 4) := by show _ = _; rw [HD.out, if_neg hnb, hx0, hx6]; rfl
              clear he N4 N16 HT hin hx0 hx6
              go_wp2_with (first
                | (go_at_call 24; with_reducible refine (N12 _).mono ?_; rintro r w' ⟨rfl, rfl⟩)
                | (go_at_call 24; with_reducible refine (N0 _).mono ?_; rintro r w' ⟨rfl, rfl⟩)
                | (go_at_call 24; with_reducible refine (N6 _).mono ?_; rintro r w' ⟨rfl, rfl⟩)
                | (go_at_call 25; with_reducible refine (H20 _).mono ?_; rintro r w' ⟨rfl, rfl⟩)
                | (go_at_call 25; with_reducible refine (H8 _).mono ?_; rintro r w' ⟨rfl, rfl⟩))
              refine ⟨rfl, _, results_three rfl _ _, ?_⟩
              exact ref_bad HL.out HPX.out HOK.out HDD.out (by decide) rfl rfl HB.out
            · have h6b : (x6 == 0) = false := by simp [h6]
              have h6n : (x6 != 0) = true := by simp [h6]
              have HF : Hid ((num (e.extract 0 2) == 1 && num (e.extract 6 8) != 0) = true) := by show _ = _; rw [hx0, hx6, h6n]; rfl
              obtain ⟨xf, hxf⟩ : ∃ xf, num ((b.extract (p + q) (p + q + 8)).extract 0 4) = xf := ⟨_, rfl⟩
              have hxf0 : 0 ≤ xf := by rw [← hxf]; exact (num_bounds _).1
              have NF : ∀ W, Calls Try.prog 24 #[.string b, .int .u64 ((p : Int) + (q : Int)), .int .i64 4] W fun r w' => r = .returned (.int .u64 xf) ∧ w' = W := by
                intro W
                have h := rnum_any b (p + q) 4 W hb (by omega) (by omega)
                have e1 : rn b (p + q) 4 = xf := by
                  unfold rn
                  rw [if_pos (by omega), ← hxf, ext_ext b (p + q) 8 0 4 (by omega) (by omega)]
                  rfl
                rw [e1] at h
                exact h
              obtain ⟨tx, htx⟩ : ∃ tx, txt names xf 32 = tx := ⟨_, rfl⟩
              obtain ⟨t, ok⟩ := tx
              have HTX : Hid (txt names xf 32 = (t, ok)) := htx
              have HTF : Hid (txt names (num ((b.extract (p + q) (p + q + 8)).extract 0 4)) 32 = (t, ok)) := by show _ = _; rw [hxf, htx]
              clear htx hxf h6 h6n hx0 hx6
              cases ok with
              | false =>
                have HDD : Hid ((defF b names e p).2 = 25) := by show _ = _; rw [HD.out, if_neg hnb, HF.out, HTF.out]; rfl
                clear he N4 N16 HT hin
                go_wp2_with (first
                  | (go_at_call 24; with_reducible refine (N12 _).mono ?_; rintro r w' ⟨rfl, rfl⟩)
                  | (go_at_call 24; with_reducible refine (N0 _).mono ?_; rintro r w' ⟨rfl, rfl⟩)
                  | (go_at_call 24; with_reducible refine (N6 _).mono ?_; rintro r w' ⟨rfl, rfl⟩)
                  | (go_at_call 24; with_reducible refine (NF _).mono ?_; rintro r w' ⟨rfl, rfl⟩)
                  | (go_at_call 26; refine (reftext_any _ _ _ _ _ _ HTX hnm hxf0 (by omega) (by omega)).mono ?_; rintro r w' ⟨rfl, rfl⟩)
                  | (go_at_call 25; with_reducible refine (H20 _).mono ?_; rintro r w' ⟨rfl, rfl⟩)
                  | (go_at_call 25; with_reducible refine (H8 _).mono ?_; rintro r w' ⟨rfl, rfl⟩))
                refine ⟨rfl, _, results_three rfl _ _, ?_⟩
                exact ref_bad HL.out HPX.out HOK.out HDD.out (by decide) rfl rfl HB.out
              | true =>
                obtain ⟨x4, hx4⟩ : ∃ x4, num (e.extract 4 6) = x4 := ⟨_, rfl⟩
                rw [hx4] at N4 b4
                obtain ⟨b40, b41⟩ := b4
                have HDD : Hid (defF b names e p = ((x4 % 32768, t), 0)) := by show _ = _; rw [HD.out, if_neg hnb, HF.out, HTF.out, hx4]; rfl
                obtain ⟨dn, hdn⟩ : ∃ dn, x4.tmod 32768 = dn := ⟨_, rfl⟩
                have hdx : dn = x4 % 32768 := by rw [← hdn, Int.tmod_eq_emod_of_nonneg b40]
                have d0 : 0 ≤ dn := by omega
                have d1 : dn < 32768 := by omega
                have HDX : Hid (dn = x4 % 32768) := hdx
                have hBs := HB.out.size
                have HR2 := HR.out.alloc (.cells #[.int .i64 dn, .string t] 37)
                have hx := two_new wr dn t
                have m1 : k + 1 ≤ maxLen := by unfold maxLen; omega
                have m2 : (k + 1) * 24 ≤ 140737488355328 := by omega
                have m3 : w.heap.size ≤ (wr.alloc (.cells #[.int .i64 dn, .string t] 37)).heap.size := by simp; omega
                have HR3 : Hid (_) := HR2
                clear he hin hx4 hdx HR2
                go_wp2_with (first
                  | (go_at_call 24; with_reducible refine (N12 _).mono ?_; rintro r w' ⟨rfl, hw'⟩; subst hw')
                  | (go_at_call 24; with_reducible refine (N0 _).mono ?_; rintro r w' ⟨rfl, hw'⟩; subst hw')
                  | (go_at_call 24; with_reducible refine (N6 _).mono ?_; rintro r w' ⟨rfl, hw'⟩; subst hw')
                  | (go_at_call 24; with_reducible refine (NF _).mono ?_; rintro r w' ⟨rfl, hw'⟩; subst hw')
                  | (go_at_call 24; with_reducible refine (N4 _).mono ?_; rintro r w' ⟨rfl, hw'⟩; subst hw')
                  | (go_at_call 24; with_reducible refine (N16 _).mono ?_; rintro r w' ⟨rfl, hw'⟩; subst hw')
                  | (go_at_call 26; refine (reftext_any _ _ _ _ _ _ HTX hnm hxf0 (by omega) (by omega)).mono ?_; rintro r w' ⟨rfl, hw'⟩; subst hw')
                  | (go_at_call 25; with_reducible refine (H20 _).mono ?_; rintro r w' ⟨rfl, hw'⟩; subst hw')
                  | (go_at_call 25; with_reducible refine (H8 _).mono ?_; rintro r w' ⟨rfl, hw'⟩; subst hw')
                  | (at_builtin; refine wpList_append_own_at _ rfl _ _ 33 rfl w.heap.size 37 i0 _ 2 24 Try.underlying33 hi0 hz0 hz1 hz2 rfl (by decide) _ k _ rfl HR3.out ⟨_, 0, none⟩ 1 1 [.int .i64 dn, .string t] rfl rfl hx (two_one dn t) m1 m2 m3 ?_; intro v' w1 hown' hgrow _ hlies; obtain ⟨g', cap', rfl⟩ := ownsRow_succ hown'))
                have hge := row_ge HR.out
                refine ⟨⟨k + 1, p + nx, hpn, pre ++ [⟨p, e, hp, .inr hes⟩], _, by omega, by go_num, by push_cast; rfl, rfl, HT, ?_, ?_, ?_, ?_⟩, by simp [intOf]; omega⟩
                · show _ = _
                  rw [List.length_append, HLen.out]; rfl
                · intro y hy
                  rw [List.map_append, List.mem_append] at hy
                  rcases hy with hy | hy
                  · exact HOK.out y hy
                  · obtain rfl : y = (p, e) := by simpa [Ent.pl] using hy
                    rw [HDD.out]
                · have e2 : cellsD b names (List.map Ent.pl (pre ++ [⟨p, e, hp, .inr hes⟩])) = cellsD b names (List.map Ent.pl pre) ++ [Value.int .i64 dn, Value.string t] := by
                    rw [List.map_append]
                    show cellsD b names (List.map Ent.pl pre ++ [(p, e)]) = _
                    rw [cellsD_snoc]
                    unfold defC
                    rw [HDD.out, HDX.out]
                  show World.ownsRow _ _ _ _ _ _ _
                  rw [e2]
                  exact hown'
                · exact (HB.out.alloc hBs _).grown hgrow (by simp; omega) (fun j ej => hge j ej)
          · have h1b : (x0 != 1) = true := by simp [h1]
            have h1e : (x0 == 1) = false := by simp [h1]
            have HDD : Hid ((defF b names e p).2 = 4) := by show _ = _; rw [HD.out, if_neg hnb, hx0, h1e]; rfl
            clear he N4 N16 HT hin hx0 hx6 h1 h1e
            go_wp2_with (first
              | (go_at_call 24; with_reducible refine (N12 _).mono ?_; rintro r w' ⟨rfl, rfl⟩)
              | (go_at_call 24; with_reducible refine (N0 _).mono ?_; rintro r w' ⟨rfl, rfl⟩)
              | (go_at_call 25; with_reducible refine (H20 _).mono ?_; rintro r w' ⟨rfl, rfl⟩)
              | (go_at_call 25; with_reducible refine (H8 _).mono ?_; rintro r w' ⟨rfl, rfl⟩))
            refine ⟨rfl, _, results_three rfl _ _, ?_⟩
            exact ref_bad HL.out HPX.out HOK.out HDD.out (by decide) rfl rfl HB.out
        · have H8 : ∀ W, Calls Try.prog 25 #[.string b, .int .u64 ((p : Int) + (q : Int)), .int .u64 8] W fun r w' => r = .returned (.bool false) ∧ w' = W := by
            intro W
            have h := has_any b (p + q) 8 false W hb (by omega) (by omega) (by show _ = _; simp only [decide_eq_false_iff_not]; omega)
            exact h
          have HDD : Hid ((defF b names e p).2 = 2) := by show _ = _; rw [HD.out, if_pos (by omega)]
          clear he N0 N6 N4 N16 HT hin
          go_wp2_with (first
            | (go_at_call 24; with_reducible refine (N12 _).mono ?_; rintro r w' ⟨rfl, rfl⟩)
            | (go_at_call 25; with_reducible refine (H20 _).mono ?_; rintro r w' ⟨rfl, rfl⟩)
            | (go_at_call 25; with_reducible refine (H8 _).mono ?_; rintro r w' ⟨rfl, rfl⟩))
          refine ⟨rfl, _, results_three rfl _ _, ?_⟩
          exact ref_bad HL.out HPX.out HOK.out HDD.out (by decide) rfl rfl HB.out
      · have HT : Hid (L = pre ++ [⟨p, ⟨#[]⟩, hp, .inl rfl⟩]) := by
          show _ = _
          rw [HP.out, HNK.out, entL_no b 20 _ hb _ p hp hin]
        have HPX : Hid (pre ++ [⟨p, ⟨#[]⟩, hp, .inl rfl⟩] <+: L) := by
          show _ <+: _
          rw [HT.out]; exact List.prefix_refl _
        obtain ⟨y, hy⟩ : ∃ y, rn b (p + 12) 4 = y := ⟨_, rfl⟩
        have hy4 := rn_lt4 b (p + 12)
        rw [hy] at hy4
        have N12 : ∀ W, Calls Try.prog 24 #[.string b, .int .u64 ((p : Int) + 12), .int .i64 4] W fun r w' => r = .returned (.int .u64 y) ∧ w' = W := by
          intro W
          have h := rnum_any b (p + 12) 4 W hb (by omega) (by omega)
          rw [hy] at h
          exact h
        have H20 : ∀ W, Calls Try.prog 25 #[.string b, .int .u64 (p : Int), .int .u64 20] W fun r w' => r = .returned (.bool false) ∧ w' = W := fun W => has_any b p 20 false W hb (by omega) (by omega) (by show _ = _; simp only [decide_eq_false_iff_not]; omega)
        have HDD : Hid ((defF b names ⟨#[]⟩ p).2 = 2) := by show _ = _; unfold defF; rw [if_pos (show (⟨#[]⟩ : ByteArray).size = 0 from rfl)]
        obtain ⟨hy0, hy1⟩ := hy4
        clear HP HNK hy
        go_wp2_with (first
          | (go_at_call 24; with_reducible refine (N12 _).mono ?_; rintro r w' ⟨rfl, rfl⟩)
          | (go_at_call 25; with_reducible refine (H20 _).mono ?_; rintro r w' ⟨rfl, rfl⟩))
        refine ⟨rfl, _, results_three rfl _ _, ?_⟩
        exact ref_bad HL.out HPX.out HOK.out HDD.out (by decide) rfl rfl HB.out
    · obtain rfl : k = N := by omega
      have HE : Hid (ents b hb k = pre.map Ent.pl) := by
        show _ = _
        unfold ents
        rw [← HL.out, HP.out, Nat.sub_self]
        simp [entL]
      go_wp2
      refine ⟨rfl, _, results_three rfl _ _, .inl ⟨_, rfl, ?_, ?_⟩, HB.out⟩
      · rw [HE.out, List.length_map, HLen.out]; exact HR.out
      · rw [HE.out]; exact HOK.out
end Go.Proofs.Ytnlpncgblegbkaa
