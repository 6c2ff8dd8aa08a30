/-
  Layer 12: the document's Needs of any bytes.
-/
import Derived.Test.YtnlpncgblegbkaaV2
import Derived.Test.YtnlpncgblegbkaaK4
namespace Go.Proofs.Ytnlpncgblegbkaa
open Go.RowKit
set_option linter.unusedVariables false

theorem rn_in16 (b : ByteArray) (p i m : Nat) (hin : p + 16 ≤ b.size) (h : i + m ≤ 16) : rn b (p + i) m = num ((b.extract p (p + 16)).extract i (i + m)) := by
  unfold rn
  rw [if_pos (by omega), ext_ext b p 16 i (i + m) h hin, Nat.add_assoc]
theorem Try.info47 : (Try.prog.info? 47).map (fun i => (i.zero, i.size, i.bytes)) = some (some Nd.zero.val, 4, 48) := by kernel_rfl

/-- What the document's Needs answers. -/
def RNeedsPost (w : World) (b names : ByteArray) (n : Nat) (e : Ending) (w' : World) : Prop :=
  ((∃ l v, runO b names [] (ptsL b 16 n 0) = .ok l ∧ e = .returned (.tuple #[v, .int .i64 0, .int .u64 0]) ∧ w'.ownsRow w.heap.size 47 4 v l.length (ndC l)) ∨
   (∃ c p, runO b names [] (ptsL b 16 n 0) = .error (c, p) ∧ e = .returned (.tuple #[.slice none 0 0, .int .i64 c, .int .u64 (p : Int)]))) ∧
  Below w.heap.size w w'
theorem rneeds_bad {w wr : World} {b names : ByteArray} {n p : Nat} {c : Int} {r : Rn} {e : Ending} (hr : runO b names [] (ptsL b 16 n 0) = r) (h : r = .error (c, p)) (he : e = .returned (.tuple #[.slice none 0 0, .int .i64 c, .int .u64 (p : Int)])) (hB : Below w.heap.size w wr) : RNeedsPost w b names n e wr :=
  ⟨.inr ⟨c, p, hr.trans h, he⟩, hB⟩

theorem nd_new1 (W : World) (x : Nd) : ∀ (j : Nat) (u : Value), x.cells[j]? = some u → (W.alloc (.cells #[.int .i64 x.n, .string x.file, .string x.name, .bool x.weak] 47)).cell? ((⟨W.heap.size, 0, none⟩ : Addr).add j) = some u := by
  intro j u hu
  match j, hu with
  | 0, hu => simp [Nd.cells] at hu; subst hu; simp [go_sem]
  | 1, hu => simp [Nd.cells] at hu; subst hu; simp [go_sem]
  | 2, hu => simp [Nd.cells] at hu; subst hu; simp [go_sem]
  | 3, hu => simp [Nd.cells] at hu; subst hu; simp [go_sem]
  | j + 4, hu => simp [Nd.cells] at hu

theorem runO_cons (b names : ByteArray) (acc : List Nd) (x : Pt) (l : List Pt) : runO b names acc (x :: l) = (match stepO b names acc x with | .ok a => runO b names a l | .error (c, p) => .error (c, p)) := rfl
theorem runI_cons (names file : ByteArray) (acc : List Nd) (x : Pt) (l : List Pt) : runI names file acc (x :: l) = (match stepI names file acc x with | .ok a => runI names file a l | .error (c, p) => .error (c, p)) := rfl

set_option maxRecDepth 100000 in
set_option maxHeartbeats 8000000 in
theorem refneeds_limit (b names : ByteArray) (n : Int) (w : World) (h : n < 0 ∨ 64 < n) : Calls Try.prog 14 #[.string b, .string names, .int .i64 n] w fun e w' => e = .returned (.tuple #[.slice none 0 0, .int .i64 6, .int .u64 0]) ∧ Below w.heap.size w w' := by
  by_cases h0 : n < 0
  · go_enter Try.func14, Try.ntmps14
    go_wp2
    refine ⟨rfl, _, results_three rfl _ _, rfl, Below.refl _ _⟩
  · have h1 : 64 < n := by omega
    clear h
    go_enter Try.func14, Try.ntmps14
    go_wp2
    refine ⟨rfl, _, results_three rfl _ _, rfl, Below.refl _ _⟩

set_option maxRecDepth 100000 in
set_option maxHeartbeats 16000000 in
theorem refneeds_any (b names : ByteArray) (N : Nat) (w : World) (hb : b.size ≤ 140737488351232) (hnm : names.size ≤ 9223372036854775807) (hN : N ≤ 64) :
    Calls Try.prog 14 #[.string b, .string names, .int .i64 (N : Int)] w (RNeedsPost w b names N) := by
  obtain ⟨i0, hi0, hz0, hz1, hz2⟩ := info_parts Try.info47
  obtain ⟨R, hR⟩ : ∃ R, runO b names [] (ptsL b 16 N 0) = R := ⟨_, rfl⟩
  have HRR : Hid (runO b names [] (ptsL b 16 N 0) = R) := hR
  clear hR
  have hNi : ¬ (N : Int) < 0 := by omega
  have hN64 : ¬ (64 : Int) < (N : Int) := by omega
  go_enter Try.func14, Try.ntmps14
  go_wp2
  go_loopw [9, 10, 11] (fun s a i wr => ∃ (k p : Nat) (acc : List Nd) (v : Value), k ≤ N ∧ i = .int .i64 k ∧ a = .int .u64 (p : Int) ∧ s = v ∧ p < 1125899906842624 ∧ Hid (R = runO b names acc (ptsL b 16 (N - k) p)) ∧ Hid (wr.ownsRow w.heap.size 47 4 v acc.length (ndC acc)) ∧ Hid (Below w.heap.size w wr) ∧ acc.length ≤ 64)
    (fun _ _ i _ => N - (intOf i).toNat)
  case atStart => exact ⟨0, 0, [], _, Nat.zero_le _, rfl, rfl, rfl, by omega, HRR.out.symm, World.ownsRow_nil _ _ _ _, Below.refl _ _, by simp⟩
  case round =>
    obtain ⟨k, p, acc, v, hk, rfl, rfl, rfl, hp, HP, HR, HB, h64⟩ := hrel
    by_cases hlt : k < N
    · have hki : (k : Int) < (N : Int) := by omega
      have hNK : N - k = (N - (k + 1)) + 1 := by omega
      have HNK : Hid (R = runO b names acc (ptsL b 16 ((N - (k + 1)) + 1) p)) := by show _ = _; rw [HP.out, hNK]
      clear hNK HP
      by_cases hin : p + 16 ≤ b.size
      · obtain ⟨e, he⟩ : ∃ e, b.extract p (p + 16) = e := ⟨_, rfl⟩
        have hes : e.size = 16 := by rw [← he]; exact ext_m b p 16 hin
        obtain ⟨q, hq, hq4⟩ : ∃ q : Nat, num (e.extract 8 12) = (q : Int) ∧ q < 4294967296 := ⟨(num (e.extract 8 12)).toNat, by have := (num_bounds (e.extract 8 12)).1; omega, num_lt4 _ (by simp; omega)⟩
        obtain ⟨nx, hnx, hnx4⟩ : ∃ nx : Nat, num (e.extract 12 16) = (nx : Int) ∧ nx < 4294967296 := ⟨(num (e.extract 12 16)).toNat, by have := (num_bounds (e.extract 12 16)).1; omega, num_lt4 _ (by simp; omega)⟩
        obtain ⟨q2, hq2, hq24⟩ : ∃ q2 : Nat, num (e.extract 2 4) = (q2 : Int) ∧ q2 < 4294967296 := ⟨(num (e.extract 2 4)).toNat, by have := (num_bounds (e.extract 2 4)).1; omega, num_lt4 _ (by simp; omega)⟩
        have HT : Hid (R = (match stepO b names acc (p, e) with | .ok a => runO b names a (ptsL b 16 (N - (k + 1)) (p + nx)) | .error (c, p) => .error (c, p))) := by
          show _ = _
          rw [HNK.out, ptsL, if_pos hin, runO_cons, he]
          have h2 : (num (e.extract (16 - 4) 16)).toNat = nx := by
            show (num (e.extract 12 16)).toNat = nx
            rw [hnx]; simp
          rw [h2]
        have HF : Hid (fileF b names e p = (if b.size < p + q + 16 then (⟨#[]⟩, 2) else if (num (e.extract 0 2) == 1 && num (e.extract 2 4) != 0) then if (txt names (num (e.extract 4 8)) 32).2 then ((txt names (num (e.extract 4 8)) 32).1, 0) else (⟨#[]⟩, 25) else (⟨#[]⟩, 4))) := by
          show _ = _
          unfold fileF
          rw [if_neg (by omega), hq, Int.toNat_natCast]
        have HER : ∀ c : Int, c ≠ 0 → (fileF b names e p).2 = c → R = .error (c, p) := by
          intro c h0 h1
          rw [HT.out]
          have : stepO b names acc (p, e) = .error (c, p) := by unfold stepO; rw [if_pos (by rw [h1]; exact h0), h1]
          rw [this]
        have HER : Hid (∀ c : Int, c ≠ 0 → (fileF b names e p).2 = c → R = .error (c, p)) := HER
        have N8 : ∀ W, Calls Try.prog 24 #[.string b, .int .u64 ((p : Int) + 8), .int .i64 4] W fun r w' => r = .returned (.int .u64 (q : Int)) ∧ w' = W := by
          intro W
          have h := rnum_any b (p + 8) 4 W hb (by omega) (by omega)
          rw [rn_in16 b p 8 4 hin (by omega), he, hq] at h
          exact h
        have N0 : ∀ W, Calls Try.prog 24 #[.string b, .int .u64 (p : Int), .int .i64 2] W fun r w' => r = .returned (.int .u64 (num (e.extract 0 2))) ∧ w' = W := by
          intro W
          have h := rnum_any b (p + 0) 2 W hb (by omega) (by omega)
          rw [rn_in16 b p 0 2 hin (by omega), he] at h
          exact h
        have N2 : ∀ W, Calls Try.prog 24 #[.string b, .int .u64 ((p : Int) + 2), .int .i64 2] W fun r w' => r = .returned (.int .u64 (q2 : Int)) ∧ w' = W := by
          intro W
          have h := rnum_any b (p + 2) 2 W hb (by omega) (by omega)
          rw [rn_in16 b p 2 2 hin (by omega), he, hq2] at h
          exact h
        have N4 : ∀ W, Calls Try.prog 24 #[.string b, .int .u64 ((p : Int) + 4), .int .i64 4] W fun r w' => r = .returned (.int .u64 (num (e.extract 4 8))) ∧ w' = W := by
          intro W
          have h := rnum_any b (p + 4) 4 W hb (by omega) (by omega)
          rw [rn_in16 b p 4 4 hin (by omega), he] at h
          exact h
        have N12 : ∀ W, Calls Try.prog 24 #[.string b, .int .u64 ((p : Int) + 12), .int .i64 4] W fun r w' => r = .returned (.int .u64 (nx : Int)) ∧ w' = W := by
          intro W
          have h := rnum_any b (p + 12) 4 W hb (by omega) (by omega)
          rw [rn_in16 b p 12 4 hin (by omega), he, hnx] at h
          exact h
        have H16 : ∀ W, Calls Try.prog 25 #[.string b, .int .u64 (p : Int), .int .u64 16] W fun r w' => r = .returned (.bool true) ∧ w' = W := fun W => has_any b p 16 true W hb (by omega) (by omega) (by show _ = _; simp; omega)
        clear HNK
        by_cases hfar : p + q + 16 ≤ b.size
        · have H8 : ∀ W, Calls Try.prog 25 #[.string b, .int .u64 ((p : Int) + (q : Int)), .int .u64 16] W fun r w' => r = .returned (.bool true) ∧ w' = W := by
            intro W
            have h := has_any b (p + q) 16 true W hb (by omega) (by omega) (by show _ = _; simp; omega)
            exact h
          obtain ⟨x0, hx0⟩ : ∃ x0, num (e.extract 0 2) = x0 := ⟨_, rfl⟩
          rw [hx0] at N0
          have hnb : ¬ b.size < p + q + 16 := by omega
          by_cases h1 : x0 = 1
          · subst h1
            by_cases h6 : q2 = 0
            · subst h6
              have HDD : Hid (R = .error (4, p)) := HER.out 4 (by decide) (by rw [HF.out, if_neg hnb, hx0, hq2]; rfl)
              clear he N4 N12 HT hin hx0 hq2 HER
              go_wp2_with (first
                | (go_at_call 24; with_reducible refine (N8 _).mono ?_; rintro r w' ⟨rfl, rfl⟩)
                | (go_at_call 24; with_reducible refine (N0 _).mono ?_; rintro r w' ⟨rfl, rfl⟩)
                | (go_at_call 24; with_reducible refine (N2 _).mono ?_; rintro r w' ⟨rfl, rfl⟩)
                | (go_at_call 25; with_reducible refine (H16 _).mono ?_; rintro r w' ⟨rfl, rfl⟩)
                | (go_at_call 25; with_reducible refine (H8 _).mono ?_; rintro r w' ⟨rfl, rfl⟩))
              refine ⟨rfl, _, results_three rfl _ _, ?_⟩
              exact rneeds_bad HRR.out HDD.out rfl HB.out
            · have h6b : ((q2 : Int) == 0) = false := by simp [h6]
              have h6n : ((q2 : Int) != 0) = true := by simp [h6]
              have hq0 : (0 : Int) < (q2 : Int) := by omega
              have HFF : Hid ((num (e.extract 0 2) == 1 && num (e.extract 2 4) != 0) = true) := by show _ = _; rw [hx0, hq2, h6n]; rfl
              obtain ⟨xf, hxf⟩ : ∃ xf, num (e.extract 4 8) = xf := ⟨_, rfl⟩
              have hxf0 : 0 ≤ xf := by rw [← hxf]; exact (num_bounds _).1
              rw [hxf] at N4
              obtain ⟨tx, htx⟩ : ∃ tx, txt names xf 32 = tx := ⟨_, rfl⟩
              obtain ⟨t, ok⟩ := tx
              have HTX : Hid (txt names xf 32 = (t, ok)) := htx
              have HTF : Hid (txt names (num (e.extract 4 8)) 32 = (t, ok)) := by show _ = _; rw [hxf, htx]
              clear htx hxf hx0
              cases ok with
              | false =>
                have HDD : Hid (R = .error (25, p)) := HER.out 25 (by decide) (by rw [HF.out, if_neg hnb, HFF.out, HTF.out]; rfl)
                clear he N12 HT hin hq2 HER
                go_wp2_with (first
                  | (go_at_call 24; with_reducible refine (N8 _).mono ?_; rintro r w' ⟨rfl, rfl⟩)
                  | (go_at_call 24; with_reducible refine (N0 _).mono ?_; rintro r w' ⟨rfl, rfl⟩)
                  | (go_at_call 24; with_reducible refine (N2 _).mono ?_; rintro r w' ⟨rfl, rfl⟩)
                  | (go_at_call 24; with_reducible refine (N4 _).mono ?_; rintro r w' ⟨rfl, rfl⟩)
                  | (go_at_call 26; refine (reftext_any _ _ _ _ _ _ HTX hnm hxf0 (by omega) (by omega)).mono ?_; rintro r w' ⟨rfl, rfl⟩)
                  | (go_at_call 25; with_reducible refine (H16 _).mono ?_; rintro r w' ⟨rfl, rfl⟩)
                  | (go_at_call 25; with_reducible refine (H8 _).mono ?_; rintro r w' ⟨rfl, rfl⟩))
                refine ⟨rfl, _, results_three rfl _ _, ?_⟩
                exact rneeds_bad HRR.out HDD.out rfl HB.out
              | true =>
                have HST : Hid (stepO b names acc (p, e) = runI names t acc (ptsL b 16 q2 (p + q))) := by
                  show _ = _
                  have hff : fileF b names e p = (t, 0) := by rw [HF.out, if_neg hnb, HFF.out, HTF.out]; rfl
                  unfold stepO
                  rw [hff, if_neg (fun h => h rfl), hq2, hq, Int.toNat_natCast, Int.toNat_natCast]
                clear he hin hq2 HER HF HFF HTF
                go_wp2_with (first
                  | (go_at_call 24; with_reducible refine (N8 _).mono ?_; rintro r w' ⟨rfl, hw'⟩; subst hw')
                  | (go_at_call 24; with_reducible refine (N0 _).mono ?_; rintro r w' ⟨rfl, hw'⟩; subst hw')
                  | (go_at_call 24; with_reducible refine (N2 _).mono ?_; rintro r w' ⟨rfl, hw'⟩; subst hw')
                  | (go_at_call 24; with_reducible refine (N4 _).mono ?_; rintro r w' ⟨rfl, hw'⟩; subst hw')
                  | (go_at_call 26; refine (reftext_any _ _ _ _ _ _ HTX hnm hxf0 (by omega) (by omega)).mono ?_; rintro r w' ⟨rfl, hw'⟩; subst hw')
                  | (go_at_call 25; with_reducible refine (H16 _).mono ?_; rintro r w' ⟨rfl, hw'⟩; subst hw')
                  | (go_at_call 25; with_reducible refine (H8 _).mono ?_; rintro r w' ⟨rfl, hw'⟩; subst hw'))
                have hq2b : (q2 : Int) < 4294967296 := by omega
                have HT3 : Hid (R = (match runI names t acc (ptsL b 16 q2 (p + q)) with | .ok a => runO b names a (ptsL b 16 (N - (k + 1)) (p + nx)) | .error (c, p) => .error (c, p))) := by show _ = _; rw [HT.out, HST.out]
                obtain ⟨R2, hR2⟩ : ∃ R2, runI names t acc (ptsL b 16 q2 (p + q)) = R2 := ⟨_, rfl⟩
                rw [hR2] at HT3
                have HR2 : Hid (runI names t acc (ptsL b 16 q2 (p + q)) = R2) := hR2
                clear hR2 HT HST N8 N0 N2 N4 H8
                go_loopw [9, 12, 16] (fun s a i wq => ∃ (j pv : Nat) (acc2 : List Nd) (v2 : Value), j ≤ q2 ∧ i = .int .u64 (j : Int) ∧ a = .int .u64 (pv : Int) ∧ s = v2 ∧ pv < 1125899906842624 ∧ Hid (R2 = runI names t acc2 (ptsL b 16 (q2 - j) pv)) ∧ Hid (wq.ownsRow w.heap.size 47 4 v2 acc2.length (ndC acc2)) ∧ Hid (Below w.heap.size w wq) ∧ acc2.length ≤ 64)
                  (fun _ _ i _ => q2 - (intOf i).toNat)
                case atStart => exact ⟨0, p + q, acc, _, Nat.zero_le _, rfl, by push_cast; rfl, rfl, by omega, HR2.out.symm, HR.out, HB.out, h64⟩
                case round =>
                  obtain ⟨j, pv, acc2, v2, hj, rfl, rfl, rfl, hpv, HPI, HRI, HBI, h642⟩ := hrel
                  by_cases hlt2 : j < q2
                  · have hji : (j : Int) < (q2 : Int) := by omega
                    have hQJ : q2 - j = (q2 - (j + 1)) + 1 := by omega
                    have HPJ : Hid (R2 = runI names t acc2 (ptsL b 16 ((q2 - (j + 1)) + 1) pv)) := by show _ = _; rw [HPI.out, hQJ]
                    clear hQJ HPI
                    by_cases hin2 : pv + 16 ≤ b.size
                    · obtain ⟨y, hy⟩ : ∃ y, b.extract pv (pv + 16) = y := ⟨_, rfl⟩
                      have hys : y.size = 16 := by rw [← hy]; exact ext_m b pv 16 hin2
                      obtain ⟨ny, hny, hny4⟩ : ∃ ny : Nat, num (y.extract 12 16) = (ny : Int) ∧ ny < 4294967296 := ⟨(num (y.extract 12 16)).toNat, by have := (num_bounds (y.extract 12 16)).1; omega, num_lt4 _ (by simp; omega)⟩
                      have HTJ : Hid (R2 = (match stepI names t acc2 (pv, y) with | .ok a => runI names t a (ptsL b 16 (q2 - (j + 1)) (pv + ny)) | .error (c, p) => .error (c, p))) := by
                        show _ = _
                        rw [HPJ.out, ptsL, if_pos hin2, runI_cons, hy]
                        have h2 : (num (y.extract (16 - 4) 16)).toNat = ny := by
                          show (num (y.extract 12 16)).toNat = ny
                          rw [hny]; simp
                        rw [h2]
                      have M8 : ∀ W, Calls Try.prog 24 #[.string b, .int .u64 ((pv : Int) + 8), .int .i64 4] W fun r w' => r = .returned (.int .u64 (num (y.extract 8 12))) ∧ w' = W := by
                        intro W
                        have h := rnum_any b (pv + 8) 4 W hb (by omega) (by omega)
                        rw [rn_in16 b pv 8 4 hin2 (by omega), hy] at h
                        exact h
                      have M6 : ∀ W, Calls Try.prog 24 #[.string b, .int .u64 ((pv : Int) + 6), .int .i64 2] W fun r w' => r = .returned (.int .u64 (num (y.extract 6 8))) ∧ w' = W := by
                        intro W
                        have h := rnum_any b (pv + 6) 2 W hb (by omega) (by omega)
                        rw [rn_in16 b pv 6 2 hin2 (by omega), hy] at h
                        exact h
                      have M4 : ∀ W, Calls Try.prog 24 #[.string b, .int .u64 ((pv : Int) + 4), .int .i64 2] W fun r w' => r = .returned (.int .u64 (num (y.extract 4 6))) ∧ w' = W := by
                        intro W
                        have h := rnum_any b (pv + 4) 2 W hb (by omega) (by omega)
                        rw [rn_in16 b pv 4 2 hin2 (by omega), hy] at h
                        exact h
                      have M12 : ∀ W, Calls Try.prog 24 #[.string b, .int .u64 ((pv : Int) + 12), .int .i64 4] W fun r w' => r = .returned (.int .u64 (ny : Int)) ∧ w' = W := by
                        intro W
                        have h := rnum_any b (pv + 12) 4 W hb (by omega) (by omega)
                        rw [rn_in16 b pv 12 4 hin2 (by omega), hy, hny] at h
                        exact h
                      have HI16 : ∀ W, Calls Try.prog 25 #[.string b, .int .u64 (pv : Int), .int .u64 16] W fun r w' => r = .returned (.bool true) ∧ w' = W := fun W => has_any b pv 16 true W hb (by omega) (by omega) (by show _ = _; simp; omega)
                      obtain ⟨yf, hyf⟩ : ∃ yf, num (y.extract 8 12) = yf := ⟨_, rfl⟩
                      have hyf0 : 0 ≤ yf := by rw [← hyf]; exact (num_bounds _).1
                      rw [hyf] at M8
                      obtain ⟨ty2, hty⟩ : ∃ tx, txt names yf 32 = tx := ⟨_, rfl⟩
                      obtain ⟨ty, oky⟩ := ty2
                      have HTY : Hid (txt names yf 32 = (ty, oky)) := hty
                      have HTYF : Hid (txt names (num (y.extract 8 12)) 32 = (ty, oky)) := by show _ = _; rw [hyf, hty]
                      clear hty hyf HPJ
                      cases oky with
                      | false =>
                        have HDD : Hid (R = .error (25, pv)) := by
                          show _ = _
                          have hn : needF names t y = (Nd.zero, 25) := by
                            unfold needF
                            rw [if_neg (by omega), HTYF.out, if_neg (show ¬ ((ty, false) : ByteArray × Bool).2 = true from fun h => Bool.noConfusion h)]
                          have hs : stepI names t acc2 (pv, y) = .error (25, pv) := by
                            unfold stepI
                            show (if (needF names t y).2 ≠ 0 then Except.error ((needF names t y).2, pv) else _) = _
                            rw [hn, if_pos (by decide)]
                          rw [HT3.out, HTJ.out, hs]
                        clear hy M6 M4 M12 HTJ HT3 hin2
                        go_wp2_with (first
                          | (go_at_call 24; with_reducible refine (M8 _).mono ?_; rintro r w' ⟨rfl, rfl⟩)
                          | (go_at_call 26; refine (reftext_any _ _ _ _ _ _ HTY hnm hyf0 (by omega) (by omega)).mono ?_; rintro r w' ⟨rfl, rfl⟩)
                          | (go_at_call 25; with_reducible refine (HI16 _).mono ?_; rintro r w' ⟨rfl, rfl⟩))
                        refine ⟨rfl, _, results_three rfl _ _, ?_⟩
                        exact rneeds_bad HRR.out HDD.out rfl HBI.out
                      | true =>
                        obtain ⟨va, vn, vc, rfl⟩ := ownsRow_slice HRI.out
                        obtain rfl : vn = acc2.length := slice_len HRI.out
                        have hn : needF names t y = (⟨num (y.extract 6 8) % 32768, t, ty, num (y.extract 4 6) / 2 % 2 == 1⟩, 0) := by
                          unfold needF
                          rw [if_neg (by omega), HTYF.out]
                          rfl
                        by_cases he64 : acc2.length = 64
                        · have HDD : Hid (R = .error (6, pv)) := by
                            show _ = _
                            have hs : stepI names t acc2 (pv, y) = .error (6, pv) := by
                              unfold stepI
                              show (if (needF names t y).2 ≠ 0 then Except.error ((needF names t y).2, pv) else if acc2.length = 64 then Except.error (6, pv) else _) = _
                              rw [hn, if_neg (fun h => h rfl), if_pos he64]
                            rw [HT3.out, HTJ.out, hs]
                          have he6 : ((acc2.length : Int) == 64) = true := by simp [he64]
                          clear hy M6 M4 M12 HTJ HT3 hin2 hn he64
                          go_wp2_with (first
                            | (go_at_call 24; with_reducible refine (M8 _).mono ?_; rintro r w' ⟨rfl, rfl⟩)
                            | (go_at_call 26; refine (reftext_any _ _ _ _ _ _ HTY hnm hyf0 (by omega) (by omega)).mono ?_; rintro r w' ⟨rfl, rfl⟩)
                            | (go_at_call 25; with_reducible refine (HI16 _).mono ?_; rintro r w' ⟨rfl, rfl⟩))
                          refine ⟨rfl, _, results_three rfl _ _, ?_⟩
                          exact rneeds_bad HRR.out HDD.out rfl HBI.out
                        · have he6 : ((acc2.length : Int) == 64) = false := by simp; omega
                          have b6 := num_bounds (y.extract 6 8)
                          have b4 := num_bounds (y.extract 4 6)
                          obtain ⟨x6, hx6⟩ : ∃ x, num (y.extract 6 8) = x := ⟨_, rfl⟩
                          obtain ⟨x4, hx4⟩ : ∃ x, num (y.extract 4 6) = x := ⟨_, rfl⟩
                          rw [hx6] at M6 b6 hn
                          rw [hx4] at M4 b4 hn
                          obtain ⟨b60, b61⟩ := b6
                          obtain ⟨b40, b41⟩ := b4
                          obtain ⟨dn, hdn⟩ : ∃ dn, x6 % 32768 = dn := ⟨_, rfl⟩
                          obtain ⟨hf, hhf⟩ : ∃ hf, x4 / 2 = hf := ⟨_, rfl⟩
                          obtain ⟨hm, hhm⟩ : ∃ hm, hf % 2 = hm := ⟨_, rfl⟩
                          obtain ⟨nw, hnw⟩ : ∃ nw, (hm == 1) = nw := ⟨_, rfl⟩
                          have hdn2 : x6.tmod 32768 = dn := by rw [Int.tmod_eq_emod_of_nonneg b60]; exact hdn
                          have hhf2 : x4.tdiv 2 = hf := by rw [Int.tdiv_eq_ediv_of_nonneg b40]; exact hhf
                          have hhm2 : hf.tmod 2 = hm := by rw [Int.tmod_eq_emod_of_nonneg (by omega)]; exact hhm
                          have d0 : 0 ≤ dn := by omega
                          have d1 : dn < 32768 := by omega
                          have HSJ : Hid (R2 = runI names t (acc2 ++ [⟨dn, t, ty, nw⟩]) (ptsL b 16 (q2 - (j + 1)) (pv + ny))) := by
                            show _ = _
                            have hs : stepI names t acc2 (pv, y) = .ok (acc2 ++ [⟨dn, t, ty, nw⟩]) := by
                              unfold stepI
                              show (if (needF names t y).2 ≠ 0 then Except.error ((needF names t y).2, pv) else if acc2.length = 64 then Except.error (6, pv) else Except.ok (acc2 ++ [(needF names t y).1])) = _
                              rw [hn, if_neg (fun h => h rfl), if_neg he64, hdn, hhf, hhm, hnw]
                            rw [HTJ.out, hs]
                          have HH64 : Hid (¬ acc2.length = 64) := he64
                          have hBs := HBI.out.size
                          have HR4 : Hid (_) := HRI.out.alloc (.cells #[.int .i64 dn, .string t, .string ty, .bool nw] 47)
                          have hx : ∀ (j : Nat) (u : Value), [Value.int .i64 dn, Value.string t, Value.string ty, Value.bool nw][j]? = some u → (wr.alloc (.cells #[.int .i64 dn, .string t, .string ty, .bool nw] 47)).cell? ((⟨wr.heap.size, 0, none⟩ : Addr).add j) = some u := nd_new1 _ ⟨dn, t, ty, nw⟩
                          have oc : ∀ u ∈ [Value.int .i64 dn, Value.string t, Value.string ty, Value.bool nw], u.oneCell' = true := nd_one ⟨dn, t, ty, nw⟩
                          have m1 : acc2.length + 1 ≤ maxLen := by unfold maxLen; omega
                          have m2 : (acc2.length + 1) * 48 ≤ 140737488355328 := by omega
                          have m3 : w.heap.size ≤ (wr.alloc (.cells #[.int .i64 dn, .string t, .string ty, .bool nw] 47)).heap.size := by simp; omega
                          have hge := row_ge HRI.out
                          have HGE : Hid (_) := hge
                          have hpn2 : pv + ny < 1125899906842624 := by omega
                          clear hy hin2 hn he64 hx6 hx4 HTJ hge
                          go_wp2_with (first
                            | (go_at_call 24; with_reducible refine (M8 _).mono ?_; rintro r w' ⟨rfl, hw'⟩; subst hw')
                            | (go_at_call 24; with_reducible refine (M6 _).mono ?_; rintro r w' ⟨rfl, hw'⟩; subst hw')
                            | (go_at_call 24; with_reducible refine (M4 _).mono ?_; rintro r w' ⟨rfl, hw'⟩; subst hw')
                            | (go_at_call 24; with_reducible refine (M12 _).mono ?_; rintro r w' ⟨rfl, hw'⟩; subst hw')
                            | (go_at_call 26; refine (reftext_any _ _ _ _ _ _ HTY hnm hyf0 (by omega) (by omega)).mono ?_; rintro r w' ⟨rfl, hw'⟩; subst hw')
                            | (go_at_call 25; with_reducible refine (HI16 _).mono ?_; rintro r w' ⟨rfl, hw'⟩; subst hw')
                            | (at_builtin; refine wpList_append_own_at _ rfl _ _ 43 rfl w.heap.size 47 i0 _ 4 48 Try.underlying43 hi0 hz0 hz1 hz2 rfl (by decide) _ acc2.length _ rfl HR4.out ⟨_, 0, none⟩ 1 1 [Value.int .i64 dn, Value.string t, Value.string ty, Value.bool nw] rfl rfl hx oc m1 m2 m3 ?_; intro v' w1 hown' hgrow _ hlies; obtain ⟨g', cap', rfl⟩ := ownsRow_succ hown'))
                          refine ⟨⟨j + 1, pv + ny, acc2 ++ [(⟨dn, t, ty, nw⟩ : Nd)], _, by omega, by go_num, by push_cast; rfl, rfl, hpn2, HSJ.out, ?_, ?_, ?_⟩, by simp [intOf]; omega⟩
                          · show World.ownsRow _ _ _ _ _ (acc2 ++ [(⟨dn, t, ty, nw⟩ : Nd)]).length (ndC (acc2 ++ [(⟨dn, t, ty, nw⟩ : Nd)]))
                            rw [ndC_snoc, List.length_append]
                            exact hown'
                          · exact (HBI.out.alloc hBs _).grown hgrow (by simp; omega) (fun q hq => HGE.out q hq)
                          · have := HH64.out
                            simp
                            omega
                    · have HDD : Hid (R = .error (2, pv)) := by
                        show _ = _
                        have hs : stepI names t acc2 (pv, ⟨#[]⟩) = .error (2, pv) := by
                          have hn : needF names t ⟨#[]⟩ = (Nd.zero, 2) := by unfold needF; rw [if_pos (show (⟨#[]⟩ : ByteArray).size = 0 from rfl)]
                          unfold stepI
                          show (if (needF names t ⟨#[]⟩).2 ≠ 0 then Except.error ((needF names t ⟨#[]⟩).2, pv) else _) = _
                          rw [hn, if_pos (by decide)]
                        rw [HT3.out, HPJ.out, ptsL, if_neg hin2, runI_cons, hs]
                      have HI16 : ∀ W, Calls Try.prog 25 #[.string b, .int .u64 (pv : Int), .int .u64 16] W fun r w' => r = .returned (.bool false) ∧ w' = W := fun W => has_any b pv 16 false W hb (by omega) (by omega) (by show _ = _; simp only [decide_eq_false_iff_not]; omega)
                      clear HPJ HT3
                      go_wp2_with (first
                        | (go_at_call 25; with_reducible refine (HI16 _).mono ?_; rintro r w' ⟨rfl, rfl⟩))
                      refine ⟨rfl, _, results_three rfl _ _, ?_⟩
                      exact rneeds_bad HRR.out HDD.out rfl HBI.out
                  · have hji : ¬ (j : Int) < (q2 : Int) := by omega
                    obtain rfl : j = q2 := by omega
                    have HRJ : Hid (R = runO b names acc2 (ptsL b 16 (N - (k + 1)) (p + nx))) := by
                      show _ = _
                      rw [HT3.out, HPI.out, Nat.sub_self]
                      rfl
                    clear HT3 HPI
                    go_wp2_with (first
                      | (go_at_call 24; with_reducible refine (N12 _).mono ?_; rintro r w' ⟨rfl, rfl⟩))
                    refine ⟨⟨k + 1, p + nx, acc2, _, by omega, by go_num, by push_cast; rfl, rfl, by omega, HRJ.out, HRI.out, HBI.out, h642⟩, by simp [intOf]; omega⟩
          · have h1b : (x0 != 1) = true := by simp [h1]
            have h1e : (x0 == 1) = false := by simp [h1]
            have HDD : Hid (R = .error (4, p)) := HER.out 4 (by decide) (by rw [HF.out, if_neg hnb, hx0, h1e]; rfl)
            clear he N4 N12 HT hin hx0 h1 h1e HER hq2
            go_wp2_with (first
              | (go_at_call 24; with_reducible refine (N8 _).mono ?_; rintro r w' ⟨rfl, rfl⟩)
              | (go_at_call 24; with_reducible refine (N0 _).mono ?_; rintro r w' ⟨rfl, rfl⟩)
              | (go_at_call 24; with_reducible refine (N2 _).mono ?_; rintro r w' ⟨rfl, rfl⟩)
              | (go_at_call 25; with_reducible refine (H16 _).mono ?_; rintro r w' ⟨rfl, rfl⟩)
              | (go_at_call 25; with_reducible refine (H8 _).mono ?_; rintro r w' ⟨rfl, rfl⟩))
            refine ⟨rfl, _, results_three rfl _ _, ?_⟩
            exact rneeds_bad HRR.out HDD.out rfl HB.out
        · have H8 : ∀ W, Calls Try.prog 25 #[.string b, .int .u64 ((p : Int) + (q : Int)), .int .u64 16] W fun r w' => r = .returned (.bool false) ∧ w' = W := by
            intro W
            have h := has_any b (p + q) 16 false W hb (by omega) (by omega) (by show _ = _; simp only [decide_eq_false_iff_not]; omega)
            exact h
          have HDD : Hid (R = .error (2, p)) := HER.out 2 (by decide) (by rw [HF.out, if_pos (by omega)])
          clear he N0 N2 N4 N12 HT hin HER hq2
          go_wp2_with (first
            | (go_at_call 24; with_reducible refine (N8 _).mono ?_; rintro r w' ⟨rfl, rfl⟩)
            | (go_at_call 25; with_reducible refine (H16 _).mono ?_; rintro r w' ⟨rfl, rfl⟩)
            | (go_at_call 25; with_reducible refine (H8 _).mono ?_; rintro r w' ⟨rfl, rfl⟩))
          refine ⟨rfl, _, results_three rfl _ _, ?_⟩
          exact rneeds_bad HRR.out HDD.out rfl HB.out
      · have HDD : Hid (R = .error (2, p)) := by
          show _ = _
          rw [HNK.out, ptsL, if_neg hin, runO_cons]
          have : stepO b names acc (p, ⟨#[]⟩) = .error (2, p) := by
            have hf : fileF b names ⟨#[]⟩ p = (⟨#[]⟩, 2) := by unfold fileF; rw [if_pos (show (⟨#[]⟩ : ByteArray).size = 0 from rfl)]
            unfold stepO
            show (if (fileF b names ⟨#[]⟩ p).2 ≠ 0 then Except.error ((fileF b names ⟨#[]⟩ p).2, p) else _) = _
            rw [hf, if_pos (by decide)]
          rw [this]
        obtain ⟨y, hy⟩ : ∃ y, rn b (p + 8) 4 = y := ⟨_, rfl⟩
        have hy4 := rn_lt4 b (p + 8)
        rw [hy] at hy4
        have N8 : ∀ W, Calls Try.prog 24 #[.string b, .int .u64 ((p : Int) + 8), .int .i64 4] W fun r w' => r = .returned (.int .u64 y) ∧ w' = W := by
          intro W
          have h := rnum_any b (p + 8) 4 W hb (by omega) (by omega)
          rw [hy] at h
          exact h
        have H16 : ∀ W, Calls Try.prog 25 #[.string b, .int .u64 (p : Int), .int .u64 16] W fun r w' => r = .returned (.bool false) ∧ w' = W := fun W => has_any b p 16 false W hb (by omega) (by omega) (by show _ = _; simp only [decide_eq_false_iff_not]; omega)
        obtain ⟨hy0, hy1⟩ := hy4
        clear HNK hy
        go_wp2_with (first
          | (go_at_call 24; with_reducible refine (N8 _).mono ?_; rintro r w' ⟨rfl, rfl⟩)
          | (go_at_call 25; with_reducible refine (H16 _).mono ?_; rintro r w' ⟨rfl, rfl⟩))
        refine ⟨rfl, _, results_three rfl _ _, ?_⟩
        exact rneeds_bad HRR.out HDD.out rfl HB.out
    · obtain rfl : k = N := by omega
      have HE : Hid (R = .ok acc) := by
        show _ = _
        rw [HP.out, Nat.sub_self]
        rfl
      go_wp2
      exact ⟨rfl, _, results_three rfl _ _, .inl ⟨acc, _, HRR.out.trans HE.out, rfl, HR.out⟩, HB.out⟩
end Go.Proofs.Ytnlpncgblegbkaa
