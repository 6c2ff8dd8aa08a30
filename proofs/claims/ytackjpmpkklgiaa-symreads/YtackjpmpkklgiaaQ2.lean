/-
  The statement SymReads: its walk, where symbols are read.
-/
import Derived.Test.YtackjpmpkklgiaaQ1
import Derived.BigQuiet
namespace Go.Proofs.Ytackjpmpkklgiaa
open Go.RowKit
set_option linter.unusedVariables false

/-- What is asked of a symbol, by its binding and who sees it. -/
theorem asked (s : Sy) (hb0 : 0 ≤ s.bind) (hb2 : s.bind ≤ 2) (hv0 : 0 ≤ s.vis) (r1 r2 : Bool) (h1 : s.exported = r1) (h2 : s.own = r2) :
    (s.dfd = false ∧ r1 = false ∧ r2 = false) ∨ (s.dfd = true ∧ s.bind = 0 ∧ r1 = false ∧ r2 = true) ∨ (s.dfd = true ∧ (0 < s.bind ∧ (s.bind == 0) = false) ∧ s.vis = 0 ∧ r1 = true ∧ r2 = false) ∨
      (s.dfd = true ∧ (0 < s.bind ∧ (s.bind == 0) = false) ∧ s.vis = 3 ∧ r1 = true ∧ r2 = true) ∨ (s.dfd = true ∧ (0 < s.bind ∧ (s.bind == 0) = false) ∧ (0 < s.vis ∧ (s.vis == 0) = false ∧ (s.vis == 3) = false) ∧ r1 = false ∧ r2 = true) := by
  obtain ⟨n, b, k, v, d, x, z⟩ := s
  simp only at hb0 hb2 hv0
  unfold Sy.exported at h1
  unfold Sy.own at h2
  simp only at h1 h2
  cases d with
  | false => exact .inl ⟨rfl, by rw [← h1]; rfl, by rw [← h2]; rfl⟩
  | true =>
    by_cases e0 : b = 0
    · subst e0
      exact .inr (.inl ⟨rfl, rfl, by rw [← h1]; rfl, by rw [← h2]; rfl⟩)
    · have g0 : (b == 0) = false := by simp [e0]
      have hb : (b == 1 || b == 2) = true := by
        have : b = 1 ∨ b = 2 := by omega
        rcases this with rfl | rfl <;> rfl
      by_cases f0 : v = 0
      · subst f0
        exact .inr (.inr (.inl ⟨rfl, ⟨by show 0 < b; omega, g0⟩, rfl, by rw [← h1, hb]; rfl, by rw [← h2, g0]; rfl⟩))
      · by_cases f3 : v = 3
        · subst f3
          exact .inr (.inr (.inr (.inl ⟨rfl, ⟨by show 0 < b; omega, g0⟩, rfl, by rw [← h1, hb]; rfl, by rw [← h2, g0]; rfl⟩)))
        · have k0 : (v == 0) = false := by simp [f0]
          have k3 : (v == 3) = false := by simp [f3]
          have kn : (v != 0) = true := by simp [f0]
          exact .inr (.inr (.inr (.inr ⟨rfl, ⟨by show 0 < b; omega, g0⟩, ⟨by show 0 < v; omega, k0, k3⟩, by rw [← h1, hb, k0, k3]; rfl, by rw [← h2, g0, kn]; rfl⟩)))

set_option maxRecDepth 100000 in
set_option maxHeartbeats 8000000 in
theorem reads_some (b0 c B names : ByteArray) (cut c3 : Int) (K : Nat) (sy : Nat → Sy) (w : World) (hs0 : b0.size ≤ 9223372036854775807) (hc : b0.extract 0 (min b0.size 7000) = c) (hcz : c.size ≤ 7000) (h3 : bits BinOp.and IntKind.i64 cut 3 = c3)
    (hB : (¬ 0 < c3 ∧ c = B) ∨ (0 < c3 ∧ c.extract 0 (c.size / 24 * 24) = B)) (hK : K ≤ 256) (hK0 : 0 < K)
    (hsy : ∀ i, i < K → 0 ≤ (sy i).bind ∧ (sy i).bind ≤ 2 ∧ 0 ≤ (sy i).vis)
    (D : ∀ W, Calls Try.prog 10 #[.string B, .string names] W fun r w' => ∃ g k, r = .returned (.tuple #[.slice (some ⟨g, 0, none⟩) K k, flt 0 0]) ∧ (K ≤ k ∧ k ≤ 9223372036854775807) ∧ Hid (∀ i, i < K → SyO w' g (i * 7) (sy i)) ∧ Below W.heap.size W w')
    (R : ∀ W, Calls Try.prog 11 #[.string B, .string names] W fun r w' => ∃ g k, r = .returned (.tuple #[.slice (some ⟨g, 0, none⟩) K k, .int .i64 0, .int .u64 0]) ∧ (K ≤ k ∧ k ≤ 9223372036854775807) ∧ Hid (∀ i, i < K → SyO w' g (i * 7) (sy i)) ∧ Below W.heap.size W w') :
    Calls Try.prog 3 #[.string b0, .string names, .int .i64 cut] w fun e w' => e = .returned (.bool true) ∧ Below w.heap.size w w' := by
  have HSY : Hid (_) := hsy
  clear hsy
  go_enter Try.func3, Try.ntmps3
  go_upto_region 3 with (go_at_call 9; refine (speaks_any _).mono ?_; rintro r w1 ⟨rfl, hb1⟩)
  go_cut [0] (fun p wx => p = .string c ∧ wx = w1)
  case first =>
    by_cases hs : b0.size ≤ 7000
    all_goals
      first | rw [Nat.min_eq_left hs] at hc | rw [Nat.min_eq_right (by omega)] at hc
      go_wp2
      go_meet
      case rel => exact ⟨rfl, rfl⟩
  case rest =>
  obtain ⟨rfl, hw⟩ := hcut
  obtain rfl : w1 = wc := hw.symm
  clear hw
  go_upto_if 23 with fail
  go_cut [0] (fun p wx => p = .string B ∧ wx = w1)
  case first =>
    rcases hB with ⟨h0, hB⟩ | ⟨h0, hB⟩
    all_goals
      go_wp2
      go_meet
      case rel => exact ⟨by rw [← hB], rfl⟩
  case rest =>
  obtain ⟨rfl, hw⟩ := hcut
  obtain rfl : w1 = wc := hw.symm
  clear hw hB
  go_wp2_with (first
    | (go_at_call 10; refine (D _).mono ?_; rintro r w2 ⟨g1, k1, rfl, ⟨i1, j1⟩, HG1, hb2⟩; have hx := flt_new2 w2 0 0)
    | (go_at_call 11; refine (R _).mono ?_; rintro r w3 ⟨g2, k2, rfl, ⟨i2, j2⟩, HG2, hb3⟩; obtain ⟨c0, c1⟩ := flt_next2 hb3 hx.1 hx.2))
  have HB : Hid (Below w.heap.size w w3) := bt hb1 (bt hb2 (bt ((Below.refl _ w2).alloc (Nat.le_refl _) _) hb3))
  have HP1 : Hid (∀ i, i < K → SyO w3 g1 (i * 7) (sy i)) := fun i hi => (HG1.out i hi).next (((Below.refl _ w2).alloc (Nat.le_refl _) (fbox 0 0)).trans (hb3.mono (by simp)))
  clear hb1 hb2 hb3 hx c0 c1 D R HG1 hc h3 hs0
  go_loopw [12] (fun i wr => ∃ k : Nat, k ≤ K ∧ i = .int .i64 k ∧ Gr w3 wr) (fun i _ => K - (intOf i).toNat)
  case atStart => exact ⟨0, Nat.zero_le _, rfl, gr0 _⟩
  case round =>
    obtain ⟨k, hk, rfl, hG⟩ := hrel
    by_cases hlt : k < K
    · have hP := (HP1.out k hlt).next hG.below
      have hQ := (HG2.out k hlt).next hG.below
      obtain ⟨y1, y2, y3⟩ := HSY.out k hlt
      have HG : Hid (Gr w3 wr) := hG
      have hki : (k : Int) < (K : Int) := by omega
      have mixed := mixedTry
      obtain ⟨r1, hr1⟩ : ∃ r1, (sy k).exported = r1 := ⟨_, rfl⟩
      obtain ⟨r2, hr2⟩ : ∃ r2, (sy k).own = r2 := ⟨_, rfl⟩
      have hA := asked (sy k) y1 y2 y3 r1 r2 hr1 hr2
      have SM := same_any (sy k)
      have EX := exp_gr (sy k) r1 hr1
      have OW := own_gr (sy k) r2 hr2
      clear hr1 hr2 y1 y2 y3 hG
      generalize sy k = s at hP hQ hA SM EX OW
      obtain ⟨nm, b, kd, v, d, x, z⟩ := s
      have HPX : Hid (SyO wr g1 (k * 7) ⟨nm, b, kd, v, d, x, z⟩) := hP
      have HQX : Hid (SyO wr g2 (k * 7) ⟨nm, b, kd, v, d, x, z⟩) := hQ
      have q0 := fun n os => (hP.grown n os).1
      have q1 := fun n os => (hP.grown n os).2.1
      have q2 := fun n os => (hP.grown n os).2.2.1
      have q3 := fun n os => (hP.grown n os).2.2.2.1
      have q4 := fun n os => (hP.grown n os).2.2.2.2.1
      have q5 := fun n os => (hP.grown n os).2.2.2.2.2.1
      have q6 := fun n os => (hP.grown n os).2.2.2.2.2.2
      have p0 := fun n os => (hQ.grown n os).1
      have p1 := fun n os => (hQ.grown n os).2.1
      have p2 := fun n os => (hQ.grown n os).2.2.1
      have p3 := fun n os => (hQ.grown n os).2.2.2.1
      have p4 := fun n os => (hQ.grown n os).2.2.2.2.1
      have p5 := fun n os => (hQ.grown n os).2.2.2.2.2.1
      have p6 := fun n os => (hQ.grown n os).2.2.2.2.2.2
      have HA : Hid (_) := hA
      clear hP hQ hA
      dsimp only at *
      go_wp2
      go_quiet_grown (first | (go_at_call 12; with_reducible refine Calls.grown_of (Gr.call SM)))
      have HG5 : Hid (Gr w3 (Go.Sort.grow (wr.drewN nq) osq)) := HG.out.trans ⟨_, _, rfl⟩
      have HPY : Hid (SyO (Go.Sort.grow (wr.drewN nq) osq) g1 (k * 7) ⟨nm, b, kd, v, d, x, z⟩) := HPX.out.grown _ _
      have HQY : Hid (SyO (Go.Sort.grow (wr.drewN nq) osq) g2 (k * 7) ⟨nm, b, kd, v, d, x, z⟩) := HQX.out.grown _ _
      clear q0 q1 q2 q3 q4 q5 q6 p0 p1 p2 p3 p4 p5 p6 HPX HQX SM
      generalize Go.Sort.grow (wr.drewN nq) osq = V at *
      obtain ⟨q0, q1, q2, q3, q4, q5, q6⟩ := HPY.out
      obtain ⟨p0, p1, p2, p3, p4, p5, p6⟩ := HQY.out
      rcases HA.out with ⟨rfl, rfl, rfl⟩ | ⟨rfl, rfl, rfl, rfl⟩ | ⟨rfl, ⟨e1, e2⟩, rfl, rfl, rfl⟩ | ⟨rfl, ⟨e1, e2⟩, rfl, rfl, rfl⟩ | ⟨rfl, ⟨e1, e2⟩, ⟨e3, e4, e5⟩, rfl, rfl⟩
      all_goals
        clear HA
        go_wp2_with (first
          | (go_at_call 13; refine (EX _).mono ?_; rintro r V5 ⟨rfl, hg5⟩; have HG6 : Hid (Gr w3 V5) := HG5.out.trans hg5; have HQZ := HQY.out.next hg5.below; have HQ6 : Hid (SyO V5 g2 (k * 7) _) := HQZ; have HPZ := HPY.out.next hg5.below; clear q0 q1 q2 q3 q4 q5 q6 p0 p1 p2 p3 p4 p5 p6 hg5; obtain ⟨q0, q1, q2, q3, q4, q5, q6⟩ := HPZ; obtain ⟨p0, p1, p2, p3, p4, p5, p6⟩ := HQZ)
          | (go_at_call 14; refine (OW _).mono ?_; rintro r V6 ⟨rfl, hg6⟩; have HG7 : Hid (Gr w3 V6) := HG6.out.trans hg6; have HQW := HQ6.out.next hg6.below; clear q0 q1 q2 q3 q4 q5 q6 p0 p1 p2 p3 p4 p5 p6 hg6; obtain ⟨p0, p1, p2, p3, p4, p5, p6⟩ := HQW))
        exact ⟨⟨k + 1, by omega, by go_num, HG7.out⟩, by simp [intOf]; omega⟩
    · have hki : ¬ (k : Int) < (K : Int) := by omega
      go_wp2
      go_ret
      exact ⟨rfl, HB.out.trans (hG.below.mono HB.out.size)⟩
end Go.Proofs.Ytackjpmpkklgiaa
