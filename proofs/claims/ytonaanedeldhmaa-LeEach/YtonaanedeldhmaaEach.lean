/-
  le.Each and the statement's own closure.
-/
import Derived.Test.YtonaanedeldhmaaA3
import Derived.Deep.RegionHeld3
import Derived.Deep.DrawnRows
namespace Go.Proofs.Ytonaanedeldhmaa
open Go.RowKit
attribute [local go_sem ↓] Go.wp_at_zero Go.wp_at_succ

set_option maxHeartbeats 800000 in
theorem yield_any (r n g sz st : Nat) (k m : Nat) (stop : Int) (got p : ByteArray) (w : World) (hk : k ≤ 1000) (hp : p.size = m) (hgs : got.size ≤ 1000) (hm : m ≤ 1000)
    (c1 : w.cell? ⟨r, 0, none⟩ = some (.bool true)) (c2 : w.cell? ⟨n, 0, none⟩ = some (.int .i64 k)) (c3 : w.cell? ⟨sz, 0, none⟩ = some (.int .i64 m)) (c4 : w.cell? ⟨g, 0, none⟩ = some (.string got)) (c5 : w.cell? ⟨st, 0, none⟩ = some (.int .i64 stop))
    (f1 : w.frozen? ⟨r, 0, none⟩ = false) (f2 : w.frozen? ⟨n, 0, none⟩ = false) (f4 : w.frozen? ⟨g, 0, none⟩ = false)
    (d1 : r ≠ n) (d2 : r ≠ g) (d3 : n ≠ g) (d4 : r ≠ st) (d5 : n ≠ st) (d6 : g ≠ st) :
    Calls Try.prog 22 #[.int .i64 k, .string p, .pointer (some ⟨r, 0, none⟩), .pointer (some ⟨n, 0, none⟩), .pointer (some ⟨sz, 0, none⟩), .pointer (some ⟨g, 0, none⟩), .pointer (some ⟨st, 0, none⟩)] w
      fun e w' => e = .returned (.bool ((k : Int) + 1 != stop)) ∧ w' = ((w.setCell ⟨r, 0, none⟩ (.bool true)).setCell ⟨g, 0, none⟩ (.string (got ++ p))).setCell ⟨n, 0, none⟩ (.int .i64 (k + 1)) := by
  go_enter Try.func22, Try.ntmps22
  go_wp2
  go_ret
  exact ⟨rfl, rfl⟩

/-- What the cells of the closures hold behind k parts. -/
def EInv (r n g sz st ss z m : Nat) (stop : Int) (s got : ByteArray) (k : Nat) (w : World) : Prop :=
  w.cell? ⟨r, 0, none⟩ = some (.bool true) ∧ w.cell? ⟨n, 0, none⟩ = some (.int .i64 (k : Int)) ∧ w.cell? ⟨sz, 0, none⟩ = some (.int .i64 (m : Int)) ∧ w.cell? ⟨g, 0, none⟩ = some (.string got) ∧ w.cell? ⟨st, 0, none⟩ = some (.int .i64 stop) ∧
  w.cell? ⟨ss, 0, none⟩ = some (.string s) ∧ w.cell? ⟨z, 0, none⟩ = some (.int .i64 (m : Int)) ∧ w.frozen? ⟨r, 0, none⟩ = false ∧ w.frozen? ⟨n, 0, none⟩ = false ∧ w.frozen? ⟨g, 0, none⟩ = false

/-- The blocks are seven. -/
def Seven (r n g sz st ss z : Nat) : Prop :=
  r ≠ n ∧ r ≠ g ∧ r ≠ sz ∧ r ≠ st ∧ r ≠ ss ∧ r ≠ z ∧ n ≠ g ∧ n ≠ sz ∧ n ≠ st ∧ n ≠ ss ∧ n ≠ z ∧ g ≠ sz ∧ g ≠ st ∧ g ≠ ss ∧ g ≠ z

theorem EInv.step {r n g sz st ss z m : Nat} {stop : Int} {s got : ByteArray} {k : Nat} {w : World} (h7 : Seven r n g sz st ss z) (h : EInv r n g sz st ss z m stop s got k w) (p : ByteArray) :
    EInv r n g sz st ss z m stop s (got ++ p) (k + 1) (((w.setCell ⟨r, 0, none⟩ (.bool true)).setCell ⟨g, 0, none⟩ (.string (got ++ p))).setCell ⟨n, 0, none⟩ (.int .i64 ((k : Int) + 1))) := by
  obtain ⟨e1, e2, e3, e4, e5, e6, e7, e8, e9, e10, e11, e12, e13, e14, e15⟩ := h7
  obtain ⟨c1, c2, c3, c4, c5, c6, c7, f1, f2, f3⟩ := h
  refine ⟨?_, ?_, ?_, ?_, ?_, ?_, ?_, ?_, ?_, ?_⟩
  all_goals first | (simp [go_sem, *]; done) | (simp [go_sem, *, Ne.symm e1, Ne.symm e2, Ne.symm e7]; done)

set_option maxHeartbeats 800000 in
theorem each_any (s : ByteArray) (m : Int) (w : World) :
    Calls Try.prog 21 #[.string s, .int .i64 m] w fun e w' => e = .returned (.func (.func 25) #[] #[.pointer (some ⟨w.heap.size + 1, 0, none⟩), .pointer (some ⟨w.heap.size, 0, none⟩)]) ∧ w' = (w.alloc (.cells #[.string s] 9)).alloc (.cells #[.int .i64 m] 3) := by
  go_enter Try.func21, Try.ntmps21
  go_wp2
  go_ret
  exact ⟨rfl, rfl⟩

/-- How many parts are told. -/
def parts (all : Nat) (stop : Int) : Nat := if 1 ≤ stop ∧ stop < all then stop.toNat else all

theorem parts_all (all : Nat) (stop : Int) (h : ∀ j : Nat, 1 ≤ j → j ≤ all → (j : Int) ≠ stop) : parts all stop = all := by
  unfold parts
  split
  · have := h stop.toNat (by omega) (by omega); omega
  · rfl
theorem parts_stop (all k : Nat) (stop : Int) (hk : k < all) (h : (k : Int) + 1 = stop) : parts all stop = k + 1 := by
  unfold parts
  split <;> omega

theorem ext_join (s : ByteArray) (o o2 : Nat) (h1 : o ≤ o2) : s.extract 0 o ++ s.extract o o2 = s.extract 0 o2 := by
  rw [ByteArray.extract_append_extract, Nat.zero_min, Nat.max_eq_right h1]

set_option maxRecDepth 100000 in
set_option maxHeartbeats 1600000 in
theorem each1 (r n g sz st ss z m B all : Nat) (stop : Int) (s : ByteArray) (w : World) (h7 : Seven r n g sz st ss z) (hs : s.size ≤ 300) (hm : 1 ≤ m) (hm1 : m ≤ 9223372036854775807) (hall : (s.size : Int) / (m : Int) = (all : Int)) (hal : all * m ≤ s.size) (ha3 : all ≤ 300)
    (hB : B ≤ r ∧ B ≤ n ∧ B ≤ g) (h : EInv r n g sz st ss z m stop s ⟨#[]⟩ 0 w) :
    Calls Try.prog 25 #[.func (.func 22) #[] #[.pointer (some ⟨r, 0, none⟩), .pointer (some ⟨n, 0, none⟩), .pointer (some ⟨sz, 0, none⟩), .pointer (some ⟨g, 0, none⟩), .pointer (some ⟨st, 0, none⟩)], .pointer (some ⟨z, 0, none⟩), .pointer (some ⟨ss, 0, none⟩)] w
      fun e w' => e = .returned (.tuple #[]) ∧ EInv r n g sz st ss z m stop s (s.extract 0 (parts all stop * m)) (parts all stop) w' ∧ Below B w w' := by
  have H : Hid (EInv r n g sz st ss z m stop s ⟨#[]⟩ 0 w) := h
  obtain ⟨c1, c2, c3, c4, c5, c6, c7, f1, f2, f3⟩ := h
  have H7 : Hid (Seven r n g sz st ss z) := h7
  obtain ⟨e1, e2, e3, e4, e5, e6, e7, e8, e9, e10, e11, e12, e13, e14, e15⟩ := h7
  go_enter Try.func25, Try.ntmps25
  go_wp2
  clear c1 c2 c3 c4 c5 c6 c7 f1 f2 f3
  go_loopw [11] (fun i wr => ∃ k : Nat, ∃ got : ByteArray, k ≤ all ∧ i = .int .i64 k ∧ Hid (got = s.extract 0 (k * m)) ∧ EInv r n g sz st ss z m stop s got k wr ∧ Below B w wr ∧ Hid (∀ j : Nat, 1 ≤ j → j ≤ k → (j : Int) ≠ stop)) (fun i _ => all - (intOf i).toNat)
  case atStart => exact ⟨0, _, by omega, rfl, (by show _ = _; apply ByteArray.ext; simp), H.out, Below.refl _ _, fun j h1 h2 => by omega⟩
  case round =>
    obtain ⟨k, got, hk, rfl, HG, hI, hb, HN⟩ := hrel
    have HI : Hid (EInv r n g sz st ss z m stop s got k wr) := hI
    obtain ⟨c1, c2, c3, c4, c5, c6, c7, f1, f2, f3⟩ := hI
    by_cases hlt : k < all
    · obtain ⟨o, ho⟩ : ∃ o : Nat, o = k * m := ⟨_, rfl⟩
      obtain ⟨o2, ho2⟩ : ∃ o2 : Nat, o2 = (k + 1) * m := ⟨_, rfl⟩
      have h12 : o2 = o + m := by rw [ho, ho2, Nat.succ_mul]
      have h2s : o2 ≤ s.size := by rw [ho2]; exact Nat.le_trans (Nat.mul_le_mul_right m hlt) hal
      have m1 : (k : Int) * (m : Int) = (o : Int) := by rw [ho]; push_cast; rfl
      have m2 : ((k : Int) + 1) * (m : Int) = (o2 : Int) := by rw [ho2]; push_cast; rfl
      obtain ⟨p, hp⟩ : ∃ p, s.extract o o2 = p := ⟨_, rfl⟩
      have hps : p.size = m := by rw [← hp]; simp; omega
      have hgs : got.size ≤ 1000 := by rw [HG.out]; simp; omega
      have HJ : Hid (got ++ p = s.extract 0 ((k + 1) * m)) := by
        show _ = _
        rw [HG.out, ← hp, ← ho, ← ho2]
        exact ext_join s o o2 (by omega)
      have H12 : Hid (o2 = o + m) := h12
      have hle : o ≤ o2 := by omega
      have hms : m ≤ 300 := by omega
      have Y := yield_any r n g sz st k m stop got p wr (by omega) hps hgs (by omega) c1 c2 c3 c4 c5 f1 f2 f3 e1 e2 e7 e4 e9 e13
      clear ho ho2 h12 hps
      by_cases hst : (k : Int) + 1 = stop
      · have hsb : ((k : Int) + 1 != stop) = false := by simp [hst]
        rw [hsb] at Y
        have HST : Hid ((k : Int) + 1 = stop) := hst
        clear hst hsb
        go_wp2_with (go_at_call 22; refine Y.mono ?_; rintro e w2 ⟨rfl, rfl⟩)
        go_returns
        have HK := parts_stop all k stop hlt HST.out
        refine ⟨rfl, ?_, ((hb.setCell hB.1 _).setCell hB.2.2 _).setCell hB.2.1 _⟩
        rw [HK, ← HJ.out]
        exact HI.out.step H7.out p
      · have hsb : ((k : Int) + 1 != stop) = true := by simp [hst]
        rw [hsb] at Y
        have HST : Hid (¬ (k : Int) + 1 = stop) := hst
        clear hst hsb
        go_wp2_with (go_at_call 22; refine Y.mono ?_; rintro e w2 ⟨rfl, rfl⟩)
        go_roundw
        case rel =>
          refine ⟨k + 1, got ++ p, by omega, by go_num, HJ, HI.out.step H7.out p, ((hb.setCell hB.1 _).setCell hB.2.2 _).setCell hB.2.1 _, fun j h1 h2 => ?_⟩
          by_cases e : j = k + 1
          · subst e
            have := HST.out
            omega
          · exact HN.out j h1 (by omega)
        case measure => simp [intOf]; omega
    · have hka : k = all := by omega
      have HK := parts_all all stop (by rw [← hka]; exact HN.out)
      have HKK : Hid (parts all stop = k) := HK.trans hka.symm
      clear HK hka
      go_wp2
      go_end0
      refine ⟨rfl, ?_, hb⟩
      rw [HKK.out, ← HG.out]
      exact HI.out

set_option maxHeartbeats 400000 in
theorem each1_none (v : Value) (z ss : Nat) (m : Int) (w : World) (hm : m < 1) (c : w.cell? ⟨z, 0, none⟩ = some (.int .i64 m)) :
    Calls Try.prog 25 #[v, .pointer (some ⟨z, 0, none⟩), .pointer (some ⟨ss, 0, none⟩)] w fun e w' => e = .returned (.tuple #[]) ∧ w' = w := by
  go_enter Try.func25, Try.ntmps25
  go_wp2
  go_returns
  exact ⟨rfl, rfl⟩
end Go.Proofs.Ytonaanedeldhmaa
