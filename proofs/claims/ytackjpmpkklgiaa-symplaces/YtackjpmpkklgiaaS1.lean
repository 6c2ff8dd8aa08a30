/-
  Layer 11: a symbol of its 24 bytes.
-/
import Derived.Test.YtackjpmpkklgiaaA2
import Derived.Deep.MidRow
import Derived.Laws.ResultCell
import Derived.Deep.RegionHeld3
namespace Go.Proofs.Ytackjpmpkklgiaa
open Go.RowKit

/-- A symbol. -/
structure Sy where
  name : ByteArray
  bind : Int
  kind : Int
  vis : Int
  dfd : Bool
  value : Int
  size : Int

/-- Its cells. -/
def Sy.cells (s : Sy) : List Value := [.string s.name, .int .i64 s.bind, .int .i64 s.kind, .int .i64 s.vis, .bool s.dfd, .int .u64 s.value, .int .u64 s.size]
abbrev Sy.val (s : Sy) : Value := .agg #[.string s.name, .int .i64 s.bind, .int .i64 s.kind, .int .i64 s.vis, .bool s.dfd, .int .u64 s.value, .int .u64 s.size]
def Sy.zero : Sy := ⟨⟨#[]⟩, 0, 0, 0, false, 0, 0⟩

/-- A byte of a text. -/
def byteAt (e : ByteArray) (i : Nat) : Nat := (e.data.toList.getD i 0).toNat

/-- The symbol of bytes, or what is wrong with it. -/
def symF (e names : ByteArray) : Sy × Int :=
  if (txt names (num (e.extract 0 4)) 32).2 then
    if 2 < byteAt e 4 / 16 then (Sy.zero, 4)
    else (⟨(txt names (num (e.extract 0 4)) 32).1, (byteAt e 4 / 16 : Nat), (byteAt e 4 % 16 : Nat), (byteAt e 5 % 4 : Nat), num (e.extract 6 8) != 0, num (e.extract 8 16), num (e.extract 16 24)⟩, 0)
  else (Sy.zero, 25)

theorem byteAt_is (e : ByteArray) (i : Nat) (h : i < e.size) : e[i].toNat = byteAt e i := by
  unfold byteAt
  simp [List.getD, ByteArray.getElem_eq_getElem_data, h]

set_option maxHeartbeats 400000 in
theorem isBind_any (n : Int) (b : Bool) (w : World) (hb : Hid (decide (0 ≤ n ∧ n ≤ 2) = b)) :
    Calls Try.prog 29 #[.int .i64 n] w fun e w' => e = .returned (.bool b) ∧ w' = w := by
  by_cases h0 : 0 ≤ n
  · by_cases h1 : n ≤ 2
    · have hbt : Hid (b = true) := by show _ = _; rw [← hb.out]; simp [h0, h1]
      go_enter Try.func29, Try.ntmps29
      go_wp2
      go_ret
      exact ⟨by rw [hbt.out]; simp, rfl⟩
    · have hbt : Hid (b = false) := by show _ = _; rw [← hb.out]; simp [h1]
      go_enter Try.func29, Try.ntmps29
      go_wp2
      go_ret
      exact ⟨by rw [hbt.out]; simp, rfl⟩
  · have hbt : Hid (b = false) := by show _ = _; rw [← hb.out]; simp [h0]
    go_enter Try.func29, Try.ntmps29
    go_wp2
    go_ret
    exact ⟨by rw [hbt.out]; rfl, rfl⟩

theorem results_cell_mid2 {P : Program} {fn : Func} {p u : Tmp} {ty : TypeId} (h : fn.results = #[.cell p ty, .tmp u]) (tmps : Array Value) (w : World) (b o : Nat) (cs : List Value) (d : TypeDesc)
    (hp : tmps.getD p undef = .pointer (some ⟨b, o, none⟩)) (hc : w.rangeAt b o cs) (hu : P.underlying ty = some d) (hd : d.isRow = true) (hi : (P.info? ty).map (·.size) = some cs.length) :
    (results fn tmps).run P w = .ok (.tuple #[.agg cs.toArray, tmps.getD u undef]) w := by
  rw [results_cell_tmp h, hp]
  simp [asAddr, run_loadVar_mid w b o ty cs d hc hu hd hi]
theorem range7 {w : World} {B : Nat} (s : Sy) (h0 : w.cell? ⟨B, 0, none⟩ = some (.string s.name)) (h1 : w.cell? ⟨B, 1, none⟩ = some (.int .i64 s.bind)) (h2 : w.cell? ⟨B, 2, none⟩ = some (.int .i64 s.kind)) (h3 : w.cell? ⟨B, 3, none⟩ = some (.int .i64 s.vis))
    (h4 : w.cell? ⟨B, 4, none⟩ = some (.bool s.dfd)) (h5 : w.cell? ⟨B, 5, none⟩ = some (.int .u64 s.value)) (h6 : w.cell? ⟨B, 6, none⟩ = some (.int .u64 s.size)) : w.rangeAt B 0 s.cells := by
  intro j v hv
  rw [Nat.zero_add]
  match j, hv with
  | 0, hv => simp [Sy.cells] at hv; subst hv; exact h0
  | 1, hv => simp [Sy.cells] at hv; subst hv; exact h1
  | 2, hv => simp [Sy.cells] at hv; subst hv; exact h2
  | 3, hv => simp [Sy.cells] at hv; subst hv; exact h3
  | 4, hv => simp [Sy.cells] at hv; subst hv; exact h4
  | 5, hv => simp [Sy.cells] at hv; subst hv; exact h5
  | 6, hv => simp [Sy.cells] at hv; subst hv; exact h6
  | j + 7, hv => simp [Sy.cells] at hv
theorem info35 : (Try.prog.info? 35).map (·.size) = some 7 := by kernel_rfl

set_option maxRecDepth 100000 in
set_option maxHeartbeats 1600000 in
theorem symbol_any (e names : ByteArray) (w : World) (he : e.size = 24) (hm : names.size ≤ 9223372036854775807) :
    Calls Try.prog 25 #[.string e, .string names] w fun r w' => r = .returned (.tuple #[(symF e names).1.val, .int .i64 (symF e names).2]) ∧ ∃ o q, w' = (w.alloc o).drewN q := by
  obtain ⟨p, hp⟩ : ∃ p, txt names (num (e.extract 0 4)) 32 = p := ⟨_, rfl⟩
  obtain ⟨t, ok⟩ := p
  have HT : Hid (txt names (num (e.extract 0 4)) 32 = (t, ok)) := hp
  have n0 := (num_bounds (e.extract 0 4)).1
  clear hp
  have z0 : (e.extract 0 4).size ≤ maxLen := by unfold maxLen; simp; omega
  have z6 : (e.extract 6 8).size ≤ maxLen := by unfold maxLen; simp; omega
  have z8 : (e.extract 8 16).size ≤ maxLen := by unfold maxLen; simp; omega
  have z16 : (e.extract 16 24).size ≤ maxLen := by unfold maxLen; simp; omega
  cases ok with
  | false =>
    have HS : Hid (symF e names = (Sy.zero, 25)) := by show _ = _; unfold symF; rw [HT.out]; rfl
    rw [HS.out]
    go_enter Try.func25, Try.ntmps25
    go_wp2_with (first
      | (go_at_call 39; refine (get_any _ _ z0).mono ?_; rintro r w' ⟨rfl, rfl⟩)
      | (go_at_call 38; refine (text_any _ _ _ _ _ _ HT hm n0).mono ?_; rintro r w' ⟨rfl, rfl⟩))
    refine ⟨rfl, .tuple #[Sy.zero.val, .int .i64 25], ?_, rfl, ?_⟩
    · refine (results_cell_mid2 (fn := Try.f25) rfl _ _ w.heap.size 0 Sy.zero.cells _ ?_ ?_ Try.underlying35 rfl info35).trans ?_
      · rfl
      · exact range7 Sy.zero (by simp [go_sem]; rfl) (by simp [go_sem]; rfl) (by simp [go_sem]; rfl) (by simp [go_sem]; rfl) (by simp [go_sem]; rfl) (by simp [go_sem]; rfl) (by simp [go_sem]; rfl)
      · rfl
    · exact ⟨_, 0, rfl⟩
  | true =>
    by_cases hbd : 2 < byteAt e 4 / 16
    · have HS : Hid (symF e names = (Sy.zero, 4)) := by show _ = _; unfold symF; rw [HT.out]; simp [hbd]
      rw [HS.out]
      have h4 := byteAt_is e 4 (by omega)
      have hlt4 : byteAt e 4 < 256 := by rw [← h4]; exact UInt8.toNat_lt _
      generalize byteAt e 4 = b4 at *
      have HB : Hid (decide (0 ≤ ((b4 : Int) / 16) ∧ ((b4 : Int) / 16) ≤ 2) = false) := by show _ = _; simp; omega
      go_enter Try.func25, Try.ntmps25
      go_wp2_with (first
        | (go_at_call 39; refine (get_any _ _ z0).mono ?_; rintro r w' ⟨rfl, rfl⟩)
        | (go_at_call 38; refine (text_any _ _ _ _ _ _ HT hm n0).mono ?_; rintro r w' ⟨rfl, rfl⟩)
        | (go_at_call 29; refine (isBind_any _ _ _ HB).mono ?_; rintro r w' ⟨rfl, rfl⟩))
      refine ⟨rfl, .tuple #[Sy.zero.val, .int .i64 4], ?_, rfl, ?_⟩
      · refine (results_cell_mid2 (fn := Try.f25) rfl _ _ w.heap.size 0 Sy.zero.cells _ ?_ ?_ Try.underlying35 rfl info35).trans ?_
        · rfl
        · exact range7 Sy.zero (by simp [go_sem]; rfl) (by simp [go_sem]; rfl) (by simp [go_sem]; rfl) (by simp [go_sem]; rfl) (by simp [go_sem]; rfl) (by simp [go_sem]; rfl) (by simp [go_sem]; rfl)
        · rfl
      · exact ⟨_, 0, rfl⟩
    · have HS : Hid (symF e names = (⟨t, (byteAt e 4 / 16 : Nat), (byteAt e 4 % 16 : Nat), (byteAt e 5 % 4 : Nat), num (e.extract 6 8) != 0, num (e.extract 8 16), num (e.extract 16 24)⟩, 0)) := by show _ = _; unfold symF; rw [HT.out]; simp [hbd]
      rw [HS.out]
      have h4 := byteAt_is e 4 (by omega)
      have h5 := byteAt_is e 5 (by omega)
      have hlt4 : byteAt e 4 < 256 := by rw [← h4]; exact UInt8.toNat_lt _
      have hlt5 : byteAt e 5 < 256 := by rw [← h5]; exact UInt8.toNat_lt _
      clear HS
      generalize byteAt e 4 = b4 at *
      generalize byteAt e 5 = b5 at *
      have G6 : ∀ W, Calls Try.prog 39 #[.string (e.extract 6 8)] W fun r w' => r = .returned (.int .u64 (num (e.extract 6 8))) ∧ w' = W := fun W => get_any _ W z6
      have G8 : ∀ W, Calls Try.prog 39 #[.string (e.extract 8 16)] W fun r w' => r = .returned (.int .u64 (num (e.extract 8 16))) ∧ w' = W := fun W => get_any _ W z8
      have G16 : ∀ W, Calls Try.prog 39 #[.string (e.extract 16 24)] W fun r w' => r = .returned (.int .u64 (num (e.extract 16 24))) ∧ w' = W := fun W => get_any _ W z16
      generalize num (e.extract 6 8) = x6 at *
      generalize num (e.extract 8 16) = x8 at *
      generalize num (e.extract 16 24) = x16 at *
      have HB : Hid (decide (0 ≤ ((b4 : Int) / 16) ∧ ((b4 : Int) / 16) ≤ 2) = true) := by show _ = _; simp; omega
      obtain ⟨q2, hq2, hq2l, HQ2⟩ : ∃ q2 : Nat, (b4 : Int).tmod 16 = (q2 : Int) ∧ q2 ≤ 15 ∧ Hid (b4 % 16 = q2) := ⟨b4 % 16, by rw [Int.tmod_eq_emod_of_nonneg (by omega)]; omega, by omega, rfl⟩
      obtain ⟨q3, hq3, hq3l, HQ3⟩ : ∃ q3 : Nat, bits BinOp.and IntKind.u8 (b5 : Int) 3 = (q3 : Int) ∧ q3 ≤ 3 ∧ Hid (b5 % 4 = q3) := by
        refine ⟨b5 % 4, ?_, by omega, rfl⟩
        have e : ((BitVec.ofInt 8 (b5 : Int)) &&& (BitVec.ofInt 8 3)).toNat = b5 % 4 := by
          rw [BitVec.toNat_and]
          have e1 : (BitVec.ofInt 8 (b5 : Int)).toNat = b5 := by simp; omega
          have e2 : (BitVec.ofInt 8 3).toNat = 2 ^ 2 - 1 := by decide
          rw [e1, e2, Nat.and_two_pow_sub_one_eq_mod]
        show IntKind.u8.wrap (((BitVec.ofInt 8 (b5 : Int)) &&& (BitVec.ofInt 8 3)).toNat : Int) = _
        rw [e, IntKind.wrap_u8]
        omega
      go_enter Try.func25, Try.ntmps25
      go_wp2_with (first
        | (go_at_call 39; refine (get_any _ _ z0).mono ?_; rintro r w' ⟨rfl, rfl⟩)
        | (go_at_call 38; refine (text_any _ _ _ _ _ _ HT hm n0).mono ?_; rintro r w' ⟨rfl, rfl⟩)
        | (go_at_call 29; refine (isBind_any _ _ _ HB).mono ?_; rintro r w' ⟨rfl, rfl⟩))
      go_region_held3 (fun _ => True) (trivial) (first | (go_at_call 39; with_reducible refine (G6 _).mono ?_; rintro r w' ⟨rfl, rfl⟩) | (go_at_call 39; with_reducible refine (G8 _).mono ?_; rintro r w' ⟨rfl, rfl⟩) | (go_at_call 39; with_reducible refine (G16 _).mono ?_; rintro r w' ⟨rfl, rfl⟩))
      all_goals
        go_wp2
        have e2 : IntKind.i64.wrap (q2 : Int) = ((b4 % 16 : Nat) : Int) := by rw [HQ2.out, IntKind.wrap_i64]; omega
        have e3 : IntKind.i64.wrap (q3 : Int) = ((b5 % 4 : Nat) : Int) := by rw [HQ3.out, IntKind.wrap_i64]; omega
        have e1 : ((b4 : Int) / 16) = ((b4 / 16 : Nat) : Int) := by omega
        refine ⟨rfl, .tuple #[(⟨t, (b4 / 16 : Nat), (b4 % 16 : Nat), (b5 % 4 : Nat), x6 != 0, x8, x16⟩ : Sy).val, .int .i64 0], ?_, rfl, ?_⟩
        · refine (results_cell_mid2 (fn := Try.f25) rfl _ _ w.heap.size 0 (⟨t, (b4 / 16 : Nat), (b4 % 16 : Nat), (b5 % 4 : Nat), x6 != 0, x8, x16⟩ : Sy).cells _ ?_ ?_ Try.underlying35 rfl info35).trans ?_
          · rfl
          · rw [e1, e2, e3]
            exact range7 _ (by simp [go_sem]) (by simp [go_sem]) (by simp [go_sem]) (by simp [go_sem]) (by simp [go_sem]) (by simp [go_sem]) (by simp [go_sem])
          · rfl
        · exact ⟨_, 1, rfl⟩
end Go.Proofs.Ytackjpmpkklgiaa
