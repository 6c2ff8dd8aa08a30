/-
  Layer 13: Put of any table.
-/
import Derived.Test.YtffmkkfacemchaaP1
namespace Go.Proofs.Ytffmkkfacemchaa
open Go.RowKit Go.Shelf
set_option linter.unusedVariables false

@[go_sem] theorem idx87_0 (a b : Value) (w : World) : (Instr.index 87 (.agg #[a, b]) (.int .i64 0)).run Try.prog w = .ok a w := by
  simp [Instr.index, part, asIntOf, go_sem, Try.isAgg23, Try.sizeOf23]
@[go_sem] theorem idx87_1 (a b : Value) (w : World) : (Instr.index 87 (.agg #[a, b]) (.int .i64 1)).run Try.prog w = .ok b w := by
  simp [Instr.index, part, asIntOf, go_sem, Try.isAgg23, Try.sizeOf23]

/-- Numbers as bytes, one behind the other. -/
def encL (f : Nat → Nat) : Nat → List UInt8
  | 0 => []
  | m + 1 => encL f m ++ enc (f m) 4
theorem encL_succ (f : Nat → Nat) (m : Nat) : encL f (m + 1) = encL f m ++ enc (f m) 4 := rfl
theorem encL_len (f : Nat → Nat) : ∀ m, (encL f m).length = 4 * m
  | 0 => rfl
  | m + 1 => by rw [encL_succ, List.length_append, encL_len f m, enc_length]; omega
def putH (n0 n1 : Nat) : List UInt8 := enc n0 4 ++ enc n1 4
theorem putH_len (n0 n1 : Nat) : (putH n0 n1).length = 8 := by unfold putH; rw [List.length_append, enc_length, enc_length]
theorem putH_len2 (n0 n1 : Nat) (f : Nat → Nat) : (putH n0 n1 ++ encL f n0).length = 8 + 4 * n0 := by rw [List.length_append, putH_len, encL_len]
/-- A table's bytes. -/
def putL (B C : Nat → Nat) (n0 n1 : Nat) : List UInt8 := (putH n0 n1 ++ encL B n0) ++ encL C n1
def preK (B C : Nat → Nat) (n0 n1 : Nat) : Nat → List UInt8
  | 0 => putH n0 n1
  | 1 => putH n0 n1 ++ encL B n0
  | _ => putL B C n0 n1

set_option maxRecDepth 100000 in
set_option maxHeartbeats 4000000 in
theorem put_any (a0 a1 : Option Addr) (n0 n1 c0 c1 b o b' o' : Nat) (B C : Nat → Nat) (w : World) (hT : Tab w a0 a1 n0 n1 c0 c1 b o b' o' B C) (h0 : n0 ≤ 1000) (h1 : n1 ≤ 1000) :
    Calls Try.prog 13 #[tbv (slv a0 n0 c0) (slv a1 n1 c1)] w fun e w' => e = .returned (.string ⟨(putL B C n0 n1).toArray⟩) ∧ Below w.heap.size w w' := by
  have HT : Hid (Tab w a0 a1 n0 n1 c0 c1 b o b' o' B C) := hT
  have hc0 := hT.hc0
  have hc1 := hT.hc1
  clear hT
  have q1 : IntKind.u64.wrap (n0 : Int) = (n0 : Int) := wrapu64 _ (by omega) (by omega)
  have q2 : IntKind.u64.wrap (n1 : Int) = (n1 : Int) := wrapu64 _ (by omega) (by omega)
  have hb0 : Below w.heap.size w ((w.alloc (.cells #[slv a0 n0 c0, slv a1 n1 c1] 25)).alloc (.cells #[.pointer none, .slice none 0 0] 80)) := ((Below.refl _ w).alloc (Nat.le_refl _) _).alloc (by simp) _
  have hbl : Lib.IsBuilder 80 5 (w.heap.size + 1) (w.heap.size + 1) (Lib.byteCells []) ((w.alloc (.cells #[slv a0 n0 c0, slv a1 n1 c1] 25)).alloc (.cells #[.pointer none, .slice none 0 0] 80)) := by
    refine .inl ⟨Nat.le_refl _, .slice none 0 0, ?_, World.ownsRow_nil _ _ _ _, by simp [Value.ownBlock]⟩
    have h := World.alloc_heap_new (w.alloc (.cells #[slv a0 n0 c0, slv a1 n1 c1] 25)) (.cells #[.pointer none, .slice none 0 0] 80)
    rw [World.size_alloc] at h
    exact h
  obtain ⟨W0, hW0⟩ : ∃ W0, (w.alloc (.cells #[slv a0 n0 c0, slv a1 n1 c1] 25)).alloc (.cells #[.pointer none, .slice none 0 0] 80) = W0 := ⟨_, rfl⟩
  have hcell : W0.cell? ⟨w.heap.size, 0, none⟩ = some (slv a0 n0 c0) ∧ W0.cell? ⟨w.heap.size, 1, none⟩ = some (slv a1 n1 c1) := by
    rw [← hW0]
    exact cells_of2 ((Below.heap_alloc _ _ _ (by simp)).trans (World.alloc_heap_new w _))
  rw [hW0] at hb0 hbl
  have hsz : w.heap.size + 1 ≤ W0.heap.size := by rw [← hW0]; simp
  have P1 := put1_any n0 (w.heap.size + 1) (w.heap.size + 1) [] W0 hbl (by simp) hsz
  have P2 : ∀ W, Lib.IsBuilder 80 5 (w.heap.size + 1) (w.heap.size + 1) (Lib.byteCells ([] ++ enc n0 4)) W → Below (w.heap.size + 1) W0 W → Calls Try.prog 40 #[.int .u64 (n1 : Int), .pointer (some ⟨w.heap.size + 1, 0, none⟩)] W fun e w' => e = .returned (.tuple #[]) ∧ Hid (Lib.IsBuilder 80 5 (w.heap.size + 1) (w.heap.size + 1) (Lib.byteCells (putH n0 n1)) w') ∧ Below (w.heap.size + 1) W w' := fun W h hb => put1_any n1 (w.heap.size + 1) (w.heap.size + 1) ([] ++ enc n0 4) W h (by simp [enc_length]) (Nat.le_trans hsz hb.size)
  have cz : ∀ W, Below (w.heap.size + 1) W0 W → W.cell? ⟨w.heap.size, 0, none⟩ = some (slv a0 n0 c0) ∧ W.cell? ⟨w.heap.size, 1, none⟩ = some (slv a1 n1 c1) := fun W h => ⟨(h.cell (p := ⟨w.heap.size, 0, none⟩) (by simp)).trans hcell.1, (h.cell (p := ⟨w.heap.size, 1, none⟩) (by simp)).trans hcell.2⟩
  have CZ : Hid (∀ W, Below (w.heap.size + 1) W0 W → W.cell? ⟨w.heap.size, 0, none⟩ = some (slv a0 n0 c0) ∧ W.cell? ⟨w.heap.size, 1, none⟩ = some (slv a1 n1 c1)) := cz
  have k0 := hcell.1
  have k1 := hcell.2
  have HW0 : Hid (_ = W0) := hW0
  clear hW0 hcell cz hbl
  go_enter Try.func13, Try.ntmps13
  go_upto_region 3 with fail
  rw [HW0.out]
  go_wp2_with (first
    | (go_at_call 40; refine P1.mono ?_; rintro e w1 ⟨rfl, hi1, hb1⟩; obtain ⟨y0, y1⟩ := CZ.out _ hb1)
    | (go_at_call 40; refine (P2 _ hi1 hb1).mono ?_; rintro e w2 ⟨rfl, HI2, hb2⟩; obtain ⟨z0, z1⟩ := CZ.out _ (hb1.trans hb2)))
  have HBw : Hid (Below (w.heap.size + 1) W0 w2) := hb1.trans hb2
  clear hi1 hb1 hb2 y0 y1 z0 z1 P1 P2
  go_loopw [27] (fun i wr => ∃ k : Nat, k ≤ 2 ∧ i = .int .i64 k ∧ Hid (Lib.IsBuilder 80 5 (w.heap.size + 1) (w.heap.size + 1) (Lib.byteCells (preK B C n0 n1 k)) wr) ∧ Hid (Below (w.heap.size + 1) W0 wr)) (fun i _ => 2 - (intOf i).toNat)
  case atStart => exact ⟨0, by omega, rfl, HI2.out, HBw⟩
  case round =>
    obtain ⟨k, hk, rfl, HI, HBl⟩ := hrel
    rcases (by omega : k = 0 ∨ k = 1 ∨ k = 2) with hk0 | hk0 | hk0
    · subst hk0
      have hsl : IntKind.i64.wrap 0 = 0 := by rw [IntKind.wrap_i64]; rfl
      go_wp2
      go_loopw [32] (fun i wr => ∃ m : Nat, m ≤ n0 ∧ i = .int .i64 m ∧ Hid (Lib.IsBuilder 80 5 (w.heap.size + 1) (w.heap.size + 1) (Lib.byteCells (putH n0 n1 ++ encL B m)) wr) ∧ Hid (Below (w.heap.size + 1) W0 wr)) (fun i _ => n0 - (intOf i).toNat)
      case atStart => exact ⟨0, Nat.zero_le _, rfl, (by show Lib.IsBuilder _ _ _ _ (Lib.byteCells (putH n0 n1 ++ [])) _; rw [List.append_nil]; exact HI.out), HBl⟩
      case round =>
        obtain ⟨m, hm, rfl, HI2, HB2⟩ := hrel
        by_cases hlt : m < n0
        · have hmi : (m : Int) < (n0 : Int) := by omega
          have hm0 : (0 : Int) ≤ (m : Int) := by omega
          have eA := HT.out.e0 (by omega)
          subst eA
          have xl := HT.out.lb
          have xc := (HB2.out.cell (p := ⟨b, o + m, none⟩) (by show b < _; omega)).trans ((hb0.cell (p := ⟨b, o + m, none⟩) xl).trans (HT.out.rb m hlt))
          have hf4 : B m < 4294967296 := HT.out.hB m hlt
          have e5 : IntKind.u64.wrap (B m : Int) = (B m : Int) := wrapu64 _ (by omega) (by omega)
          have HS : Hid (putH n0 n1 ++ encL B (m + 1) = (putH n0 n1 ++ encL B m) ++ enc (B m) 4) := by show _ = _; rw [encL_succ, List.append_assoc]
          have P := put1_any (B m) (w.heap.size + 1) (w.heap.size + 1) (putH n0 n1 ++ encL B m) wr HI2.out (by rw [List.length_append, encL_len]; have := putH_len n0 n1; omega) (Nat.le_trans hsz HB2.out.size)
          rw [← HS.out] at P
          generalize B m = fm at xc e5 P
          clear hf4 HS
          go_wp2_with (go_at_call 40; refine P.mono ?_; rintro e w9 ⟨rfl, hi9, hb9⟩)
          refine ⟨?rel, ?measure⟩
          case rel => exact ⟨_, _, _, _, _, _, _, _, _, _, ⟨m + 1, by omega, by go_num, hi9, HB2.out.trans hb9⟩, rfl⟩
          case measure => simp [intOf]; omega
        · have hmi : ¬ (m : Int) < (n0 : Int) := by omega
          obtain rfl : m = n0 := by omega
          go_wp2
          exact ⟨⟨1, by omega, by first | rfl | go_num, HI2.out, HB2.out⟩, by simp [intOf]⟩
    · subst hk0
      have hsl : IntKind.i64.wrap 0 = 0 := by rw [IntKind.wrap_i64]; rfl
      go_wp2
      go_loopw [32] (fun i wr => ∃ m : Nat, m ≤ n1 ∧ i = .int .i64 m ∧ Hid (Lib.IsBuilder 80 5 (w.heap.size + 1) (w.heap.size + 1) (Lib.byteCells ((putH n0 n1 ++ encL B n0) ++ encL C m)) wr) ∧ Hid (Below (w.heap.size + 1) W0 wr)) (fun i _ => n1 - (intOf i).toNat)
      case atStart => exact ⟨0, Nat.zero_le _, rfl, (by show Lib.IsBuilder _ _ _ _ (Lib.byteCells ((putH n0 n1 ++ encL B n0) ++ [])) _; rw [List.append_nil]; exact HI.out), HBl⟩
      case round =>
        obtain ⟨m, hm, rfl, HI2, HB2⟩ := hrel
        by_cases hlt : m < n1
        · have hmi : (m : Int) < (n1 : Int) := by omega
          have hm0 : (0 : Int) ≤ (m : Int) := by omega
          have eA := HT.out.e1 (by omega)
          subst eA
          have xl := HT.out.lc
          have xc := (HB2.out.cell (p := ⟨b', o' + m, none⟩) (by show b' < _; omega)).trans ((hb0.cell (p := ⟨b', o' + m, none⟩) xl).trans (HT.out.rc m hlt))
          have hf4 : C m < 4294967296 := HT.out.hC m hlt
          have e5 : IntKind.u64.wrap (C m : Int) = (C m : Int) := wrapu64 _ (by omega) (by omega)
          have HS : Hid ((putH n0 n1 ++ encL B n0) ++ encL C (m + 1) = ((putH n0 n1 ++ encL B n0) ++ encL C m) ++ enc (C m) 4) := by show _ = _; rw [encL_succ, ← List.append_assoc]
          have P := put1_any (C m) (w.heap.size + 1) (w.heap.size + 1) ((putH n0 n1 ++ encL B n0) ++ encL C m) wr HI2.out (by rw [List.length_append, encL_len]; have := putH_len2 n0 n1 B; omega) (Nat.le_trans hsz HB2.out.size)
          rw [← HS.out] at P
          generalize C m = fm at xc e5 P
          clear hf4 HS
          go_wp2_with (go_at_call 40; refine P.mono ?_; rintro e w9 ⟨rfl, hi9, hb9⟩)
          refine ⟨?rel, ?measure⟩
          case rel => exact ⟨_, _, _, _, _, _, _, _, _, _, ⟨m + 1, by omega, by go_num, hi9, HB2.out.trans hb9⟩, rfl⟩
          case measure => simp [intOf]; omega
        · have hmi : ¬ (m : Int) < (n1 : Int) := by omega
          obtain rfl : m = n1 := by omega
          go_wp2
          exact ⟨⟨2, by omega, by first | rfl | go_num, HI2.out, HB2.out⟩, by simp [intOf]⟩
    · subst hk0
      have hne : putL B C n0 n1 ≠ [] := by
        intro e
        have := congrArg List.length e
        unfold putL at this
        rw [List.length_append, putH_len2] at this
        simp at this
      have FIN := bstring (w.heap.size + 1) (w.heap.size + 1) (putL B C n0 n1) wr HI.out hne
      go_wp2_with (go_at_call 43; refine FIN.mono ?_; rintro e w9 ⟨rfl, hb9⟩)
      go_ret
      exact ⟨rfl, hb0.trans ((HBl.out.trans hb9).mono (by omega))⟩
end Go.Proofs.Ytffmkkfacemchaa
