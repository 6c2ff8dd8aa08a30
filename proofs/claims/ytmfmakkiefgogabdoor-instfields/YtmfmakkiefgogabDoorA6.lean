/-
  Layer 6: Encode of any instruction. Conditions: the tables hold the forms and the codes.
-/
import Derived.Test.YtmfmakkiefgogabDoorA5
namespace Go.Proofs.YtmfmakkiefgogabDoor
open Go.RowKit
set_option linter.unusedVariables false

theorem regLaid_range (n : Int) (a : Nat) (s : ByteArray) (c : Int) (ha : a ≤ 20) : 0 ≤ regLaid n a s c ∧ regLaid n a s c < 4294967296 := by
  unfold regLaid
  split
  · have h1 : (2 : Nat) ^ a ≤ 2 ^ 20 := Nat.pow_le_pow_right (by omega) ha
    have e3 : (2 : Int) ^ a = ((2 ^ a : Nat) : Int) := by rw [Int.natCast_pow]; rfl
    rw [e3]
    clear e3
    generalize ((2 ^ a : Nat)) = P at *
    have h2 : n % 32 * (P : Int) ≤ 31 * (P : Int) := Int.mul_le_mul_of_nonneg_right (by omega) (by omega)
    have h3 : 0 ≤ n % 32 * (P : Int) := Int.mul_nonneg (by omega) (by omega)
    omega
  · omega
theorem codes_range (k : Nat) : 0 ≤ codeAt k ∧ codeAt k < 4294967296 := by
  unfold codeAt
  by_cases h : k < 64
  · have h1 : ∀ k, k < 64 → 0 ≤ codesL.getD k 0 ∧ codesL.getD k 0 < 4294967296 := by decide +kernel
    exact h1 k h
  · have hl : codesL.length = 64 := rfl
    rw [List.getD, List.getElem?_eq_none (by omega)]
    simp

/-- The word of an instruction of a kind. -/
def encW (k : Nat) (i : In) : Nat := (((codeAt k).toNat ||| (regLaid i.rd 7 sRd (formAt k)).toNat) ||| (regLaid i.r1 15 sRs1 (formAt k)).toNat ||| (regLaid i.r2 20 sRs2 (formAt k)).toNat) ||| immLaid i.imm (formAt k)
theorem or_int (a b : Int) (ha : 0 ≤ a ∧ a < 4294967296) (hb : 0 ≤ b ∧ b < 4294967296) : bits .or .u32 a b = ((a.toNat ||| b.toNat : Nat) : Int) := by
  have := u32_or_nat a.toNat b.toNat (by omega) (by omega)
  rw [Int.toNat_of_nonneg ha.1, Int.toNat_of_nonneg hb.1] at this
  exact this
theorem encW_lt (k : Nat) (i : In) : encW k i < 4294967296 := by
  have h1 := codes_range k
  have h2 := regLaid_range i.rd 7 sRd (formAt k) (by omega)
  have h3 := regLaid_range i.r1 15 sRs1 (formAt k) (by omega)
  have h4 := regLaid_range i.r2 20 sRs2 (formAt k) (by omega)
  exact or_lt32 (or_lt32 (or_lt32 (or_lt32 (by omega) (by omega)) (by omega)) (by omega)) (lay_lt _ _)
theorem encW_is (k : Nat) (i : In) : bits .or .u32 (bits .or .u32 (bits .or .u32 (bits .or .u32 (codeAt k) (regLaid i.rd 7 sRd (formAt k))) (regLaid i.r1 15 sRs1 (formAt k))) (regLaid i.r2 20 sRs2 (formAt k))) ((immLaid i.imm (formAt k) : Nat) : Int) = ((encW k i : Nat) : Int) := by
  have h1 := codes_range k
  have h2 := regLaid_range i.rd 7 sRd (formAt k) (by omega)
  have h3 := regLaid_range i.r1 15 sRs1 (formAt k) (by omega)
  have h4 := regLaid_range i.r2 20 sRs2 (formAt k) (by omega)
  have g1 : (codeAt k).toNat ||| (regLaid i.rd 7 sRd (formAt k)).toNat < 4294967296 := or_lt32 (by omega) (by omega)
  have g2 := or_lt32 g1 (show (regLaid i.r1 15 sRs1 (formAt k)).toNat < 4294967296 by omega)
  have g3 := or_lt32 g2 (show (regLaid i.r2 20 sRs2 (formAt k)).toNat < 4294967296 by omega)
  rw [or_int _ _ h1 h2, or_int _ _ (by omega) h3, Int.toNat_natCast, or_int _ _ (by omega) h4, Int.toNat_natCast, u32_or_nat _ _ g3 (show immLaid i.imm (formAt k) < 4294967296 from lay_lt _ _)]
  rfl

/-- What Encode answers. -/
def encF (i : In) : Option Nat := haveI := In.decEq; if 0 ≤ i.op ∧ i.op < 64 ∧ decF (encW i.op.toNat i) = some i then some (encW i.op.toNat i) else none
def encV (i : In) : Value := match encF i with
  | some x => .tuple #[.int .u32 x, .bool true]
  | none => .tuple #[.int .u32 0, .bool false]

theorem box27 (w : World) (a b c d e : Int) : (w.alloc (.cells #[.int .i64 a, .int .i64 b, .int .i64 c, .int .i64 d, .int .i64 e] 27)).cell? ⟨w.heap.size, 0, none⟩ = some (.int .i64 a) ∧ (w.alloc (.cells #[.int .i64 a, .int .i64 b, .int .i64 c, .int .i64 d, .int .i64 e] 27)).cell? ⟨w.heap.size, 1, none⟩ = some (.int .i64 b) ∧ (w.alloc (.cells #[.int .i64 a, .int .i64 b, .int .i64 c, .int .i64 d, .int .i64 e] 27)).cell? ⟨w.heap.size, 2, none⟩ = some (.int .i64 c) ∧ (w.alloc (.cells #[.int .i64 a, .int .i64 b, .int .i64 c, .int .i64 d, .int .i64 e] 27)).cell? ⟨w.heap.size, 3, none⟩ = some (.int .i64 d) ∧ (w.alloc (.cells #[.int .i64 a, .int .i64 b, .int .i64 c, .int .i64 d, .int .i64 e] 27)).cell? ⟨w.heap.size, 4, none⟩ = some (.int .i64 e) := by
  refine ⟨?_, ?_, ?_, ?_, ?_⟩
  all_goals (rw [World.cell?_alloc_at _ _ _ _ (by simp)]; rfl)

set_option maxRecDepth 10000 in
set_option maxHeartbeats 1600000 in
theorem enc_none (i : In) (w : World) (ho : i.op < 0 ∨ 64 ≤ i.op) :
    Calls Tryd.prog 8 #[i.agg] w fun e w' => e = .returned (encV i) ∧ Below w.heap.size w w' := by
  have HV : Hid (encV i = .tuple #[.int .u32 0, .bool false]) := by show _ = _; unfold encV encF; rw [if_neg (by omega)]
  obtain ⟨a, b, c, d, e⟩ := i
  simp only at ho
  unfold In.agg
  go_enter Tryd.func8, Tryd.ntmps8
  go_wp2_with (go_at_call 16; with_reducible refine (isOne_no _ _ ho).mono ?_; rintro e w' ⟨rfl, hw⟩; subst hw)
  go_ret2
  exact ⟨by rw [HV.out]; rfl, by go_grown⟩

set_option maxRecDepth 10000 in
set_option maxHeartbeats 3200000 in
theorem enc_some (k : Nat) (b c d e : Int) (w : World) (hk : k < 64) (ht : Tabs w) :
    Calls Tryd.prog 8 #[.agg #[.int .i64 k, .int .i64 b, .int .i64 c, .int .i64 d, .int .i64 e]] w fun r w' => r = .returned (encV ⟨k, b, c, d, e⟩) ∧ Below w.heap.size w w' := by
  have HE : Hid (_) := encW_is k ⟨k, b, c, d, e⟩
  have hX := encW_lt k ⟨k, b, c, d, e⟩
  have HV : Hid (haveI := In.decEq; encV ⟨k, b, c, d, e⟩ = if decF (encW k ⟨k, b, c, d, e⟩) = some ⟨k, b, c, d, e⟩ then .tuple #[.int .u32 ((encW k ⟨k, b, c, d, e⟩ : Nat) : Int), .bool true] else .tuple #[.int .u32 0, .bool false]) := by
    show _ = _
    unfold encV encF
    simp only [Int.toNat_natCast]
    by_cases h : decF (encW k ⟨k, b, c, d, e⟩) = some ⟨k, b, c, d, e⟩
    · rw [if_pos ⟨by omega, by omega, h⟩, if_pos h]
    · rw [if_neg (fun hh => h hh.2.2), if_neg h]
  have hba : Below w.heap.size w (w.alloc (.cells #[.int .i64 k, .int .i64 b, .int .i64 c, .int .i64 d, .int .i64 e] 27)) := by go_grown
  have ht1 := ht.next hba
  obtain ⟨b0, b1, b2, b3, b4⟩ := box27 w k b c d e
  have hf := ht1.forms k hk
  have hc := ht1.codes k hk
  have HT : Hid (Tabs (w.alloc (.cells #[.int .i64 k, .int .i64 b, .int .i64 c, .int .i64 d, .int .i64 e] 27))) := ht1
  have R1 : ∀ W, Calls Tryd.prog 17 #[.int .i64 b, .int .i64 7, .string ⟨#[85, 74, 73, 72, 75, 82]⟩, .int .u8 (formAt k)] W fun e w' => e = .returned (.int .u32 (regLaid b 7 sRd (formAt k))) ∧ Gr W w' := fun W => (regLaid_any b 7 sRd (formAt k) W (by omega)).mono fun _ _ h => ⟨h.1, h.2 ▸ gr0 _⟩
  have R2 : ∀ W, Calls Tryd.prog 17 #[.int .i64 c, .int .i64 15, .string ⟨#[73, 72, 75, 66, 83, 82]⟩, .int .u8 (formAt k)] W fun e w' => e = .returned (.int .u32 (regLaid c 15 sRs1 (formAt k))) ∧ Gr W w' := fun W => (regLaid_any c 15 sRs1 (formAt k) W (by omega)).mono fun _ _ h => ⟨h.1, h.2 ▸ gr0 _⟩
  have R3 : ∀ W, Calls Tryd.prog 17 #[.int .i64 d, .int .i64 20, .string ⟨#[66, 83, 82]⟩, .int .u8 (formAt k)] W fun e w' => e = .returned (.int .u32 (regLaid d 20 sRs2 (formAt k))) ∧ Gr W w' := fun W => (regLaid_any d 20 sRs2 (formAt k) W (by omega)).mono fun _ _ h => ⟨h.1, h.2 ▸ gr0 _⟩
  have IM : ∀ W, Calls Tryd.prog 18 #[.int .i64 e, .int .u8 (formAt k)] W fun e' w' => e' = .returned (.int .u32 ((immLaid e (formAt k) : Nat) : Int)) ∧ Gr W w' := fun W => immLaid_any e (formAt k) W
  obtain ⟨X, hXd⟩ : ∃ X, X = encW k ⟨k, b, c, d, e⟩ := ⟨_, rfl⟩
  rw [← hXd] at HE hX HV
  have HE2 := HE.out
  simp only at HE2
  clear ht ht1 hXd HE
  generalize formAt k = fm at *
  generalize codeAt k = cd at *
  generalize regLaid b 7 sRd fm = y1 at *
  generalize regLaid c 15 sRs1 fm = y2 at *
  generalize regLaid d 20 sRs2 fm = y3 at *
  generalize ((immLaid e fm : Nat) : Int) = y4 at *
  have mixed := mixedTry
  go_enter Tryd.func8, Tryd.ntmps8
  go_wp2_with (go_at_call 16; with_reducible refine (isOne_yes _ _ (by omega) (by omega)).mono ?_; rintro e w' ⟨rfl, hw⟩; subst hw)
  generalize w.alloc (.cells #[.int .i64 k, .int .i64 b, .int .i64 c, .int .i64 d, .int .i64 e] 27) = W at *
  have z0 := fun n os => Go.cell_grown (World.block_lt_of_cell? _ _ b0) b0 n os
  have z1 := fun n os => Go.cell_grown (World.block_lt_of_cell? _ _ b1) b1 n os
  have z2 := fun n os => Go.cell_grown (World.block_lt_of_cell? _ _ b2) b2 n os
  have z3 := fun n os => Go.cell_grown (World.block_lt_of_cell? _ _ b3) b3 n os
  have z4 := fun n os => Go.cell_grown (World.block_lt_of_cell? _ _ b4) b4 n os
  have z5 := fun n os => Go.cell_grown (World.block_lt_of_cell? _ _ hc) hc n os
  have hki : (k : Int) < 64 := by omega
  have HBA : Hid (_) := hba
  have HBX : Hid (_) := And.intro b0 (And.intro b1 (And.intro b2 (And.intro b3 b4)))
  clear b0 b1 b2 b3 b4 hc hf hba
  go_quiet_grown (first | (go_at_call 17; first | (with_reducible refine Calls.grown_of (Gr.call R1)) | (with_reducible refine Calls.grown_of (Gr.call R2)) | (with_reducible refine Calls.grown_of (Gr.call R3))) | (go_at_call 18; with_reducible refine Calls.grown_of (Gr.call IM)))
  have hbg : Below W.heap.size W (Go.Sort.grow (W.drewN nq) osq) := Go.Proofs.below_grown_sl _ _ _ _ (Nat.le_refl _)
  have hT := HT.out.next hbg
  obtain ⟨b0, b1, b2, b3, b4⟩ := HBX.out
  replace b0 := (hbg.cell (World.block_lt_of_cell? _ _ b0)).trans b0
  replace b1 := (hbg.cell (World.block_lt_of_cell? _ _ b1)).trans b1
  replace b2 := (hbg.cell (World.block_lt_of_cell? _ _ b2)).trans b2
  replace b3 := (hbg.cell (World.block_lt_of_cell? _ _ b3)).trans b3
  replace b4 := (hbg.cell (World.block_lt_of_cell? _ _ b4)).trans b4
  have hbV : Below w.heap.size w (Go.Sort.grow (W.drewN nq) osq) := HBA.out.trans (hbg.mono HBA.out.size)
  clear z0 z1 z2 z3 z4 z5 hbg HBX HBA HT R1 R2 R3 IM
  generalize Go.Sort.grow (W.drewN nq) osq = V at *
  have DA := dec_any X V hX hT
  have HNX : Hid (∀ w2, Below V.heap.size V w2 → w2.cell? ⟨w.heap.size, 0, none⟩ = some (.int .i64 k) ∧ w2.cell? ⟨w.heap.size, 1, none⟩ = some (.int .i64 b) ∧ w2.cell? ⟨w.heap.size, 2, none⟩ = some (.int .i64 c) ∧ w2.cell? ⟨w.heap.size, 3, none⟩ = some (.int .i64 d) ∧ w2.cell? ⟨w.heap.size, 4, none⟩ = some (.int .i64 e) ∧ Below w.heap.size w w2) := by
    intro w2 hb2
    exact ⟨(hb2.cell (World.block_lt_of_cell? _ _ b0)).trans b0, (hb2.cell (World.block_lt_of_cell? _ _ b1)).trans b1, (hb2.cell (World.block_lt_of_cell? _ _ b2)).trans b2, (hb2.cell (World.block_lt_of_cell? _ _ b3)).trans b3, (hb2.cell (World.block_lt_of_cell? _ _ b4)).trans b4, hbV.trans (hb2.mono hbV.size)⟩
  clear b0 b1 b2 b3 b4 hT hbV
  cases hd : decF X with
  | none =>
    have hdv : decV X = .tuple #[(⟨0, 0, 0, 0, 0⟩ : In).agg, .bool false] := by unfold decV; rw [hd]
    have HV2 : Hid (encV ⟨k, b, c, d, e⟩ = .tuple #[.int .u32 0, .bool false]) := by show _ = _; rw [HV.out, hd]; rfl
    rw [hdv] at DA
    unfold In.agg at DA
    clear hd hdv HV
    go_wp2_with (go_at_call 15; with_reducible refine DA.mono ?_; rintro r w2 ⟨rfl, hb2⟩; obtain ⟨d0, d1, d2, d3, d4, d5⟩ := HNX.out _ hb2)
    go_ret2
    exact ⟨by rw [HV2.out]; rfl, d5.alloc d5.size _⟩
  | some y =>
    obtain ⟨p0, p1, p2, p3, p4⟩ := y
    have hdv : decV X = .tuple #[(⟨p0, p1, p2, p3, p4⟩ : In).agg, .bool true] := by unfold decV; rw [hd]
    rw [hdv] at DA
    unfold In.agg at DA
    simp only at DA
    have HD : Hid (_) := hd
    clear hd hdv
    by_cases he : p0 = k ∧ p1 = b ∧ p2 = c ∧ p3 = d ∧ p4 = e
    · obtain ⟨rfl, rfl, rfl, rfl, rfl⟩ := he
      have HV2 : Hid (encV ⟨k, p1, p2, p3, p4⟩ = .tuple #[.int .u32 X, .bool true]) := by show _ = _; rw [HV.out, HD.out, if_pos rfl]
      clear HV HD
      go_wp2_with (go_at_call 15; with_reducible refine DA.mono ?_; rintro r w2 ⟨rfl, hb2⟩; obtain ⟨d0, d1, d2, d3, d4, d5⟩ := HNX.out _ hb2; have hsz := World.block_lt_of_cell? _ _ d0)
      go_ret2
      exact ⟨by rw [HV2.out]; rfl, d5.alloc d5.size _⟩
    · have HV2 : Hid (encV ⟨k, b, c, d, e⟩ = .tuple #[.int .u32 0, .bool false]) := by
        show _ = _
        rw [HV.out, HD.out, if_neg]
        intro h
        have h2 := Option.some.inj h
        rw [In.mk.injEq] at h2
        exact he h2
      clear HV HD
      go_wp2_with (go_at_call 15; with_reducible refine DA.mono ?_; rintro r w2 ⟨rfl, hb2⟩; obtain ⟨d0, d1, d2, d3, d4, d5⟩ := HNX.out _ hb2; have hsz := World.block_lt_of_cell? _ _ d0)
      all_goals
        first
          | (exfalso; exact he ⟨by assumption, by assumption, by assumption, by assumption, by assumption⟩)
          | (go_ret2
             exact ⟨by rw [HV2.out]; rfl, d5.alloc d5.size _⟩)

theorem enc_any (i : In) (w : World) (ht : Tabs w) :
    Calls Tryd.prog 8 #[i.agg] w fun e w' => e = .returned (encV i) ∧ Below w.heap.size w w' := by
  by_cases ho : 0 ≤ i.op ∧ i.op < 64
  · obtain ⟨a, b, c, d, e⟩ := i
    obtain ⟨k, rfl⟩ := Int.eq_ofNat_of_zero_le ho.1
    exact enc_some k b c d e w (by simp only at ho; omega) ht
  · exact enc_none i w (by omega)
end Go.Proofs.YtmfmakkiefgogabDoor
