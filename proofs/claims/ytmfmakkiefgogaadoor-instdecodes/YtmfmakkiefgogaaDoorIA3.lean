/-
  Layer 6: the Imm out of a word, and into it. No condition.
-/
import Derived.Test.YtmfmakkiefgogaaDoorIA2
namespace Go.Proofs.YtmfmakkiefgogaaDoor
open Go.RowKit
set_option linter.unusedVariables false

theorem pieces_small (c : Int) (k : Nat) (p : Piece) (h : (piecesOf c)[k]? = some p) : k < 4 ∧ p.count ≤ 20 ∧ p.inWord ≤ 31 ∧ p.inImm ≤ 20 := by
  unfold piecesOf at h
  have key : ∀ l : List Piece, l.length ≤ 4 → (∀ q ∈ l, q.count ≤ 20 ∧ q.inWord ≤ 31 ∧ q.inImm ≤ 20) → l[k]? = some p → k < 4 ∧ p.count ≤ 20 ∧ p.inWord ≤ 31 ∧ p.inImm ≤ 20 := by
    intro l hl hq hk
    have h1 := List.mem_of_getElem? hk
    have h2 : k < l.length := by
      by_cases hh : k < l.length
      · exact hh
      · rw [List.getElem?_eq_none (by omega)] at hk; cases hk
    exact ⟨by omega, hq p h1⟩
  split at h
  · exact key _ (by simp) (by simp) h
  split at h
  · exact key _ (by simp) (by simp) h
  split at h
  · exact key _ (by simp) (by simp) h
  split at h
  · exact key _ (by simp) (by simp) h
  split at h
  · exact key _ (by simp) (by simp) h
  split at h
  · exact key _ (by simp) (by simp) h
  split at h
  · exact key _ (by simp) (by simp) h
  simp at h

theorem box65 (w : World) (x y z : Int) : (w.alloc (.cells #[.int .i64 x, .int .i64 y, .int .i64 z] 85)).cell? ⟨w.heap.size, 0, none⟩ = some (.int .i64 x) ∧ (w.alloc (.cells #[.int .i64 x, .int .i64 y, .int .i64 z] 85)).cell? ⟨w.heap.size, 1, none⟩ = some (.int .i64 y) ∧ (w.alloc (.cells #[.int .i64 x, .int .i64 y, .int .i64 z] 85)).cell? ⟨w.heap.size, 2, none⟩ = some (.int .i64 z) := by
  refine ⟨?_, ?_, ?_⟩
  · rw [World.cell?_alloc_at _ _ _ _ (by simp)]; rfl
  · rw [World.cell?_alloc_at _ _ _ _ (by simp)]; rfl
  · rw [World.cell?_alloc_at _ _ _ _ (by simp)]; rfl

theorem take_next {α : Type} (l : List α) (k : Nat) (p : α) (h : l[k]? = some p) : l.take (k + 1) = l.take k ++ [p] := by
  rw [List.take_add_one, h]; rfl

/-- One round of immOf. -/
theorem from_step (x n : Nat) (p : Piece) (hx : x < 4294967296) (hn : n < 4294967296) (hc : p.count ≤ 20) (hi : p.inWord ≤ 31) :
    bits .or .u32 (n : Int) (IntKind.u32.wrap (bits .and .u32 ((x : Int) / 2 ^ p.inWord) ((2 ^ p.count - 1 : Nat) : Int) * 2 ^ p.inImm)) = ((n ||| p.from_ x : Nat) : Int) := by
  have e : (x : Int) / 2 ^ p.inWord = ((x / 2 ^ p.inWord : Nat) : Int) := by rw [Int.natCast_ediv, Int.natCast_pow]; rfl
  rw [e, andMask _ _ (Nat.lt_of_le_of_lt (Nat.div_le_self _ _) hx) (by omega)]
  have e3 : (2 : Int) ^ p.inImm = ((2 ^ p.inImm : Nat) : Int) := by rw [Int.natCast_pow]; rfl
  rw [e3, ← Int.natCast_mul, IntKind.wrap_u32]
  have e4 : ((x / 2 ^ p.inWord % 2 ^ p.count * 2 ^ p.inImm : Nat) : Int) % 4294967296 = ((p.from_ x : Nat) : Int) := by unfold Piece.from_; rw [Int.natCast_emod]; rfl
  rw [e4]
  exact u32_or_nat n (p.from_ x) hn (piece_lt p x)

set_option maxRecDepth 10000 in
set_option maxHeartbeats 1600000 in
theorem immOf_any (x : Nat) (c : Int) (w : World) (hx : x < 4294967296) :
    Calls Tryd.prog 31 #[.int .u32 x, .int .u8 c] w fun e w' => e = .returned (.int .i64 (immOf x c)) ∧ Gr w w' := by
  have PA := pieces_any c w
  have HI : Hid (immOf x c = wrap64 (ext ((gather (piecesOf c) x : Nat) : Int) (signedOf c))) := rfl
  have HP : Hid (∀ k p, (piecesOf c)[k]? = some p → k < 4 ∧ p.count ≤ 20 ∧ p.inWord ≤ 31 ∧ p.inImm ≤ 20) := fun k p h => pieces_small c k p h
  have hlen : (piecesOf c).length ≤ 4 := by unfold piecesOf; (repeat' split) <;> simp
  have SA := signed_any c
  generalize piecesOf c = ps at *
  go_enter Tryd.func31, Tryd.ntmps31
  go_wp2_with (go_at_call 57; refine PA.mono ?_; rintro e w1 (⟨hp0, rfl, hw⟩ | ⟨B, rfl, hB, hlt, hb1⟩))
  · subst hp0 hw
    go_loop [11, 5] (fun i v => i = .int .i64 0 ∧ v = .int .u32 0) (fun _ _ => 0)
    case atStart => exact ⟨rfl, rfl⟩
    case round =>
      obtain ⟨rfl, rfl⟩ := hrel
      go_wp2_with (first
        | (go_at_call 59; with_reducible refine (SA _).mono ?_; rintro e w' ⟨rfl, hw⟩; subst hw)
        | (go_at_call 39; with_reducible refine (ext_any _ _ _).mono ?_; rintro e w' ⟨rfl, hw⟩; subst hw))
      go_ret
      exact ⟨ret_int HI.out.symm, gr0 _⟩
  · go_loopw [11, 5] (fun i v wr => ∃ k n : Nat, k ≤ ps.length ∧ i = .int .i64 k ∧ v = .int .u32 n ∧ Hid (n = gather (ps.take k) x) ∧ Gr w1 wr) (fun i _ _ => ps.length - (intOf i).toNat)
    case atStart => exact ⟨0, 0, by omega, rfl, rfl, rfl, gr0 _⟩
    case round =>
      obtain ⟨k, n, hk, rfl, rfl, HG, hbr⟩ := hrel
      by_cases hlk : k < ps.length
      · obtain ⟨p, hp⟩ : ∃ p, ps[k]? = some p := ⟨ps[k], List.getElem?_eq_getElem hlk⟩
        obtain ⟨c1, c2, c3⟩ := hB k p hp
        obtain ⟨q0, q1, q2, q3⟩ := HP.out k p hp
        replace c1 := (hbr.below.cell (p := ⟨B, k * 3, none⟩) hlt).trans c1
        replace c2 := (hbr.below.cell (p := ⟨B, k * 3 + 1, none⟩) hlt).trans c2
        replace c3 := (hbr.below.cell (p := ⟨B, k * 3 + 2, none⟩) hlt).trans c3
        have HP2 : Hid (_) := hp
        clear hp
        obtain ⟨pc, pw, pi⟩ := p
        simp only at c1 c2 c3 q1 q2 q3
        have mixed := mixedTry
        have HS : Hid (_) := from_step x n ⟨pc, pw, pi⟩ hx (by rw [HG.out]; exact gather_lt _ _) q1 q2
        have MK := mask_any pc pw pi (by omega)
        go_wp2
        obtain ⟨b1, b2, b3⟩ := box65 wr pc pw pi
        have hba : Gr wr (wr.alloc (.cells #[.int .i64 pc, .int .i64 pw, .int .i64 pi] 85)) := gr1 rfl
        have HBA : Hid (_) := hba
        clear hba
        generalize wr.alloc (.cells #[.int .i64 pc, .int .i64 pw, .int .i64 pi] 85) = W at *
        have z1 := fun n os => Go.cell_grown (World.block_lt_of_cell? _ _ b1) b1 n os
        have z2 := fun n os => Go.cell_grown (World.block_lt_of_cell? _ _ b2) b2 n os
        have z3 := fun n os => Go.cell_grown (World.block_lt_of_cell? _ _ b3) b3 n os
        have HBR : Hid (_) := hbr
        clear b1 b2 b3 c1 c2 c3 hbr PA hB
        go_quiet_grown (first | (go_at_call 58; refine Calls.grown_of (Gr.call MK)))
        go_wp2
        go_roundw
        case rel =>
          refine ⟨k + 1, n ||| Piece.from_ ⟨pc, pw, pi⟩ x, by omega, by go_num, ?_, ?_, ?_⟩
          · rw [← HS.out]
          · show _ = _
            rw [take_next ps k _ HP2.out, gather_snoc, HG.out]
          · exact Gr.trans (Gr.trans HBR.out HBA.out) ⟨_, _, rfl⟩
        case measure => simp [intOf]; omega
      · have hk2 : k = ps.length := by omega
        have HN : Hid (n = gather ps x) := by show _ = _; rw [HG.out, hk2, List.take_length]
        subst hk2
        have hnl : n < 4294967296 := by rw [HN.out]; exact gather_lt _ _
        have HBR : Hid (_) := hbr
        clear hbr PA hB HG
        go_wp2_with (first
          | (go_at_call 59; with_reducible refine (SA _).mono ?_; rintro e w' ⟨rfl, hw⟩; subst hw)
          | (go_at_call 39; with_reducible refine (ext_any _ _ _).mono ?_; rintro e w' ⟨rfl, hw⟩; subst hw))
        go_ret
        refine ⟨ret_int ?_, Gr.trans hb1 HBR.out⟩
        rw [HI.out, HN.out]

/-- One round of immLaid. -/
theorem into_step (m n : Nat) (p : Piece) (hx : m < 4294967296) (hn : n < 4294967296) (hc : p.count ≤ 20) :
    bits .or .u32 (n : Int) (IntKind.u32.wrap (bits .and .u32 ((m : Int) / 2 ^ p.inImm) ((2 ^ p.count - 1 : Nat) : Int) * 2 ^ p.inWord)) = ((n ||| p.into m : Nat) : Int) := by
  have e : (m : Int) / 2 ^ p.inImm = ((m / 2 ^ p.inImm : Nat) : Int) := by rw [Int.natCast_ediv, Int.natCast_pow]; rfl
  rw [e, andMask _ _ (Nat.lt_of_le_of_lt (Nat.div_le_self _ _) hx) (by omega)]
  have e3 : (2 : Int) ^ p.inWord = ((2 ^ p.inWord : Nat) : Int) := by rw [Int.natCast_pow]; rfl
  rw [e3, ← Int.natCast_mul, IntKind.wrap_u32]
  have e4 : ((m / 2 ^ p.inImm % 2 ^ p.count * 2 ^ p.inWord : Nat) : Int) % 4294967296 = ((p.into m : Nat) : Int) := by unfold Piece.into; rw [Int.natCast_emod]; rfl
  rw [e4]
  exact u32_or_nat n (p.into m) hn (into_lt p m)

set_option maxRecDepth 10000 in
set_option maxHeartbeats 1600000 in
theorem immLaid_any (x : Int) (c : Int) (w : World) :
    Calls Tryd.prog 38 #[.int .i64 x, .int .u8 c] w fun e w' => e = .returned (.int .u32 ((immLaid x c : Nat) : Int)) ∧ Gr w w' := by
  have PA := pieces_any c w
  obtain ⟨m, hm⟩ : ∃ m : Nat, m = (x % 4294967296).toNat := ⟨_, rfl⟩
  have HI : Hid (immLaid x c = layImm (piecesOf c) m) := by show _ = _; rw [hm]; rfl
  have hxm : x % 4294967296 = (m : Int) := by omega
  have hx : m < 4294967296 := by omega
  clear hm
  have HP : Hid (∀ k p, (piecesOf c)[k]? = some p → k < 4 ∧ p.count ≤ 20 ∧ p.inWord ≤ 31 ∧ p.inImm ≤ 20) := fun k p h => pieces_small c k p h
  have hlen : (piecesOf c).length ≤ 4 := by unfold piecesOf; (repeat' split) <;> simp
  generalize piecesOf c = ps at *
  go_enter Tryd.func38, Tryd.ntmps38
  go_wp2_with (go_at_call 57; refine PA.mono ?_; rintro e w1 (⟨hp0, rfl, hw⟩ | ⟨B, rfl, hB, hlt, hb1⟩))
  · subst hp0 hw
    go_loop [11, 5] (fun i v => i = .int .i64 0 ∧ v = .int .u32 0) (fun _ _ => 0)
    case atStart => exact ⟨rfl, rfl⟩
    case round =>
      obtain ⟨rfl, rfl⟩ := hrel
      go_wp2
      go_ret
      exact ⟨ret_int (by rw [HI.out]; rfl), gr0 _⟩
  · go_loopw [11, 5] (fun i v wr => ∃ k n : Nat, k ≤ ps.length ∧ i = .int .i64 k ∧ v = .int .u32 n ∧ Hid (n = layImm (ps.take k) m) ∧ Gr w1 wr) (fun i _ _ => ps.length - (intOf i).toNat)
    case atStart => exact ⟨0, 0, by omega, rfl, rfl, rfl, gr0 _⟩
    case round =>
      obtain ⟨k, n, hk, rfl, rfl, HG, hbr⟩ := hrel
      by_cases hlk : k < ps.length
      · obtain ⟨p, hp⟩ : ∃ p, ps[k]? = some p := ⟨ps[k], List.getElem?_eq_getElem hlk⟩
        obtain ⟨c1, c2, c3⟩ := hB k p hp
        obtain ⟨q0, q1, q2, q3⟩ := HP.out k p hp
        replace c1 := (hbr.below.cell (p := ⟨B, k * 3, none⟩) hlt).trans c1
        replace c2 := (hbr.below.cell (p := ⟨B, k * 3 + 1, none⟩) hlt).trans c2
        replace c3 := (hbr.below.cell (p := ⟨B, k * 3 + 2, none⟩) hlt).trans c3
        have HP2 : Hid (_) := hp
        clear hp
        obtain ⟨pc, pw, pi⟩ := p
        simp only at c1 c2 c3 q1 q2 q3
        have mixed := mixedTry
        have HS : Hid (_) := into_step m n ⟨pc, pw, pi⟩ hx (by rw [HG.out]; exact lay_lt _ _) q1
        have MK := mask_any pc pw pi (by omega)
        go_wp2
        obtain ⟨b1, b2, b3⟩ := box65 wr pc pw pi
        have hba : Gr wr (wr.alloc (.cells #[.int .i64 pc, .int .i64 pw, .int .i64 pi] 85)) := gr1 rfl
        have HBA : Hid (_) := hba
        clear hba
        generalize wr.alloc (.cells #[.int .i64 pc, .int .i64 pw, .int .i64 pi] 85) = W at *
        have z1 := fun n os => Go.cell_grown (World.block_lt_of_cell? _ _ b1) b1 n os
        have z2 := fun n os => Go.cell_grown (World.block_lt_of_cell? _ _ b2) b2 n os
        have z3 := fun n os => Go.cell_grown (World.block_lt_of_cell? _ _ b3) b3 n os
        have HBR : Hid (_) := hbr
        clear b1 b2 b3 c1 c2 c3 hbr PA hB
        go_quiet_grown (first | (go_at_call 58; refine Calls.grown_of (Gr.call MK)))
        go_wp2
        go_roundw
        case rel =>
          refine ⟨k + 1, n ||| Piece.into ⟨pc, pw, pi⟩ m, by omega, by go_num, ?_, ?_, ?_⟩
          · rw [← HS.out, ← hxm, IntKind.wrap_u32 x]
          · show _ = _
            rw [take_next ps k _ HP2.out, lay_snoc, HG.out]
          · exact Gr.trans (Gr.trans HBR.out HBA.out) ⟨_, _, rfl⟩
        case measure => simp [intOf]; omega
      · have hk2 : k = ps.length := by omega
        have HN : Hid (n = layImm ps m) := by show _ = _; rw [HG.out, hk2, List.take_length]
        subst hk2
        have hnl : n < 4294967296 := by rw [HN.out]; exact lay_lt _ _
        have HBR : Hid (_) := hbr
        clear hbr PA hB HG
        go_wp2
        go_ret
        refine ⟨ret_int ?_, Gr.trans hb1 HBR.out⟩
        rw [HI.out, HN.out]
end Go.Proofs.YtmfmakkiefgogaaDoor
