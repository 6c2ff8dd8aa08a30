/-
  What each statement of layer 2 asks first: the ordinary answers are there.
-/
import Derived.Test.YtjcefpeicbekhaaDoorA3
import Derived.Test.YtjcefpeicbekhaaDoorA4
import Derived.Deep.RegionHeld3
import Derived.Deep.DrawnRows
namespace Go.Proofs.YtjcefpeicbekhaaDoor
open Go.RowKit
attribute [local go_sem ↓] Go.wp_at_zero Go.wp_at_succ

def litS : ByteArray := ⟨#[104, 111, 108, 101, 32, 97, 116, 32, 48, 120, 49, 48, 48, 48, 48]⟩
def litP : List (List UInt8) := [[104, 111, 108, 101], [97, 116], [48, 120, 49, 48, 48, 48, 48]]

/-- Old cells and marks, behind a call that turns nothing old. -/
theorem bcell {W w1 : World} (hb : Below W.heap.size W w1) : (∀ b o, b < W.heap.size → w1.cell? ⟨b, o, none⟩ = W.cell? ⟨b, o, none⟩) ∧ (∀ b o, b < W.heap.size → w1.frozen? ⟨b, o, none⟩ = W.frozen? ⟨b, o, none⟩) :=
  ⟨fun b o h => hb.cell (p := ⟨b, o, none⟩) h, fun b o h => hb.frozen (p := ⟨b, o, none⟩) h⟩

theorem lit_split (w : World) : Calls Tryd.prog 17 #[.string litS, .string ⟨#[32]⟩] w fun e w' => e = .returned (.slice (some ⟨w.heap.size, 0, none⟩) 3 3) ∧ (w'.cell? ⟨w.heap.size, 0, none⟩ = some (.string ⟨#[104, 111, 108, 101]⟩) ∧ w'.cell? ⟨w.heap.size, 1, none⟩ = some (.string ⟨#[97, 116]⟩) ∧ w'.cell? ⟨w.heap.size, 2, none⟩ = some (.string ⟨#[48, 120, 49, 48, 48, 48, 48]⟩)) ∧ w.heap.size < w'.heap.size ∧ Below w.heap.size w w' := by
  refine (split_any litS litP 2 w (by decide) (by show _ = _; decide) rfl).mono ?_
  rintro e w' ⟨rfl, ho, hb⟩
  have h0 := ho.cellAt 0 (by omega)
  have h1 := ho.cellAt 1 (by omega)
  have h2 := ho.cellAt 2 (by omega)
  exact ⟨rfl, ⟨h0, h1, h2⟩, World.block_lt_of_cell? w' ⟨w.heap.size, 0, none⟩ (h0.trans rfl), hb⟩

theorem lit_numbered (w : World) (ht : Tabs w) : Calls Tryd.prog 18 #[.string ⟨#[104, 111, 108, 101]⟩] w fun x w' => x = .returned (.tuple #[.int .i64 9, .bool true]) ∧ w' = w :=
  numbered_yes _ 9 w ht (by omega) (by show _ = _; decide) (by show ∀ j, j < 9 → _; decide)

theorem lit_pu : PuR [49, 48, 48, 48, 48] 0 (PR.ok 65536) :=
  .step _ _ _ 1 _ rfl (by omega) (.step _ _ _ 0 _ rfl (by omega) (.step _ _ _ 0 _ rfl (by omega) (.step _ _ _ 0 _ rfl (by omega) (.step _ _ _ 0 _ rfl (by omega) (.done _)))))

theorem lit_address (w : World) : Calls Tryd.prog 19 #[.string ⟨#[48, 120, 49, 48, 48, 48, 48]⟩] w fun x w' => x = .returned (.int .u64 65536) ∧ Below w.heap.size w w' :=
  address_ok _ ⟨#[49, 48, 48, 48, 48]⟩ 65536 w (by decide) (by decide) (by rw [toList_eq]; decide) (by decide) (by decide) lit_pu

theorem lit_plain (w : World) : Calls Tryd.prog 20 #[.string ⟨#[]⟩] w fun x w' => x = .returned (.bool true) ∧ w' = w :=
  plain_yes _ w (by decide) (by intro j h; exact absurd h (by simp [ByteArray.size]))

theorem hex_lit : hexL 65536 = [49, 48, 48, 48, 48] := by
  rw [hexL, dif_neg (by omega), hexL, dif_neg (by omega), hexL, dif_neg (by omega), hexL, dif_neg (by omega), hexL, dif_pos (by omega)]
  decide

theorem lit_text (w : World) (ht : Tabs w) : Calls Tryd.prog 5 #[.agg #[.int .i64 9, .int .u64 65536, .string ⟨#[]⟩]] w fun x w' => x = .returned (.string litS) ∧ Below w.heap.size w w' := by
  have h := text_any 9 65536 ⟨#[]⟩ w ht (by decide) (by decide)
  have e : textL 9 65536 (⟨#[]⟩ : ByteArray).data.toList = litS.data.toList := by
    unfold textL
    rw [hex_lit]
    decide
  rw [e] at h
  exact h

theorem keep2 {W w' : World} (hb : Below W.heap.size W w') (x y : Nat) (h1 : x < W.heap.size) (h2 : y < W.heap.size) : (∀ o, w'.cell? ⟨x, o, none⟩ = W.cell? ⟨x, o, none⟩) ∧ (∀ o, w'.cell? ⟨y, o, none⟩ = W.cell? ⟨y, o, none⟩) ∧ (∀ o, w'.frozen? ⟨x, o, none⟩ = W.frozen? ⟨x, o, none⟩) ∧ (∀ o, w'.frozen? ⟨y, o, none⟩ = W.frozen? ⟨y, o, none⟩) :=
  ⟨fun o => (bcell hb).1 x o h1, fun o => (bcell hb).1 y o h2, fun o => (bcell hb).2 x o h1, fun o => (bcell hb).2 y o h2⟩

/-- Split, behind the result's own place. -/
theorem lit_split1 (w : World) : Calls Tryd.prog 17 #[.string litS, .string ⟨#[32]⟩] (w.alloc (.cells #[.int .i64 0, .int .u64 0, .string ⟨#[]⟩] 26)) fun e w' => e = .returned (.slice (some ⟨w.heap.size + 1, 0, none⟩) 3 3) ∧
    (w'.cell? ⟨w.heap.size + 1, 0, none⟩ = some (.string ⟨#[104, 111, 108, 101]⟩) ∧ w'.cell? ⟨w.heap.size + 1, 1, none⟩ = some (.string ⟨#[97, 116]⟩) ∧ w'.cell? ⟨w.heap.size + 1, 2, none⟩ = some (.string ⟨#[48, 120, 49, 48, 48, 48, 48]⟩)) ∧
    (w'.cell? ⟨w.heap.size, 0, none⟩ = some (.int .i64 0) ∧ w'.cell? ⟨w.heap.size, 1, none⟩ = some (.int .u64 0) ∧ w'.cell? ⟨w.heap.size, 2, none⟩ = some (.string ⟨#[]⟩)) ∧
    (∀ j, w'.frozen? ⟨w.heap.size, j, none⟩ = false) ∧ w.heap.size + 1 < w'.heap.size ∧ Below w.heap.size w w' := by
  refine (lit_split _).mono ?_
  rintro e w' ⟨rfl, ⟨h0, h1, h2⟩, hz, hb⟩
  obtain ⟨hc, hf⟩ := bcell hb
  simp only [World.size_alloc] at h0 h1 h2 hz hc hf hb
  refine ⟨by simp, ⟨h0, h1, h2⟩, ⟨?_, ?_, ?_⟩, fun j => ?_, hz, ?_⟩
  · rw [hc _ _ (by omega)]; simp [go_sem]
  · rw [hc _ _ (by omega)]; simp [go_sem]
  · rw [hc _ _ (by omega)]; simp [go_sem]
  · rw [hf _ _ (by omega)]; simp [go_sem]
  · exact ((Below.refl _ w).alloc (Nat.le_refl _) _).trans (hb.mono (by omega))

set_option maxRecDepth 100000 in
set_option maxHeartbeats 1600000 in
theorem lit_parse (w : World) (ht : Tabs w) : Calls Tryd.prog 10 #[.string litS] w fun x w' => x = .returned (.tuple #[.agg #[.int .i64 9, .int .u64 65536, .string ⟨#[]⟩], .bool true]) ∧ Below w.heap.size w w' := by
  have H7 := ht.size
  obtain ⟨S, hS⟩ : ∃ S, S = litS := ⟨_, rfl⟩
  have S16 := lit_split1 w
  have S8 := lit_text
  rw [← hS] at S16 S8 ⊢
  clear hS
  have HT : Hid (Tabs w) := ht
  clear ht
  go_enter Tryd.func10, Tryd.ntmps10
  go_wp2_with (first
    | (go_at_call 17; refine S16.mono ?_; clear S16; rintro e w1 ⟨rfl, ⟨c0, c1, c2⟩, ⟨d0, d1, d2⟩, df, hz1, hb1⟩)
    | (go_at_call 18; refine (lit_numbered _ (HT.out.below hb1 H7)).mono ?_; rintro e w2 ⟨rfl, hw2⟩; subst hw2; have hne : ¬ w.heap.size = w2.heap.size := by omega)
    | (go_at_call 19; refine (lit_address _).mono ?_; rintro e w3 ⟨rfl, hb3⟩; obtain ⟨k1, k2, k3, k4⟩ := keep2 hb3 w.heap.size w2.heap.size (by simp; omega) (by simp))
    | (go_at_call 20; refine (lit_plain _).mono ?_; rintro e w4 ⟨rfl, hw4⟩; subst hw4))
  have hz4 : w2.heap.size < w3.heap.size := by have := hb3.size; simp at this; omega
  have hW2 : Below w2.heap.size w2 (w3.setCell ⟨w2.heap.size, 1, none⟩ (.int .u64 65536)) := by
    refine Below.setCell (p := ⟨w2.heap.size, 1, none⟩) ?_ (show w2.heap.size ≤ w2.heap.size from Nat.le_refl _) _
    refine ((Below.refl _ w2).alloc (Nat.le_refl _) _).trans (hb3.mono ?_)
    simp
  have hW : Below w.heap.size w (w3.setCell ⟨w2.heap.size, 1, none⟩ (.int .u64 65536)) := hb1.trans (hW2.mono (by omega))
  refine (S8 _ (HT.out.below hW H7)).mono ?_
  rintro e w5 ⟨rfl, hb5⟩
  have m2 := (keep2 hb5 w.heap.size w2.heap.size (by simp; omega) (by simp; omega)).2.1
  have m4 := (keep2 hb5 w.heap.size w2.heap.size (by simp; omega) (by simp; omega)).2.2.2
  have hW5 : Below w2.heap.size w2 w5 := hW2.trans (hb5.mono (by simp; omega))
  have r0 := (hW5.cell (p := ⟨w.heap.size, 0, none⟩) (by show w.heap.size < _; omega)).trans d0
  have r1 := (hW5.cell (p := ⟨w.heap.size, 1, none⟩) (by show w.heap.size < _; omega)).trans d1
  have r2 := (hW5.cell (p := ⟨w.heap.size, 2, none⟩) (by show w.heap.size < _; omega)).trans d2
  have g0 := (hW5.frozen (p := ⟨w.heap.size, 0, none⟩) (by show w.heap.size < _; omega)).trans (df 0)
  have g1 := (hW5.frozen (p := ⟨w.heap.size, 1, none⟩) (by show w.heap.size < _; omega)).trans (df 1)
  have g2 := (hW5.frozen (p := ⟨w.heap.size, 2, none⟩) (by show w.heap.size < _; omega)).trans (df 2)
  have HB : Hid (Below w.heap.size w w5) := hW.trans (hb5.mono (by simp; omega))
  clear hW hb5 hb3 S8 hW2 hW5 k1 k3 d0 d1 d2 df c0 c1 c2
  go_wp2
  refine bodyPost_ret (v := .tuple #[.agg #[.int .i64 9, .int .u64 65536, .string ⟨#[]⟩], .bool true]) (by simp [results, Tryd.results10, go_sem, r0, r1, r2]) rfl ⟨rfl, ?_⟩
  exact ((HB.out.setCell (Nat.le_refl _) _).setCell (Nat.le_refl _) _).setCell (Nat.le_refl _) _

theorem sp_next {w0 W w' : World} {b : Nat} (hb : Below W.heap.size W w') (h : W.cell? ⟨b, 0, none⟩ = some (.int .i64 9) ∧ W.cell? ⟨b, 1, none⟩ = some (.int .u64 65536) ∧ W.cell? ⟨b, 2, none⟩ = some (.string ⟨#[]⟩) ∧ b < W.heap.size ∧ Tabs W ∧ Below w0.heap.size w0 W) :
    w'.cell? ⟨b, 0, none⟩ = some (.int .i64 9) ∧ w'.cell? ⟨b, 1, none⟩ = some (.int .u64 65536) ∧ w'.cell? ⟨b, 2, none⟩ = some (.string ⟨#[]⟩) ∧ b < w'.heap.size ∧ Tabs w' ∧ Below w0.heap.size w0 w' := by
  obtain ⟨h1, h2, h3, h4, h5, h6⟩ := h
  exact ⟨((bcell hb).1 b 0 h4).trans h1, ((bcell hb).1 b 1 h4).trans h2, ((bcell hb).1 b 2 h4).trans h3, Nat.lt_of_lt_of_le h4 hb.size, h5.next hb, bt h6 hb⟩

theorem sp_tabs {w0 W : World} {b : Nat} (h : W.cell? ⟨b, 0, none⟩ = some (.int .i64 9) ∧ W.cell? ⟨b, 1, none⟩ = some (.int .u64 65536) ∧ W.cell? ⟨b, 2, none⟩ = some (.string ⟨#[]⟩) ∧ b < W.heap.size ∧ Tabs W ∧ Below w0.heap.size w0 W) : Tabs W := h.2.2.2.2.1

theorem with_B (c : Int) (n : ByteArray) (w : World) : Calls Tryd.prog 11 #[.int .i64 c, .string n] w fun x w' => x = .returned (.agg #[.int .i64 c, .int .u64 0, .string n]) ∧ Below w.heap.size w w' :=
  (with_any c n w).mono fun _ _ ⟨h, h'⟩ => ⟨h, h' ▸ (Below.refl _ _).alloc (Nat.le_refl _) _⟩
theorem at_B (c a : Int) (w : World) : Calls Tryd.prog 12 #[.int .i64 c, .int .u64 a] w fun x w' => x = .returned (.agg #[.int .i64 c, .int .u64 a, .string ⟨#[]⟩]) ∧ Below w.heap.size w w' :=
  (at_any c a w).mono fun _ _ ⟨h, h'⟩ => ⟨h, h' ▸ (Below.refl _ _).alloc (Nat.le_refl _) _⟩
theorem ok_B (c a : Int) (n : ByteArray) (w : World) : Calls Tryd.prog 9 #[.agg #[.int .i64 c, .int .u64 a, .string n]] w fun x w' => x = .returned (.bool (c == 0)) ∧ Below w.heap.size w w' :=
  (ok_any c a n w).mono fun _ _ ⟨h, h'⟩ => ⟨h, h' ▸ (Below.refl _ _).alloc (Nat.le_refl _) _⟩
theorem of_B (c : Int) (w : World) : Calls Tryd.prog 13 #[.int .i64 c] w fun x w' => x = .returned (.agg #[.int .i64 c, .int .u64 0, .string ⟨#[]⟩]) ∧ Below w.heap.size w w' :=
  (of_any c w).mono fun _ _ ⟨h, h'⟩ => ⟨h, h' ▸ (Below.refl _ _).alloc (Nat.le_refl _) _⟩

theorem puts_text (w : World) (ht : Tabs w) : Calls Tryd.prog 5 #[.agg #[.int .i64 20, .int .u64 0, .string ⟨#[112, 117, 116, 115]⟩]] w fun x w' => x = .returned (.string ⟨#[115, 121, 109, 98, 111, 108, 32, 112, 117, 116, 115]⟩) ∧ Below w.heap.size w w' := by
  have h := text_any 20 0 ⟨#[112, 117, 116, 115]⟩ w ht (by decide) (by decide)
  exact h

set_option maxRecDepth 100000 in
set_option maxHeartbeats 1600000 in
theorem speaks_any (w : World) (ht : Tabs w) : Calls Tryd.prog 4 #[] w fun x w' => x = .returned (.bool true) ∧ Below w.heap.size w w' := by
  have HT : Hid (Tabs w) := ht
  clear ht
  go_enter Tryd.func4, Tryd.ntmps4
  go_wp2_with (first
    | (go_at_call 10; refine (lit_parse _ HT.out).mono ?_; rintro e w1 ⟨rfl, hb1⟩))
  obtain ⟨b, hb0⟩ : ∃ b, b = w1.heap.size := ⟨_, rfl⟩
  obtain ⟨W, hW0⟩ : ∃ W, W = w1.alloc (.cells #[.int .i64 9, .int .u64 65536, .string ⟨#[]⟩] 26) := ⟨_, rfl⟩
  have hS : W.cell? ⟨b, 0, none⟩ = some (.int .i64 9) ∧ W.cell? ⟨b, 1, none⟩ = some (.int .u64 65536) ∧ W.cell? ⟨b, 2, none⟩ = some (.string ⟨#[]⟩) ∧ b < W.heap.size ∧ Tabs W ∧ Below w.heap.size w W := by
    have hB : Below w.heap.size w W := by rw [hW0]; exact hb1.alloc hb1.size _
    refine ⟨?_, ?_, ?_, ?_, HT.out.next hB, hB⟩
    · rw [hW0, hb0]; simp [go_sem]
    · rw [hW0, hb0]; simp [go_sem]
    · rw [hW0, hb0]; simp [go_sem]
    · rw [hW0, hb0]; simp
  rw [← hb0, ← hW0]
  have hSd := sp_next (w' := W.drew) (Below.refl _ W).drew hS
  clear hb0 hW0 hb1 HT hS
  go_region_held3 (fun w' => w'.cell? ⟨b, 0, none⟩ = some (.int .i64 9) ∧ w'.cell? ⟨b, 1, none⟩ = some (.int .u64 65536) ∧ w'.cell? ⟨b, 2, none⟩ = some (.string ⟨#[]⟩) ∧ b < w'.heap.size ∧ Tabs w' ∧ Below w.heap.size w w')
    (first | assumption | exact sp_next (by assumption) (by assumption))
    (first
      | (go_at_call 11; refine (with_B _ _ _).mono ?_; rintro e w' ⟨rfl, hb⟩)
      | (go_at_call 5; refine (puts_text _ ?_).mono ?_; (exact sp_tabs (by assumption)); rintro e w' ⟨rfl, hb⟩)
      | (go_at_call 12; refine (at_B _ _ _).mono ?_; rintro e w' ⟨rfl, hb⟩)
      | (go_at_call 9; refine (ok_B _ _ _ _).mono ?_; rintro e w' ⟨rfl, hb⟩)
      | (go_at_call 13; refine (of_B _ _).mono ?_; rintro e w' ⟨rfl, hb⟩))
  go_wp2
  go_ret
  rename_i hH
  exact ⟨rfl, hH.2.2.2.2.2⟩
end Go.Proofs.YtjcefpeicbekhaaDoor
