/-
  Layer 13: the statements' own first lines: a table of two names.
-/
import Derived.Test.YtffmkkfacemchaaB2
namespace Go.Proofs.Ytffmkkfacemchaa
open Go.RowKit Go.Sort
set_option linter.unusedVariables false

/-- The three names. -/
def nm3 (j : Nat) : ByteArray := if j = 0 then ⟨#[]⟩ else if j = 1 then ⟨#[97]⟩ else ⟨#[98]⟩
theorem nm3_size (j : Nat) : (nm3 j).size ≤ 9223372036854775807 := by
  unfold nm3
  split
  · exact Nat.zero_le _
  · split
    · exact (by decide : (ByteArray.mk #[97]).size ≤ 9223372036854775807)
    · exact (by decide : (ByteArray.mk #[98]).size ≤ 9223372036854775807)
/-- A block of three texts. -/
theorem names3 {W : World} {B : Nat} {t : TypeId} (h : W.heap[B]? = some (.cells #[.string ⟨#[]⟩, .string ⟨#[97]⟩, .string ⟨#[98]⟩] t (0, 0))) : Names W (some ⟨B, 0, none⟩) 3 B 0 nm3 where
  en := fun _ => rfl
  rn := fun j hj => by
    match j, hj with
    | 0, _ => simp [World.cell?, h, nm3]
    | 1, _ => simp [World.cell?, h, nm3]
    | 2, _ => simp [World.cell?, h, nm3]
    | j + 3, hj => omega
  ln := fun _ => (Array.getElem?_eq_some_iff.1 h).1
  hn := by omega
  hs := fun j _ => nm3_size j
theorem b3 : bldB (fun _ => 0) 3 0 = 2 := by simp [bldB, upd]
theorem c3 : bldC (fun _ => 0) 3 2 = 1 ∧ bldC (fun _ => 0) 3 1 = 0 := by simp [bldB, bldC, upd]
theorem walk3 (s : ByteArray) : walkN (bldB (fun _ => 0) 3) (bldC (fun _ => 0) 3) 1 3 s = [2, 1] := by
  unfold walkN
  rw [if_neg (by omega), Nat.mod_one, b3, walkL_go _ _ _ _ (by omega), c3.1, walkL_go _ _ _ _ (by omega), c3.2, walkL_end _ _ _ _ (Or.inl rfl)]
theorem find3 : findF nm3 3 ⟨#[97]⟩ (walkN (bldB (fun _ => 0) 3) (bldC (fun _ => 0) 3) 1 3 ⟨#[97]⟩) = (1, true) := by
  rw [walk3]
  have h2 : hit nm3 3 ⟨#[97]⟩ 2 = false := by unfold hit nm3; decide
  have h1 : hit nm3 3 ⟨#[97]⟩ 1 = true := by unfold hit nm3; decide
  simp [findF, List.find?, h1, h2]
theorem tab_of {w : World} {g1 g2 nb nn : Nat} {f c : Nat → Nat} (h1 : RowB w g1 nb f) (h2 : RowB w g2 nn c) (hb : nb ≤ 256) (hn : nn ≤ 256) (hf : ∀ j, j < nb → f j < 4294967296) (hc : ∀ j, j < nn → c j < 4294967296) :
    Tab w (some ⟨g1, 0, none⟩) (some ⟨g2, 0, none⟩) nb nn nb nn g1 0 g2 0 f c :=
  ⟨fun _ => rfl, fun _ => rfl, h1.row, h2.row, h1.lt, h2.lt, by omega, by omega, Nat.le_refl _, Nat.le_refl _, hf, hc⟩
theorem bld_lt (hf : Nat → Nat) : ∀ n j, bldB hf n j < n + 1 ∧ bldC hf n j < n + 1
  | 0, j => ⟨Nat.lt_succ_self _, Nat.lt_succ_self _⟩
  | n + 1, j => by
    have ih := bld_lt hf n
    unfold bldB bldC
    split
    · exact ⟨Nat.succ_pos _, Nat.succ_pos _⟩
    · unfold upd
      refine ⟨?_, ?_⟩
      · split
        · omega
        · have := (ih j).1; omega
      · split
        · have := (ih (hf n)).1; omega
        · have := (ih j).2; omega

theorem row_al {W : World} {g n : Nat} {f : Nat → Nat} (h : RowB W g n f) (o o' : Obj) : RowB ((W.alloc o).alloc o') g n f :=
  (h.same (Below.heap_alloc W o g h.lt)).same (Below.heap_alloc (W.alloc o) o' g (by have := h.lt; simp; omega))
theorem speaks_facts {W w2 : World} {g1 g2 : Nat} {o' : Obj} (h1 : RowB W g1 1 (bldB (fun _ => 0) 3)) (h2 : RowB W g2 3 (bldC (fun _ => 0) 3)) (hb : Below ((W.alloc (.cells #[slv (some ⟨g1, 0, none⟩) 1 1, slv (some ⟨g2, 0, none⟩) 3 3] 25)).alloc o').heap.size ((W.alloc (.cells #[slv (some ⟨g1, 0, none⟩) 1 1, slv (some ⟨g2, 0, none⟩) 3 3] 25)).alloc o') w2) :
    w2.cell? ⟨W.heap.size, 0, none⟩ = some (slv (some ⟨g1, 0, none⟩) 1 1) ∧ w2.cell? ⟨W.heap.size, 1, none⟩ = some (slv (some ⟨g2, 0, none⟩) 3 3) ∧ w2.cell? ⟨g1, 0, none⟩ = some (.int .u32 2) ∧ w2.cell? ⟨g2, 2, none⟩ = some (.int .u32 1) := by
  have e0 := ((hb.block W.heap.size (by simp; omega)).trans (Below.heap_alloc _ o' _ (by simp))).trans (World.alloc_heap_new W (.cells #[slv (some ⟨g1, 0, none⟩) 1 1, slv (some ⟨g2, 0, none⟩) 3 3] 25))
  have r1 := (row_al h1 (.cells #[slv (some ⟨g1, 0, none⟩) 1 1, slv (some ⟨g2, 0, none⟩) 3 3] 25) o')
  have r2 := (row_al h2 (.cells #[slv (some ⟨g1, 0, none⟩) 1 1, slv (some ⟨g2, 0, none⟩) 3 3] 25) o')
  have q1 := (r1.same (hb.block _ r1.lt)).cell 0 (by omega)
  have q2 := (r2.same (hb.block _ r2.lt)).cell 2 (by omega)
  rw [b3] at q1
  rw [c3.1] at q2
  exact ⟨(cells_of2 e0).1, (cells_of2 e0).2, q1, q2⟩
theorem new_al (W : World) (o o' : Obj) : ((W.alloc o).alloc o').heap[W.heap.size + 1]? = some o' := by
  have h := World.alloc_heap_new (W.alloc o) o'
  rw [World.size_alloc] at h
  exact h
set_option maxRecDepth 100000 in
set_option maxHeartbeats 2000000 in
theorem speaks13_any (w : World) : Calls Try.prog 9 #[] w fun e w' => e = .returned (.bool true) ∧ Below w.heap.size w w' := by
  have BD : ∀ (W : World) (B : Nat), W.heap[B]? = some (.cells #[.string ⟨#[]⟩, .string ⟨#[97]⟩, .string ⟨#[98]⟩] 9 (0, 0)) → Calls Try.prog 19 #[.slice (some ⟨B, 0, none⟩) 3 3, .int .i64 1] W fun e w' => (∃ g1 g2, e = .returned (.tuple #[tbv (slv (some ⟨g1, 0, none⟩) 1 1) (slv (some ⟨g2, 0, none⟩) 3 3), .bool true]) ∧ Hid (RowB w' g1 1 (bldB (fun _ => 0) 3)) ∧ Hid (RowB w' g2 3 (bldC (fun _ => 0) 3))) ∧ Below W.heap.size W w' := fun W B hB =>
    (build_any (some ⟨B, 0, none⟩) 3 3 B 0 1 nm3 (fun _ => 0) W (fun j => Nat.mod_one _) (names3 hB) (by omega) (by omega) (by omega) (by omega)).mono (by
      rintro e w' ⟨⟨g1, g2, rfl, h1, h2, _⟩, hb⟩
      exact ⟨⟨g1, g2, rfl, h1, h2⟩, hb⟩)
  have FD : ∀ (W : World) (g1 g2 B : Nat), RowB W g1 1 (bldB (fun _ => 0) 3) → RowB W g2 3 (bldC (fun _ => 0) 3) → W.heap[B]? = some (.cells #[.string ⟨#[]⟩, .string ⟨#[97]⟩, .string ⟨#[98]⟩] 9 (0, 0)) →
      Calls Try.prog 17 #[tbv (slv (some ⟨g1, 0, none⟩) 1 1) (slv (some ⟨g2, 0, none⟩) 3 3), .string ⟨#[97]⟩, .slice (some ⟨B, 0, none⟩) 3 3] W fun e w' => e = .returned (.tuple #[.int .i64 1, .bool true]) ∧ Below W.heap.size W w' := fun W g1 g2 B h1 h2 hB => by
    have h := find_any (some ⟨g1, 0, none⟩) (some ⟨g2, 0, none⟩) (some ⟨B, 0, none⟩) 1 3 1 3 g1 0 g2 0 3 3 B 0 (bldB (fun _ => 0) 3) (bldC (fun _ => 0) 3) nm3 ⟨#[97]⟩ W (by decide) (tab_of h1 h2 (by omega) (by omega) (fun j _ => by have := (bld_lt (fun _ => 0) 3 j).1; omega) (fun j _ => by have := (bld_lt (fun _ => 0) 3 j).2; omega)) (names3 hB)
    rw [find3] at h
    exact h
  go_enter Try.func9, Try.ntmps9
  go_wp2_with (first
    | (go_at_call 19; refine (BD _ _ (World.alloc_heap_new _ _)).mono ?_; rintro e w1 ⟨⟨g1, g2, rfl, HG1, HG2⟩, hb1⟩)
    | (go_at_call 17; refine (FD _ g1 g2 _ (row_al HG1.out _ _) (row_al HG2.out _ _) (new_al _ _ _)).mono ?_; rintro e w2 ⟨rfl, hb2⟩; have hh := speaks_facts HG1.out HG2.out hb2; obtain ⟨y0, y1, z0, z2⟩ := hh))
  go_ret
  exact ⟨rfl, bt (bt ((Below.refl _ w).alloc (Nat.le_refl _) _) hb1) (bt (((Below.refl _ w1).alloc (Nat.le_refl _) _).alloc (by simp) _) hb2)⟩
end Go.Proofs.Ytffmkkfacemchaa
