/-
  Layer 13: the walk of SysvBuilds, where no list is, and where the count of buckets may not be.
-/
import Derived.Test.YtffmkkfacemchaaG1
import Derived.Lib.AppendZeros
namespace Go.Proofs.Ytffmkkfacemchaa
open Go.RowKit
set_option linter.unusedVariables false

theorem app_nil (w : World) (B : Nat) (ty : TypeId) : (Builtin.append_ #[37, 37] ty #[.slice (some ⟨B, 0, none⟩) 1 1, .slice none 0 0]).run Try.prog w = .ok (.slice (some ⟨B, 0, none⟩) 1 1) w := by
  simp [Builtin.append_, go_sem]
theorem wp_app_nil {w : World} {ops : Array Oper} {rest : List Oper} {o : Oper} {a : Act} {Q : Exit → Act → World → Prop} (f : Nat → ByteArray) (B : Nat) (hgd : o.guard = none) (s x : Operand)
    (ho : o.op = .call { callee := .builtin .append, args := #[s, x], argTypes := #[37, 37] }) (hs : a.eval s = .slice (some ⟨B, 0, none⟩) 1 1) (hx : a.eval x = .slice none 0 0) (hrow : w.heap[B]? = some (.cells #[.string ⟨#[]⟩] 9 (0, 0)))
    (h : ∀ v' w', w'.ownsRow B 9 1 v' (1 + 0) ([Value.string ⟨#[]⟩] ++ strC f 0) → w.grownBy w' none → wpList Try.prog ops Q rest (a.put o.dst v') w') : wpList Try.prog ops Q (o :: rest) a w :=
  Go.Lib.wpList_append_run w hgd s x 37 37 ho _ _ hs hx _ _ (app_nil w B o.type) (h _ _ (one_str w B hrow) ⟨rfl, rfl, rfl, Nat.le_refl _, fun _ _ _ => rfl⟩)
theorem names_let {W : World} {base m : Nat} {v : Value} {f : Nat → ByteArray} (h : W.ownsRow base 9 1 v (1 + m) ([Value.string ⟨#[]⟩] ++ strC f m)) (hf : ∀ j, j < m → (f j).size ≤ 9223372036854775807) (hm : m ≤ 60) :
    ∃ NN g cap, v = .slice (some ⟨g, 0, none⟩) NN cap ∧ Hid (NN = 1 + m) ∧ NN ≤ cap ∧ Names W (some ⟨g, 0, none⟩) NN g 0 (consN f) := by
  obtain ⟨g, cap, h1, h2, h3⟩ := names_of h hf hm
  exact ⟨_, g, cap, h1, rfl, h2, h3⟩

set_option maxRecDepth 100000 in
set_option maxHeartbeats 8000000 in
theorem builds_good_nil (f : Nat → ByteArray) (nb : Nat) (other : ByteArray) (w : World) (ho : other.size ≤ 9223372036854775807) (h0 : 1 ≤ nb) (h1 : nb ≤ 256) :
    Calls Try.prog 5 #[.slice none 0 0, .int .i64 (nb : Int), .string other] w fun e w' => e = .returned (.bool true) ∧ Below w.heap.size w w' := by
  have S9 := fun W => speaks13_any W
  have k1 : ¬ (nb : Int) < 1 := by omega
  have k2 : (nb : Int) ≤ 256 := by omega
  go_enter Try.func5, Try.ntmps5
  go_wp2_with (first
    | (go_at_call 9; refine (S9 _).mono ?_; rintro r w1 ⟨rfl, hb1⟩)
    | (at_builtin; refine wp_app_nil f w1.heap.size rfl _ _ rfl rfl rfl (World.alloc_heap_new w1 _) ?_; intro v' w2 hown' hgrow; obtain ⟨NN, g, cn, hv', hNN, hcn, HNM⟩ := names_let hown' (fun j hj => absurd hj (by omega)) (by omega); subst hv')
    | fail)
  have hN0 : 1 ≤ NN := by have := hNN.out; omega
  have hN1 : NN ≤ 61 := by have := hNN.out; omega
  have hbw2 : Below w.heap.size w w2 := ((hb1.alloc hb1.size _).grown hgrow (by rw [World.size_alloc]; have := hb1.size; omega) (fun q hq => by cases hq))
  have HNMS : Hid (Names w2 (some ⟨g, 0, none⟩) NN g 0 (consN f)) := HNM
  have HBW2 : Hid (Below w.heap.size w w2) := hbw2
  clear hown' hgrow hNN HNM hbw2 hb1
  obtain ⟨hfn, hhfn⟩ : ∃ hfn : Nat → Nat, ∀ j, hs (consN f j) % nb = hfn j := ⟨_, fun j => rfl⟩
  refine (build_any (some ⟨g, 0, none⟩) NN cn g 0 nb (consN f) hfn w2 hhfn HNMS.out h0 h1 hN0 (by omega)).mono ?_
  rintro e w3 ⟨⟨g1, g2, rfl, hr1, hr2, hne⟩, hb3⟩
  obtain ⟨B, hBd⟩ : ∃ B, bldB hfn NN = B := ⟨_, rfl⟩
  obtain ⟨C, hCd⟩ : ∃ C, bldC hfn NN = C := ⟨_, rfl⟩
  have HBd : Hid (bldB hfn NN = B) := hBd
  have HCd : Hid (bldC hfn NN = C) := hCd
  have HHF : Hid (∀ j, hs (consN f j) % nb = hfn j) := hhfn
  have hBl : ∀ j, j < nb → B j < NN := fun j hj => by rw [← hBd]; exact bldB_lt hfn j NN (by omega)
  have hCl : ∀ j, j < NN → C j < NN := fun j hj => by rw [← hCd]; exact bldC_lt hfn NN j hj
  rw [hBd] at hr1
  rw [hCd] at hr2
  have HBl : Hid (∀ j, j < nb → B j < NN) := hBl
  have HCl : Hid (∀ j, j < NN → C j < NN) := hCl
  have HT3 : Hid (Tab w3 (some ⟨g1, 0, none⟩) (some ⟨g2, 0, none⟩) nb NN nb NN g1 0 g2 0 B C) := tab_of hr1 hr2 h1 (by omega) (fun j hj => by have := hBl j hj; omega) (fun j hj => by have := hCl j hj; omega)
  have HN3 : Hid (Names w3 (some ⟨g, 0, none⟩) NN g 0 (consN f)) := HNMS.out.below hb3
  have HB3 : Hid (Below w.heap.size w w3) := bt HBW2.out hb3
  clear hBd hCd hhfn hBl hCl hr1 hr2 hb3 hne HNMS HBW2
  go_wp2_with fail
  obtain ⟨W3, hW3⟩ : ∃ W3, w3.alloc (Obj.cells #[slv (some ⟨g1, 0, none⟩) nb nb, slv (some ⟨g2, 0, none⟩) NN NN] 25) = W3 := ⟨_, rfl⟩
  have hb3' : Below w3.heap.size w3 W3 := by rw [← hW3]; exact (Below.refl _ w3).alloc (Nat.le_refl _) _
  have hcT := box2 w3 (slv (some ⟨g1, 0, none⟩) nb nb) (slv (some ⟨g2, 0, none⟩) NN NN)
  rw [hW3] at hcT
  rw [hW3]
  obtain ⟨T, hT⟩ : ∃ T, w3.heap.size = T := ⟨_, rfl⟩
  rw [hT] at hcT ⊢
  have HT4 : Hid (Tab W3 (some ⟨g1, 0, none⟩) (some ⟨g2, 0, none⟩) nb NN nb NN g1 0 g2 0 B C) := HT3.out.below hb3'
  have HN4 : Hid (Names W3 (some ⟨g, 0, none⟩) NN g 0 (consN f)) := HN3.out.below hb3'
  have HB4 : Hid (Below w.heap.size w W3) := bt HB3.out hb3'
  have HcT : Hid (W3.cell? ⟨T, 0, none⟩ = some (slv (some ⟨g1, 0, none⟩) nb nb) ∧ W3.cell? ⟨T, 1, none⟩ = some (slv (some ⟨g2, 0, none⟩) NN NN)) := hcT
  clear hW3 hb3' hcT hT HT3 HN3 HB3
  refine (put_any _ _ nb NN nb NN g1 0 g2 0 B C W3 HT4.out (by omega) (by omega)).mono ?_
  rintro e w4 ⟨rfl, hb4⟩
  go_wp2_with fail
  refine (read_put B C nb NN (by omega) h1 (by omega) (by omega) HBl.out HCl.out w4).mono ?_
  rintro e w5 ⟨⟨g3, a3, rfl, ha3, hr3, hr4, hl3⟩, hb5⟩
  obtain rfl := ha3 (by omega)
  have hb35 := bt hb4 hb5
  have HR3 : Hid (RowU w5 g3 0 nb B ∧ RowU w5 g3 nb NN C ∧ g3 < w5.heap.size) := ⟨hr3, hr4, hl3⟩
  have HB35 : Hid (Below W3.heap.size W3 w5) := hb35
  clear hb4 hb5 hb35 hr3 hr4 hl3 ha3
  have lT := World.block_lt_of_cell? _ _ HcT.out.1
  have lT5 : T < w5.heap.size := Nat.lt_of_lt_of_le lT HB35.out.size
  have lT6 : T < w5.heap.size + 1 := by omega
  have cT0 : w5.cell? ⟨T, 0, none⟩ = some (slv (some ⟨g1, 0, none⟩) nb nb) := (HB35.out.cell (p := ⟨T, 0, none⟩) lT).trans HcT.out.1
  have cT1 : w5.cell? ⟨T, 1, none⟩ = some (slv (some ⟨g2, 0, none⟩) NN NN) := (HB35.out.cell (p := ⟨T, 1, none⟩) lT).trans HcT.out.2
  clear lT
  go_wp2_with fail
  obtain ⟨W6, hW6⟩ : ∃ W6, ((w5.alloc (Obj.cells #[slv (some ⟨g3, 0, none⟩) nb nb, slv (some ⟨g3, nb, none⟩) NN NN] 25)).alloc (fbox 0 0)) = W6 := ⟨_, rfl⟩
  have hb56 : Below w5.heap.size w5 W6 := by rw [← hW6]; exact ((Below.refl _ w5).alloc (Nat.le_refl _) _).alloc (by simp) _
  have HX : Hid (W6.cell? ⟨w5.heap.size, 0, none⟩ = some (slv (some ⟨g3, 0, none⟩) nb nb) ∧ W6.cell? ⟨w5.heap.size, 1, none⟩ = some (slv (some ⟨g3, nb, none⟩) NN NN) ∧ (W6.cell? ⟨w5.heap.size + 1, 0, none⟩ = some (.int .i64 0) ∧ W6.cell? ⟨w5.heap.size + 1, 1, none⟩ = some (.int .u64 0) ∧ W6.cell? ⟨w5.heap.size + 1, 2, none⟩ = some (.string ⟨#[]⟩))) := by
    rw [← hW6]
    show _ ∧ _ ∧ _
    refine ⟨?_, ?_, ?_, ?_, ?_⟩ <;> simp [go_sem]
  rw [hW6]
  obtain ⟨U, hU⟩ : ∃ U, w5.heap.size = U := ⟨_, rfl⟩
  rw [hU] at HX ⊢
  have hb36 : Below W3.heap.size W3 W6 := bt HB35.out hb56
  have HT6 : Hid (Tab W6 (some ⟨g1, 0, none⟩) (some ⟨g2, 0, none⟩) nb NN nb NN g1 0 g2 0 B C) := HT4.out.below hb36
  have HN6 : Hid (Names W6 (some ⟨g, 0, none⟩) NN g 0 (consN f)) := HN4.out.below hb36
  have HB6 : Hid (Below w.heap.size w W6) := bt HB4.out hb36
  have HcT6 : Hid (W6.cell? ⟨T, 0, none⟩ = some (slv (some ⟨g1, 0, none⟩) nb nb) ∧ W6.cell? ⟨T, 1, none⟩ = some (slv (some ⟨g2, 0, none⟩) NN NN)) := ⟨(hb56.cell (p := ⟨T, 0, none⟩) lT5).trans cT0, (hb56.cell (p := ⟨T, 1, none⟩) lT5).trans cT1⟩
  have HR6 : Hid (RowU W6 g3 0 nb B ∧ RowU W6 g3 nb NN C ∧ g3 < W6.heap.size) := ⟨HR3.out.1.next hb56 HR3.out.2.2, HR3.out.2.1.next hb56 HR3.out.2.2, Nat.lt_of_lt_of_le HR3.out.2.2 hb56.size⟩
  clear hW6 hb56 hU hb36 lT5 lT6 cT0 cT1 HB35 HR3 HT4 HN4 HB4 HcT
  have hck := check_built hfn nb NN (consN f) HHF.out (by omega)
  rw [HBd.out, HCd.out] at hck
  have hch := check_any (some ⟨g1, 0, none⟩) (some ⟨g2, 0, none⟩) (some ⟨g, 0, none⟩) nb NN nb NN g1 0 g2 0 NN cn g 0 NN B C (consN f) W6 HT6.out HN6.out (Nat.min_self _) hcn
  rw [hck] at hch
  refine hch.mono ?_
  clear hch hck
  rintro e w7 ⟨rfl, hb7⟩
  have HT7 : Hid (Tab w7 (some ⟨g1, 0, none⟩) (some ⟨g2, 0, none⟩) nb NN nb NN g1 0 g2 0 B C) := HT6.out.below hb7
  have HN7 : Hid (Names w7 (some ⟨g, 0, none⟩) NN g 0 (consN f)) := HN6.out.below hb7
  have HB7 : Hid (Below w.heap.size w w7) := bt HB6.out hb7
  obtain ⟨x0, x1, x2, x3, x4⟩ := HX.out
  obtain ⟨t0, t1⟩ := HcT6.out
  have k7 : ∀ {a : Addr} {v}, W6.cell? a = some v → w7.cell? a = some v := fun hc => (hb7.cell (World.block_lt_of_cell? _ _ hc)).trans hc
  replace x0 := k7 x0
  replace x1 := k7 x1
  replace x2 := k7 x2
  replace x3 := k7 x3
  replace x4 := k7 x4
  replace t0 := k7 t0
  replace t1 := k7 t1
  have HR7 : Hid (RowU w7 g3 0 nb B ∧ RowU w7 g3 nb NN C ∧ g3 < w7.heap.size) := ⟨HR6.out.1.next hb7 HR6.out.2.2, HR6.out.2.1.next hb7 HR6.out.2.2, Nat.lt_of_lt_of_le HR6.out.2.2 hb7.size⟩
  clear HT6 HN6 HB6 HX HcT6 HR6 hb7 k7
  have lt0 := World.block_lt_of_cell? _ _ t0
  have lx0 := World.block_lt_of_cell? _ _ x0
  have lx2 := World.block_lt_of_cell? _ _ x2
  dsimp only at lt0 lx0 lx2
  go_wp2_with (first
    | (go_at_call 20; refine (fok_any _ _ _).mono ?_; rintro r w8 ⟨rfl, rfl⟩)
    | fail)
  have hb78 : Below w7.heap.size w7 (w7.alloc (fbox 0 0)) := (Below.refl _ w7).alloc (Nat.le_refl _) _
  refine (same_any (some ⟨g1, 0, none⟩) (some ⟨g3, 0, none⟩) nb nb nb g1 0 g3 0 B B (w7.alloc (fbox 0 0)) (fun _ => rfl) (fun _ => rfl) (HT7.out.rb.next hb78 HT7.out.lb) (HR7.out.1.next hb78 HR7.out.2.2) (fun _ _ => rfl) (by omega) (Nat.le_refl _) (Nat.le_refl _)).mono ?_
  rintro e w9 ⟨rfl, q, hq⟩
  have hb79 : Below w7.heap.size w7 w9 := by rw [hq]; exact below_drewN hb78 q
  have k7 : ∀ {a : Addr} {v}, w7.cell? a = some v → w9.cell? a = some v := fun hc => (hb79.cell (World.block_lt_of_cell? _ _ hc)).trans hc
  replace t0 := k7 t0
  replace t1 := k7 t1
  replace x1 := k7 x1
  clear k7 hq q x0 x2 x3 x4 lt0 lx0 lx2 hb78
  go_wp2_with fail
  refine (same_any (some ⟨g2, 0, none⟩) (some ⟨g3, nb, none⟩) NN NN NN g2 0 g3 nb C C w9 (fun _ => rfl) (fun _ => rfl) (HT7.out.rc.next hb79 HT7.out.lc) (HR7.out.2.1.next hb79 HR7.out.2.2) (fun _ _ => rfl) (by omega) (Nat.le_refl _) (Nat.le_refl _)).mono ?_
  rintro e w10 ⟨rfl, q, hq⟩
  have hb70 : Below w7.heap.size w7 w10 := by rw [hq]; exact below_drewN hb79 q
  have k9 : ∀ {a : Addr} {v}, w9.cell? a = some v → w10.cell? a = some v := fun hc => by rw [hq]; exact hc
  replace t0 := k9 t0
  replace t1 := k9 t1
  have HT10 : Hid (Tab w10 (some ⟨g1, 0, none⟩) (some ⟨g2, 0, none⟩) nb NN nb NN g1 0 g2 0 B C) := HT7.out.below hb70
  have HN10 : Hid (Names w10 (some ⟨g, 0, none⟩) NN g 0 (consN f)) := HN7.out.below hb70
  have HB10 : Hid (Below w.heap.size w w10) := bt HB7.out hb70
  have Ht : Hid (w10.cell? ⟨T, 0, none⟩ = some (slv (some ⟨g1, 0, none⟩) nb nb) ∧ w10.cell? ⟨T, 1, none⟩ = some (slv (some ⟨g2, 0, none⟩) NN NN)) := ⟨t0, t1⟩
  clear k9 hq q x1 hb79 hb70 HT7 HN7 HB7 HR7
  go_wp2
  have HFD : Hid (∀ (X : World) (s : ByteArray), s.size ≤ 9223372036854775807 → Below w10.heap.size w10 X → Calls Try.prog 17 #[tbv (slv (some ⟨g1, 0, none⟩) nb nb) (slv (some ⟨g2, 0, none⟩) NN NN), .string s, .slice (some ⟨g, 0, none⟩) NN cn] X fun e w' => e = .returned (.tuple #[.int .i64 (if lastF (consN f) s NN = 0 then (0, false) else ((lastF (consN f) s NN : Int), true)).1, .bool (if lastF (consN f) s NN = 0 then (0, false) else ((lastF (consN f) s NN : Int), true)).2]) ∧ Below X.heap.size X w') := by
    intro X s hs hb
    have h := find_any (some ⟨g1, 0, none⟩) (some ⟨g2, 0, none⟩) (some ⟨g, 0, none⟩) nb NN nb NN g1 0 g2 0 NN cn g 0 B C (consN f) s X hs (HT10.out.below hb) (HN10.out.below hb)
    have hfb := find_built hfn nb NN (consN f) s HHF.out (by omega)
    rw [HBd.out, HCd.out] at hfb
    rw [hfb] at h
    exact h
  have HNR : Hid (∀ (X : World), Below w10.heap.size w10 X → ∀ j, j < NN → X.cell? ⟨g, j, none⟩ = some (.string (consN f j))) := fun X hb j hj => by
    have := (HN10.out.below hb).rn j hj
    rw [Nat.zero_add] at this
    exact this
  have HNS : Hid (∀ j, j < NN → (consN f j).size ≤ 9223372036854775807) := HN10.out.hs
  clear t0 t1 HT10 HN10 HHF HBd HCd HBl HCl hcn
  go_loopw [14, 15] (fun la i wr => ∃ k : Nat, (1 ≤ k ∧ k ≤ NN) ∧ i = .int .i64 (k : Int) ∧ (∃ z : Nat, la = .int .i64 (z : Int) ∧ Hid (lastF (consN f) other k = z)) ∧ Below w10.heap.size w10 wr) (fun _ i _ => NN - (intOf i).toNat)
  case atStart => exact ⟨1, ⟨by omega, by omega⟩, rfl, ⟨0, rfl, by show _ = _; simp [lastF]⟩, Below.refl _ _⟩
  case round =>
    obtain ⟨k, ⟨hk1, hk⟩, rfl, ⟨z, rfl, HZ⟩, hbr⟩ := hrel
    by_cases hlt : k < NN
    · have hki : (k : Int) < (NN : Int) := by omega
      have hki0 : (0 : Int) ≤ (k : Int) := by omega
      have cK := HNR.out wr hbr k hlt
      have hsz := HNS.out k hlt
      obtain ⟨L, hL⟩ : ∃ L, lastF (consN f) (consN f k) NN = L := ⟨_, rfl⟩
      have hLk : k ≤ L := by rw [← hL]; exact lastF_ge _ _ NN k (by omega) hlt rfl
      have hLN : L < NN := by rw [← hL]; exact lastF_lt _ _ NN (by omega)
      have hLs : consN f L = consN f k := by
        rcases lastF_is (consN f) (consN f k) NN with h | h
        · omega
        · rw [hL] at h; exact h
      have FK := fun X hb => HFD.out X (consN f k) hsz hb
      rw [hL, if_neg (by omega)] at FK
      have HSTEP : Hid (lastF (consN f) other (k + 1) = if consN f k = other then k else z) := by
        show _ = _
        unfold lastF
        rw [HZ.out]
        by_cases e : consN f k = other
        · rw [if_pos e, if_pos ⟨by omega, e⟩]
        · rw [if_neg e, if_neg (fun h => e h.2)]
      have HLS : Hid (consN f L = consN f k) := hLs
      clear hL hLs hsz
      obtain ⟨s, hs⟩ : ∃ s, consN f k = s := ⟨_, rfl⟩
      rw [hs] at cK FK HSTEP HLS
      clear hs
      have hS : wr.drew.cell? ⟨T, 0, none⟩ = some (slv (some ⟨g1, 0, none⟩) nb nb) ∧ wr.drew.cell? ⟨T, 1, none⟩ = some (slv (some ⟨g2, 0, none⟩) NN NN) ∧ wr.drew.cell? ⟨g, k, none⟩ = some (.string s) ∧ Below w10.heap.size w10 wr.drew := ⟨(hbr.cell (World.block_lt_of_cell? _ _ Ht.out.1)).trans Ht.out.1, (hbr.cell (World.block_lt_of_cell? _ _ Ht.out.2)).trans Ht.out.2, cK, hbr.drew⟩
      have FK2 : ∀ X : World, (X.cell? ⟨T, 0, none⟩ = some (slv (some ⟨g1, 0, none⟩) nb nb) ∧ X.cell? ⟨T, 1, none⟩ = some (slv (some ⟨g2, 0, none⟩) NN NN) ∧ X.cell? ⟨g, k, none⟩ = some (.string s) ∧ Below w10.heap.size w10 X) → Calls Try.prog 17 #[tbv (slv (some ⟨g1, 0, none⟩) nb nb) (slv (some ⟨g2, 0, none⟩) NN NN), .string s, .slice (some ⟨g, 0, none⟩) NN cn] X fun e w' => e = .returned (.tuple #[.int .i64 (L : Int), .bool true]) ∧ Below X.heap.size X w' := fun X h => FK X h.2.2.2
      have KEEP : ∀ X X' : World, Below X.heap.size X X' → (X.cell? ⟨T, 0, none⟩ = some (slv (some ⟨g1, 0, none⟩) nb nb) ∧ X.cell? ⟨T, 1, none⟩ = some (slv (some ⟨g2, 0, none⟩) NN NN) ∧ X.cell? ⟨g, k, none⟩ = some (.string s) ∧ Below w10.heap.size w10 X) → (X'.cell? ⟨T, 0, none⟩ = some (slv (some ⟨g1, 0, none⟩) nb nb) ∧ X'.cell? ⟨T, 1, none⟩ = some (slv (some ⟨g2, 0, none⟩) NN NN) ∧ X'.cell? ⟨g, k, none⟩ = some (.string s) ∧ Below w10.heap.size w10 X') := fun X X' hb h => ⟨(hb.cell (World.block_lt_of_cell? _ _ h.1)).trans h.1, (hb.cell (World.block_lt_of_cell? _ _ h.2.1)).trans h.2.1, (hb.cell (World.block_lt_of_cell? _ _ h.2.2.1)).trans h.2.2.1, h.2.2.2.trans (hb.mono h.2.2.2.size)⟩
      have hLi0 : (0 : Int) ≤ (L : Int) := by omega
      have hLiN : (L : Int) < (NN : Int) := by omega
      have hLki : ¬ (L : Int) < (k : Int) := by omega
      have tq := teq s
      clear FK hk1
      by_cases heq : s = other
      · subst heq
        go_wp2
        go_region_held3 (fun X => X.cell? ⟨T, 0, none⟩ = some (slv (some ⟨g1, 0, none⟩) nb nb) ∧ X.cell? ⟨T, 1, none⟩ = some (slv (some ⟨g2, 0, none⟩) NN NN) ∧ X.cell? ⟨g, k, none⟩ = some (.string s) ∧ Below w10.heap.size w10 X)
          (first | assumption | (apply KEEP; assumption; assumption))
          (first | (go_at_call 17; with_reducible refine (FK2 _ (by assumption)).mono ?_; rintro e w4 ⟨rfl, hb4⟩))
        all_goals
          rename_i hH
          have cL := HNR.out _ hH.2.2.2 L hLN
          rw [HLS.out] at cL
          have cKs := hH.2.2.1
          have hbH := hH.2.2.2
          clear hH
          go_wp2
          go_quiet (fail)
          go_wp2
          refine ⟨⟨k + 1, ⟨by omega, by omega⟩, by go_num, ⟨k, rfl, ?_⟩, below_drewN hbH _⟩, by simp [intOf]; omega⟩
          show _ = _
          rw [HSTEP.out]
          simp
      · have tn := tne heq
        have HNE : Hid (¬ s = other) := heq
        go_wp2
        go_region_held3 (fun X => X.cell? ⟨T, 0, none⟩ = some (slv (some ⟨g1, 0, none⟩) nb nb) ∧ X.cell? ⟨T, 1, none⟩ = some (slv (some ⟨g2, 0, none⟩) NN NN) ∧ X.cell? ⟨g, k, none⟩ = some (.string s) ∧ Below w10.heap.size w10 X)
          (first | assumption | (apply KEEP; assumption; assumption))
          (first | (go_at_call 17; with_reducible refine (FK2 _ (by assumption)).mono ?_; rintro e w4 ⟨rfl, hb4⟩))
        all_goals
          rename_i hH
          have cL := HNR.out _ hH.2.2.2 L hLN
          rw [HLS.out] at cL
          have cKs := hH.2.2.1
          have hbH := hH.2.2.2
          clear hH
          go_wp2
          go_quiet (fail)
          go_wp2
          refine ⟨⟨k + 1, ⟨by omega, by omega⟩, by go_num, ⟨z, rfl, ?_⟩, below_drewN hbH _⟩, by simp [intOf]; omega⟩
          show _ = _
          rw [HSTEP.out]
          rw [if_neg HNE.out]
    · obtain rfl : k = NN := by omega
      have FO := HFD.out wr other ho hbr
      have t0 := (hbr.cell (World.block_lt_of_cell? _ _ Ht.out.1)).trans Ht.out.1
      have t1 := (hbr.cell (World.block_lt_of_cell? _ _ Ht.out.2)).trans Ht.out.2
      rw [HZ.out] at FO
      have HBR : Hid (Below w.heap.size w wr) := bt HB10.out hbr
      clear hbr hk hk1
      by_cases hz : z = 0
      · subst hz
        go_wp2_with (go_at_call 17; refine FO.mono ?_; rintro e w4 ⟨rfl, hb4⟩)
        go_ret
        exact ⟨rfl, bt HBR.out hb4⟩
      · rw [if_neg hz] at FO
        have hzi : (0 : Int) < (z : Int) := by omega
        go_wp2_with (go_at_call 17; refine FO.mono ?_; rintro e w4 ⟨rfl, hb4⟩)
        go_ret
        exact ⟨rfl, bt HBR.out hb4⟩
set_option maxRecDepth 100000 in
set_option maxHeartbeats 8000000 in
theorem builds_bad_nil (f : Nat → ByteArray) (buckets : Int) (other : ByteArray) (w : World) (ho : other.size ≤ 9223372036854775807) (hbad : buckets < 1 ∨ (¬ buckets < 1 ∧ 256 < buckets)) :
    Calls Try.prog 5 #[.slice none 0 0, .int .i64 buckets, .string other] w fun e w' => e = .returned (.bool true) ∧ Below w.heap.size w w' := by
  have S9 := fun W => speaks13_any W
  go_enter Try.func5, Try.ntmps5
  go_wp2_with (first
    | (go_at_call 9; refine (S9 _).mono ?_; rintro r w1 ⟨rfl, hb1⟩)
    | (at_builtin; refine wp_app_nil f w1.heap.size rfl _ _ rfl rfl rfl (World.alloc_heap_new w1 _) ?_; intro v' w2 hown' hgrow; obtain ⟨NN, g, cn, hv', hNN, hcn, HNM⟩ := names_let hown' (fun j hj => absurd hj (by omega)) (by omega); subst hv')
    | fail)
  have hN0 : 1 ≤ NN := by have := hNN.out; omega
  have hN1 : NN ≤ 61 := by have := hNN.out; omega
  have hbw2 : Below w.heap.size w w2 := ((hb1.alloc hb1.size _).grown hgrow (by rw [World.size_alloc]; have := hb1.size; omega) (fun q hq => by cases hq))
  have HW2 : Hid (Below w.heap.size w w2) := hbw2
  clear hown' hgrow HNM hbw2 hb1
  refine (build_bad (some ⟨g, 0, none⟩) NN cn buckets w2 (by omega)).mono ?_
  rintro e w3 ⟨rfl, hb3⟩
  have HW3 : Hid (Below w.heap.size w w3) := bt HW2.out hb3
  clear hb3
  rcases hbad with h1 | ⟨h1, h2⟩
  · go_wp2
    go_ret
    exact ⟨rfl, HW3.out.alloc HW3.out.size _⟩
  · go_wp2
    go_ret
    exact ⟨rfl, HW3.out.alloc HW3.out.size _⟩

set_option maxRecDepth 100000 in
set_option maxHeartbeats 8000000 in
theorem builds_bad (f : Nat → ByteArray) (ad : Addr) (b off len cap m : Nat) (buckets : Int) (other : ByteArray) (w : World) (hlen : len ≤ cap) (hcap : cap ≤ 9223372036854775807) (hm : m = min len 60) (ha : 0 < len → ad = ⟨b, off, none⟩)
    (hf : ∀ j, j < len → (f j).size ≤ 9223372036854775807) (ho : other.size ≤ 9223372036854775807) (c1 : ∀ j, j < len → w.cell? ⟨b, off + j, none⟩ = some (.string (f j))) (hbad : buckets < 1 ∨ (¬ buckets < 1 ∧ 256 < buckets)) :
    Calls Try.prog 5 #[.slice (some ad) len cap, .int .i64 buckets, .string other] w fun e w' => e = .returned (.bool true) ∧ Below w.heap.size w w' := by
  have HC : Hid (∀ j, j < len → w.cell? ⟨b, off + j, none⟩ = some (.string (f j))) := c1
  have HF : Hid (∀ j, j < m → (f j).size ≤ 9223372036854775807) := fun j hj => hf j (by omega)
  have HAD : Hid (0 < len → ad = ⟨b, off, none⟩) := ha
  have hml : m ≤ len := by omega
  have hm60 : m ≤ 60 := by omega
  have hmi : min (len : Int) 60 = (m : Int) := by omega
  obtain ⟨i0, hi0, hz0, hz1, hz2⟩ := info_parts Try.info9
  have S9 := fun W => speaks13_any W
  have hm2 : (m : Int) ≤ (len : Int) := by omega
  have hm3 : (m : Int) ≤ 60 := by omega
  have hb1' : 1 + m ≤ maxLen := by unfold maxLen; omega
  have hb2' : (1 + m) * 16 ≤ 140737488355328 := by omega
  clear c1 hf ha hm
  have HNEWS : Hid (∀ (w1 : World) (o : Obj), Below w.heap.size w w1 → ∀ j u, (strC f m)[j]? = some u → (w1.alloc o).cell? (ad.add j) = some u) := by
    intro w1 o hb j u hu
    have hj : j < m := by have := (List.getElem?_eq_some_iff.1 hu).1; rw [strC_len] at this; exact this
    rw [strC_at _ _ _ hj] at hu
    cases hu
    have e := HAD.out (by omega)
    subst e
    have c := HC.out j (by omega)
    have hb2 := hb.alloc hb.size o
    rw [show (⟨b, off, none⟩ : Addr).add j = ⟨b, off + j, none⟩ from Go.WideShapes.add_plain _ _ _]
    exact (hb2.cell (World.block_lt_of_cell? _ _ c)).trans c
  go_enter Try.func5, Try.ntmps5
  go_wp2_with (first
    | (go_at_call 9; refine (S9 _).mono ?_; rintro r w1 ⟨rfl, hb1⟩)
    | (at_builtin; refine wpList_append_own_at _ rfl _ _ 37 rfl w1.heap.size 9 i0 _ 1 16 Try.underlying37 hi0 hz0 hz1 hz2 rfl (by decide) _ 1 _ rfl (one_str _ _ (World.alloc_heap_new w1 _)) ad m _ (strC f m) rfl (by rw [strC_len]; omega) (HNEWS.out w1 _ hb1) (strC_one f m) hb1' hb2' (by simp) ?_; intro v' w2 hown' hgrow _ hat; obtain ⟨g, cn, hv', hcn, HNM⟩ := names_of hown' HF.out hm60; subst hv')
    | fail)
  obtain ⟨NN, hNN⟩ : ∃ NN, 1 + m = NN := ⟨_, rfl⟩
  have hN0 : 1 ≤ NN := by omega
  have hN1 : NN ≤ 61 := by omega
  rw [hNN] at HNM hcn ⊢
  have hbw2 : Below w.heap.size w w2 := ((hb1.alloc hb1.size _).grown hgrow (by rw [World.size_alloc]; have := hb1.size; omega) (fun q hq => by cases hq; exact hb1.size))
  have HW2 : Hid (Below w.heap.size w w2) := hbw2
  clear hown' hgrow HNM hbw2 hb1
  refine (build_bad (some ⟨g, 0, none⟩) NN cn buckets w2 (by omega)).mono ?_
  rintro e w3 ⟨rfl, hb3⟩
  have HW3 : Hid (Below w.heap.size w w3) := bt HW2.out hb3
  clear hb3
  rcases hbad with h1 | ⟨h1, h2⟩
  · go_wp2
    go_ret
    exact ⟨rfl, HW3.out.alloc HW3.out.size _⟩
  · go_wp2
    go_ret
    exact ⟨rfl, HW3.out.alloc HW3.out.size _⟩

end Go.Proofs.Ytffmkkfacemchaa
