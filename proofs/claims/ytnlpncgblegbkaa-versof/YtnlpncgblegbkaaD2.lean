/-
  Layer 12: Defs of any bytes.
-/
import Derived.Test.YtnlpncgblegbkaaD1
import Derived.Maps.AppendAt
namespace Go.Proofs.Ytnlpncgblegbkaa
open Go.RowKit Go.Shelf
set_option linter.unusedVariables false
attribute [local go_sem] Oper.semAt_some

def Ent.pl {m : Nat} (x : Ent m) : Pt := (x.p, x.e)
def defC (b names : ByteArray) (x : Pt) : List Value := [.int .i64 (defF b names x.2 x.1).1.1, .string (defF b names x.2 x.1).1.2]
def cellsD (b names : ByteArray) (l : List Pt) : List Value := l.flatMap (defC b names)
theorem cellsD_snoc (b names : ByteArray) (l : List Pt) (x : Pt) : cellsD b names (l ++ [x]) = cellsD b names l ++ defC b names x := by simp [cellsD]

/-- What Defs keeps, round by round. -/
def DI (w : World) (b names : ByteArray) (pre : List Pt) (W : World) : Prop :=
  (∃ v, Boxed W (w.heap.size + 1 + 1 + 1 + 1) 26 v ∧ W.ownsRow w.heap.size 38 2 v pre.length (cellsD b names pre) ∧ (v = .slice none 0 0 ↔ pre = [])) ∧
  ((Boxed W (w.heap.size + 1 + 1 + 1 + 1 + 1) 9 (.string b) ∧ Boxed W (w.heap.size + 1 + 1 + 1 + 1 + 1 + 1 + 1) 28 (.int .u64 20)) ∧ (Boxed W w.heap.size 9 (.string b) ∧ Boxed W (w.heap.size + 1) 9 (.string names)) ∧ Boxed W (w.heap.size + 1 + 1) 26 (.slice none 0 0) ∧ W.heap[w.heap.size + 1 + 1 + 1]? = some (.cells #[.int .i64 0, .int .u64 0, .string ⟨#[]⟩] 30 (0, 0))) ∧
  (∀ x ∈ pre, (defF b names x.2 x.1).2 = 0) ∧ Below w.heap.size w W

/-- .. and where it ends early. -/
def DX (w : World) (b names : ByteArray) (pre : List Pt) (W : World) : Prop :=
  ∃ q x, pre = q ++ [x] ∧ (∀ y ∈ q, (defF b names y.2 y.1).2 = 0) ∧ (defF b names x.2 x.1).2 ≠ 0 ∧ Boxed W (w.heap.size + 1 + 1) 26 (.slice none 0 0) ∧
    (W.cell? ⟨w.heap.size + 1 + 1 + 1, 0, none⟩ = some (.int .i64 (defF b names x.2 x.1).2) ∧ W.cell? ⟨w.heap.size + 1 + 1 + 1, 1, none⟩ = some (.int .u64 (x.1 : Int)) ∧ W.cell? ⟨w.heap.size + 1 + 1 + 1, 2, none⟩ = some (.string ⟨#[]⟩)) ∧ Below w.heap.size w W

theorem DI_own (w : World) (b names : ByteArray) (B : Nat) (hB : w.heap.size ≤ B) : OwnFrom B (DI w b names) :=
  OwnFrom.and (Own.from (holdsRow_own w.heap.size (w.heap.size + 1 + 1 + 1 + 1) 26 38 2 (fun pre : List Pt => pre.length) (fun pre => cellsD b names pre) (fun pre v => (v = .slice none 0 0 ↔ pre = []))) _)
    (OwnFrom.and (OwnFrom.and (OwnFrom.and (Own.from (boxed_own _ _ _) _) (Own.from (boxed_own _ _ _) _)) (OwnFrom.and (OwnFrom.and (Own.from (boxed_own _ _ _) _) (Own.from (boxed_own _ _ _) _)) (OwnFrom.and (Own.from (boxed_own _ _ _) _) (Own.from (obj_own _ (fun _ : List Pt => Obj.cells #[.int .i64 0, .int .u64 0, .string ⟨#[]⟩] 30 (0, 0)) (fun _ => rfl)) _))))
      (OwnFrom.and (ownFrom_pure _ _) (ownFrom_below (Nat.le_refl _) hB)))

theorem DX_own (w : World) (b names : ByteArray) (B : Nat) (hB : w.heap.size ≤ B) : OwnFrom B (DX w b names) := fun s X Y row hs hg hr => by
  obtain ⟨q, x, h1, h2, h3, h4, ⟨c0, c1, c2⟩, h6⟩ := hs
  have hr' := fun r e => (hr r e).2
  exact ⟨q, x, h1, h2, h3, (Own.from (boxed_own (β := Unit) (w.heap.size + 1 + 1) 26 (fun _ => .slice none 0 0)) B) () X Y row h4 hg hr, ⟨cell_kept c0 hg hr', cell_kept c1 hg hr', cell_kept c2 hg hr'⟩, (ownFrom_below (β := Unit) (Nat.le_refl _) hB) () X Y row h6 hg hr⟩

theorem Try.info38 : (Try.prog.info? 38).map (fun i => (i.zero, i.size, i.bytes)) = some (some (dfv (0, ⟨#[]⟩)), 2, 24) := by kernel_rfl

/-- The entries of bytes. -/
def ents (b : ByteArray) (hb : b.size ≤ 140737488351232) (n : Nat) : List Pt := (entL b 20 (by omega) hb n 0 (by omega)).map Ent.pl

/-- What Defs answers. -/
def DefsPost (w : World) (b names : ByteArray) (hb : b.size ≤ 140737488351232) (n : Nat) (e : Ending) (w' : World) : Prop :=
  ((∃ v, e = .returned (.tuple #[v, flt 0 0]) ∧ w'.ownsRow w.heap.size 38 2 v (ents b hb n).length (cellsD b names (ents b hb n)) ∧ ∀ x ∈ ents b hb n, (defF b names x.2 x.1).2 = 0) ∨
   (∃ q x, q ++ [x] <+: ents b hb n ∧ (∀ y ∈ q, (defF b names y.2 y.1).2 = 0) ∧ (defF b names x.2 x.1).2 ≠ 0 ∧ e = .returned (.tuple #[.slice none 0 0, flt (defF b names x.2 x.1).2 (x.1 : Int)]))) ∧
  Below w.heap.size w w'

theorem load_slice49 {w : World} {B : Nat} {v : Value} (h : w.cell? ⟨B, 0, none⟩ = some v) : (loadVar 26 ⟨B, 0, none⟩).run Try.prog w = .ok v w := by
  have hagg : (isAgg 26).run Try.prog w = .ok false w := by
    simp [isAgg, go_sem]
  simp [loadVar, Sem.run_bind, hagg, Result.andThen, go_sem, h]

set_option maxRecDepth 100000 in
set_option maxHeartbeats 2000000 in
theorem defs_limit (b names : ByteArray) (n : Int) (w : World) (h : n < 0 ∨ 64 < n) : Calls Try.prog 11 #[.string b, .string names, .int .i64 n] w fun e w' => e = .returned (.tuple #[.slice none 0 0, flt 6 0]) ∧ Below w.heap.size w w' := by
  refine (callsIn_wide (n := 4)).1 ?_
  by_cases h0 : n < 0
  all_goals
    refine callsIn_of_wp_marks Try.func11 rfl trivial ?_ rfl
    simp only [Try.ntmps11, List.size_toArray, List.length_cons, List.length_nil, Nat.reduceAdd, Nat.reduceSub, Array.replicate_succ, Array.replicate_zero, List.push_toArray, List.append_toArray, List.nil_append, List.cons_append]
    have f23 : Fence.wide.fn 20 := trivial
    have h1 : n < 0 ∨ (64 < n ∧ ¬ n < 0) := by omega
    first
      | (have h2 : ¬ n < 0 := h0; have h3 : 64 < n := by omega
         clear h h1
         gi_wp2_with (gi_at_call 20; refine (callsIn_wide.2 (of_any _ _)).mono ?_; rintro e w' ⟨rfl, rfl⟩))
      | (clear h h1
         gi_wp2_with (gi_at_call 20; refine (callsIn_wide.2 (of_any _ _)).mono ?_; rintro e w' ⟨rfl, rfl⟩))
    refine ⟨_, results_two_cells (fn := Try.f11) rfl _ _ (w.heap.size + 1 + 1) (w.heap.size + 1 + 1 + 1) (.slice none 0 0) [.int .i64 6, .int .u64 0, .string ⟨#[]⟩] _ rfl rfl (load_slice49 (by simp [go_sem])) (range3 (by simp [go_sem]) (by simp [go_sem]) (by simp [go_sem])) Try.underlying30 rfl info27, rfl, ?_⟩
    go_grown

set_option maxRecDepth 100000 in
set_option maxHeartbeats 4000000 in
theorem defs_any (b names : ByteArray) (n : Nat) (w : World) (hb : b.size ≤ 140737488351232) (hnm : names.size ≤ 9223372036854775807) (hn : n ≤ 64) : Calls Try.prog 11 #[.string b, .string names, .int .i64 (n : Int)] w (DefsPost w b names hb n) := by
  have h0 : decide ((n : Int) < 0) = false := by simp
  have h1 : decide ((64 : Int) < (n : Int)) = false := by simp; omega
  refine (callsIn_wide (n := 4)).1 ?_
  refine callsIn_of_wp_marks Try.func11 rfl trivial ?_ rfl
  simp only [Try.ntmps11, List.size_toArray, List.length_cons, List.length_nil, Nat.reduceAdd, Nat.reduceSub, Array.replicate_succ, Array.replicate_zero, List.push_toArray, List.append_toArray, List.nil_append, List.cons_append]
  have f33 : Fence.wide.fn 21 := trivial
  gi_wp2_with (gi_at_call 21; refine (chain_in Fence.wide 3 trivial rfl _ _ _ _ _).mono ?_; rintro e w' ⟨rfl, rfl⟩)
  have hW : ∃ W0 : World, (((((((((w.alloc (Obj.cells #[Value.string b] 9)).alloc (Obj.cells #[Value.string names] 9)).alloc (Obj.cells #[Value.slice none 0 0] 26)).alloc (Obj.cells #[Value.int IntKind.i64 0, Value.int IntKind.u64 0, Value.string ⟨#[]⟩] 30)).alloc (Obj.cells #[Value.slice none 0 0] 26)).alloc (Obj.cells #[Value.string b] 9)).alloc (Obj.cells #[Value.int IntKind.u64 0] 28)).alloc (Obj.cells #[Value.int IntKind.u64 20] 28)).alloc (Obj.cells #[Value.int IntKind.i64 (n : Int)] 3)) = W0 ∧ W0.heap.size = w.heap.size + 9 ∧ DI w b names [] W0 ∧ Boxed W0 (w.heap.size + 1 + 1 + 1 + 1 + 1 + 1) 28 (.int .u64 0) ∧ Boxed W0 (w.heap.size + 1 + 1 + 1 + 1 + 1 + 1 + 1 + 1) 3 (.int .i64 (n : Int)) := by
    refine ⟨_, rfl, by simp, ⟨⟨.slice none 0 0, ?_, World.ownsRow_nil _ _ _ _, by simp⟩, ⟨⟨?_, ?_⟩, ⟨?_, ?_⟩, ?_, ?_⟩, by simp, ?_⟩, ?_, ?_⟩
    · have h := (((((Boxed.new ((((w.alloc (Obj.cells #[Value.string b] 9)).alloc (Obj.cells #[Value.string names] 9)).alloc (Obj.cells #[Value.slice none 0 0] 26)).alloc (Obj.cells #[Value.int IntKind.i64 0, Value.int IntKind.u64 0, Value.string ⟨#[]⟩] 30)) 26 (.slice none 0 0)).alloc (Obj.cells #[Value.string b] 9)).alloc (Obj.cells #[Value.int IntKind.u64 0] 28)).alloc (Obj.cells #[Value.int IntKind.u64 20] 28)).alloc (Obj.cells #[Value.int IntKind.i64 (n : Int)] 3))
      simp only [World.size_alloc] at h
      exact h
    · have h := ((((Boxed.new (((((w.alloc (Obj.cells #[Value.string b] 9)).alloc (Obj.cells #[Value.string names] 9)).alloc (Obj.cells #[Value.slice none 0 0] 26)).alloc (Obj.cells #[Value.int IntKind.i64 0, Value.int IntKind.u64 0, Value.string ⟨#[]⟩] 30)).alloc (Obj.cells #[Value.slice none 0 0] 26)) 9 (.string b)).alloc (Obj.cells #[Value.int IntKind.u64 0] 28)).alloc (Obj.cells #[Value.int IntKind.u64 20] 28)).alloc (Obj.cells #[Value.int IntKind.i64 (n : Int)] 3))
      simp only [World.size_alloc] at h
      exact h
    · have h := ((Boxed.new (((((((w.alloc (Obj.cells #[Value.string b] 9)).alloc (Obj.cells #[Value.string names] 9)).alloc (Obj.cells #[Value.slice none 0 0] 26)).alloc (Obj.cells #[Value.int IntKind.i64 0, Value.int IntKind.u64 0, Value.string ⟨#[]⟩] 30)).alloc (Obj.cells #[Value.slice none 0 0] 26)).alloc (Obj.cells #[Value.string b] 9)).alloc (Obj.cells #[Value.int IntKind.u64 0] 28)) 28 (.int .u64 20)).alloc (Obj.cells #[Value.int IntKind.i64 (n : Int)] 3))
      simp only [World.size_alloc] at h
      exact h
    · have h := (((((((((Boxed.new w 9 (.string b)).alloc (Obj.cells #[Value.string names] 9)).alloc (Obj.cells #[Value.slice none 0 0] 26)).alloc (Obj.cells #[Value.int IntKind.i64 0, Value.int IntKind.u64 0, Value.string ⟨#[]⟩] 30)).alloc (Obj.cells #[Value.slice none 0 0] 26)).alloc (Obj.cells #[Value.string b] 9)).alloc (Obj.cells #[Value.int IntKind.u64 0] 28)).alloc (Obj.cells #[Value.int IntKind.u64 20] 28)).alloc (Obj.cells #[Value.int IntKind.i64 (n : Int)] 3))
      exact h
    · have h := ((((((((Boxed.new (w.alloc (Obj.cells #[Value.string b] 9)) 9 (.string names)).alloc (Obj.cells #[Value.slice none 0 0] 26)).alloc (Obj.cells #[Value.int IntKind.i64 0, Value.int IntKind.u64 0, Value.string ⟨#[]⟩] 30)).alloc (Obj.cells #[Value.slice none 0 0] 26)).alloc (Obj.cells #[Value.string b] 9)).alloc (Obj.cells #[Value.int IntKind.u64 0] 28)).alloc (Obj.cells #[Value.int IntKind.u64 20] 28)).alloc (Obj.cells #[Value.int IntKind.i64 (n : Int)] 3))
      simp only [World.size_alloc] at h
      exact h
    · have h := (((((((Boxed.new ((w.alloc (Obj.cells #[Value.string b] 9)).alloc (Obj.cells #[Value.string names] 9)) 26 (.slice none 0 0)).alloc (Obj.cells #[Value.int IntKind.i64 0, Value.int IntKind.u64 0, Value.string ⟨#[]⟩] 30)).alloc (Obj.cells #[Value.slice none 0 0] 26)).alloc (Obj.cells #[Value.string b] 9)).alloc (Obj.cells #[Value.int IntKind.u64 0] 28)).alloc (Obj.cells #[Value.int IntKind.u64 20] 28)).alloc (Obj.cells #[Value.int IntKind.i64 (n : Int)] 3))
      simp only [World.size_alloc] at h
      exact h
    · have h := World.alloc_heap_new (((w.alloc (Obj.cells #[Value.string b] 9)).alloc (Obj.cells #[Value.string names] 9)).alloc (Obj.cells #[Value.slice none 0 0] 26)) (Obj.cells #[Value.int IntKind.i64 0, Value.int IntKind.u64 0, Value.string ⟨#[]⟩] 30)
      simp only [World.size_alloc] at h
      exact ((Below.heap_alloc _ _ _ (by simp)).trans ((Below.heap_alloc _ _ _ (by simp)).trans ((Below.heap_alloc _ _ _ (by simp)).trans ((Below.heap_alloc _ _ _ (by simp)).trans ((Below.heap_alloc _ _ _ (by simp)).trans h)))))
    · exact (((((((((Below.refl _ w).alloc (Nat.le_refl _) _).alloc (by simp) _).alloc (by simp; omega) _).alloc (by simp; omega) _).alloc (by simp; omega) _).alloc (by simp; omega) _).alloc (by simp; omega) _).alloc (by simp; omega) _).alloc (by simp; omega) _
    · have h := (((Boxed.new ((((((w.alloc (Obj.cells #[Value.string b] 9)).alloc (Obj.cells #[Value.string names] 9)).alloc (Obj.cells #[Value.slice none 0 0] 26)).alloc (Obj.cells #[Value.int IntKind.i64 0, Value.int IntKind.u64 0, Value.string ⟨#[]⟩] 30)).alloc (Obj.cells #[Value.slice none 0 0] 26)).alloc (Obj.cells #[Value.string b] 9)) 28 (.int .u64 0)).alloc (Obj.cells #[Value.int IntKind.u64 20] 28)).alloc (Obj.cells #[Value.int IntKind.i64 (n : Int)] 3))
      simp only [World.size_alloc] at h
      exact h
    · have h := (Boxed.new ((((((((w.alloc (Obj.cells #[Value.string b] 9)).alloc (Obj.cells #[Value.string names] 9)).alloc (Obj.cells #[Value.slice none 0 0] 26)).alloc (Obj.cells #[Value.int IntKind.i64 0, Value.int IntKind.u64 0, Value.string ⟨#[]⟩] 30)).alloc (Obj.cells #[Value.slice none 0 0] 26)).alloc (Obj.cells #[Value.string b] 9)).alloc (Obj.cells #[Value.int IntKind.u64 0] 28)).alloc (Obj.cells #[Value.int IntKind.u64 20] 28)) 3 (.int .i64 (n : Int)))
      simp only [World.size_alloc] at h
      exact h
  obtain ⟨W0, hW0, hsz, hI0, bA, bC⟩ := hW
  rw [hW0]
  clear hW0
  refine wpIn_rangeFunc_ownH rfl (by omega) (gf := 36) (lb := #[.pointer (some ⟨w.heap.size + 1 + 1 + 1 + 1 + 1 + 1, 0, none⟩), .pointer (some ⟨w.heap.size + 1 + 1 + 1 + 1 + 1 + 1 + 1 + 1, 0, none⟩), .pointer (some ⟨w.heap.size + 1 + 1 + 1 + 1 + 1, 0, none⟩), .pointer (some ⟨w.heap.size + 1 + 1 + 1 + 1 + 1 + 1 + 1, 0, none⟩)]) rfl trivial (enters_of Try.func36 (by kernel_rfl) rfl)
    (chain_stops 3 (by omega) (w.heap.size + 1 + 1 + 1 + 1 + 1 + 1) (w.heap.size + 1 + 1 + 1 + 1 + 1 + 1 + 1 + 1) (w.heap.size + 1 + 1 + 1 + 1 + 1) (w.heap.size + 1 + 1 + 1 + 1 + 1 + 1 + 1) b 20 n 0 (by omega) (by omega) hb (by omega) (by omega) W0 bA.cell bC.cell hI0.2.1.1.1.cell hI0.2.1.1.2.cell) KZ.trans
    (fun W l o o' hl h hc hw => by
      have hB := belowK_b (n₀ := w.heap.size + 9) (w := W0) (by omega) W l o o' hl h hc hw
      exact ⟨hB.block _ (by omega), hB.block _ (by omega)⟩) (Below.refl _ _) (fun _ => rfl)
    (fun pre W => DI w b names (pre.map Ent.pl) W)
    (fun c pre W => c = .ret ∧ DX w b names (pre.map Ent.pl) W)
    (fun s X Y row hs hg hr => DI_own w b names _ (by omega) (s.map Ent.pl) X Y row hs hg hr) (fun c => OwnFrom.and (ownFrom_pure _ _) (fun s X Y row hs hg hr => DX_own w b names _ (by omega) (s.map Ent.pl) X Y row hs hg hr))
    hI0
    (fun x a' W => a' = { tmps := #[.string b, .string names, .int .i64 (n : Int), .pointer (some ⟨w.heap.size, 0, none⟩), .pointer (some ⟨w.heap.size + 1, 0, none⟩), undef, .pointer (some ⟨w.heap.size + 1 + 1, 0, none⟩), .pointer (some ⟨w.heap.size + 1 + 1 + 1, 0, none⟩), .pointer (some ⟨w.heap.size + 1 + 1 + 1 + 1, 0, none⟩), .int .u64 (x.p : Int), .string x.e, undef, undef, .int .i64 (n : Int), .bool false, .bool false, .int .i64 (n : Int), .bool false, .bool false, undef, .string b, .int .i64 (n : Int), .func (.func 36) #[] #[.pointer (some ⟨w.heap.size + 1 + 1 + 1 + 1 + 1 + 1, 0, none⟩), .pointer (some ⟨w.heap.size + 1 + 1 + 1 + 1 + 1 + 1 + 1 + 1, 0, none⟩), .pointer (some ⟨w.heap.size + 1 + 1 + 1 + 1 + 1, 0, none⟩), .pointer (some ⟨w.heap.size + 1 + 1 + 1 + 1 + 1 + 1 + 1, 0, none⟩)], .int .u64 (x.p : Int), .string x.e, undef, undef, undef, undef, undef, undef, undef, undef, undef, undef, undef, undef, undef, undef, undef, undef, undef, undef, undef], defers := [] })
    (fun x a' _ X Y row hs hg hr => hs)
    ?assign ?body ?done ?stop
  case assign =>
    rintro l pre ⟨xp, xe, hxp, hxe⟩ W K hI hK
    gi_wp2
    exact hK _ _ (KeepsFrom.refl _ _) (KZ.refl _ _ _) hI rfl
  case body =>
    rintro l pre ⟨xp, xe, hxp, hxe⟩ a' W hl ⟨r, hr⟩ hI rfl hlt
    obtain ⟨⟨v, bv, hrow, hnil⟩, ⟨⟨bS, bZ⟩, ⟨bB, bN⟩, bR, bF⟩, hok, hB⟩ := hI
    obtain ⟨sc, hsc⟩ : ∃ sc, defF b names xe xp = sc := ⟨_, rfl⟩
    have SY : ∀ X : World, Calls Try.prog 22 #[.string b, .string names, .int .u64 (xp : Int), .string xe] X fun r w' => r = .returned (.tuple #[dfv sc.1, .int .i64 sc.2]) ∧ ∃ o q, w' = (X.alloc o).drewN q := by
      intro X
      have := def_any b names xe xp X hb hnm hxp hxe
      rw [hsc] at this
      exact this
    have HSC : Hid (defF b names xe xp = sc) := hsc
    clear hsc
    obtain ⟨⟨dn, dm⟩, c⟩ := sc
    have cB := bB.cell
    have hBl := bB.lt
    have cN := bN.cell
    have hNl := bN.lt
    have f34 : Fence.wide.fn 22 := trivial
    have f26 : Fence.wide.fn 23 := trivial
    by_cases hc : c = 0
    · subst hc
      obtain ⟨i0, hi0, hz0, hz1, hz2⟩ := info_parts Try.info38
      have HB : Hid (Below w.heap.size w W) := hB
      have HBN : Hid (Boxed W (w.heap.size + 1 + 1 + 1 + 1) 26 v ∧ ((Boxed W (w.heap.size + 1 + 1 + 1 + 1 + 1) 9 (.string b) ∧ Boxed W (w.heap.size + 1 + 1 + 1 + 1 + 1 + 1 + 1) 28 (.int .u64 20)) ∧ (Boxed W w.heap.size 9 (.string b) ∧ Boxed W (w.heap.size + 1) 9 (.string names)) ∧ Boxed W (w.heap.size + 1 + 1) 26 (.slice none 0 0) ∧ W.heap[w.heap.size + 1 + 1 + 1]? = some (.cells #[.int .i64 0, .int .u64 0, .string ⟨#[]⟩] 30 (0, 0)))) := ⟨bv, ⟨bS, bZ⟩, ⟨bB, bN⟩, bR, bF⟩
      have HV2 : Hid (∀ o q X, Boxed (((W.alloc o).drewN q).alloc X) (w.heap.size + 1 + 1 + 1 + 1) 26 v) := fun o q X => by
        have h1 : Boxed ((W.alloc o).drewN q) (w.heap.size + 1 + 1 + 1 + 1) 26 v := bv.alloc o
        exact h1.alloc X
      have HCV : Hid (∀ o q X, (((W.alloc o).drewN q).alloc X).cell? ⟨w.heap.size + 1 + 1 + 1 + 1, 0, none⟩ = some v) := fun o q X => (HV2.out o q X).cell
      have hBs := hB.size
      have m1 : (List.map Ent.pl pre).length + 1 ≤ maxLen := by unfold maxLen; simp; omega
      have m2 : ((List.map Ent.pl pre).length + 1) * 24 ≤ 140737488355328 := by simp; omega
      have HR2 : Hid (∀ o q X, (((W.alloc o).drewN q).alloc X).ownsRow w.heap.size 38 2 v (List.map Ent.pl pre).length (cellsD b names (List.map Ent.pl pre))) := fun o q X => by
        have h1 : ((W.alloc o).drewN q).ownsRow w.heap.size 38 2 v (List.map Ent.pl pre).length (cellsD b names (List.map Ent.pl pre)) := hrow.alloc o
        exact h1.alloc X
      have HS2 : Hid (∀ o q X, (((W.alloc o).drewN q).alloc X).heap.size = W.heap.size + 1 + 1) := fun o q X => by rw [World.size_alloc]; exact congrArg (· + 1) (World.size_alloc W o)
      have one2 : ∀ u ∈ [Value.int .i64 dn, Value.string dm], u.oneCell' = true := by
        intro u hu
        simp at hu
        rcases hu with rfl | rfl <;> rfl
      have HNW : Hid (∀ (X : World), ∀ j u, [Value.int .i64 dn, Value.string dm][j]? = some u → (X.alloc (Obj.cells #[.int .i64 dn, .string dm] 38)).cell? ((⟨X.heap.size, 0, none⟩ : Addr).add j) = some u) := by
        intro X j u hu
        match j, hu with
        | 0, hu => simp at hu; subst hu; simp [go_sem]
        | 1, hu => simp at hu; subst hu; simp [go_sem]
        | j + 2, hu => simp at hu
      clear bR bF bS bZ bN bB bv hrow hB
      gi_wp2_with (first
        | (gi_at_call 22; refine (CallsIn.inRound l (callsIn_wide.2 (SY _))).mono ?_; rintro e w' ⟨rfl, o, q, rfl⟩; have cV := HCV.out o q (Obj.cells #[.int .i64 dn, .string dm] 38); have hn1 := HNW.out (((W.alloc o).drewN q).alloc (Obj.cells #[.int .i64 dn, .string dm] 38)); rw [HS2.out] at hn1)
        | (gi_at_builtin; refine wpListIn_append_own _ rfl _ _ 26 rfl w.heap.size 38 i0 _ 2 24 Try.underlying26 hi0 hz0 hz1 hz2 rfl (by decide) v _ _ rfl ((HR2.out o q (Obj.cells #[.int .i64 dn, .string dm] 38)).alloc _) ⟨W.heap.size + 1 + 1, 0, none⟩ 1 1 [Value.int .i64 dn, Value.string dm] rfl rfl hn1 one2 m1 m2 (by simp; omega) ?_; intro v' w1 hown' hgrow _; obtain ⟨g', cap', rfl⟩ := ownsRow_succ hown'; obtain ⟨hv1, hv2, hr2, hk2, hb2⟩ := (HV2.out o q (Obj.cells #[.int .i64 dn, .string dm] 38)).appended (by decide) (HR2.out o q (Obj.cells #[.int .i64 dn, .string dm] 38)) (by simp; omega) (by omega) hown' hgrow; have hc1 := hv1.cell; have hf1 := hv1.frozen))
      have hgo := (HR2.out o q (Obj.cells #[.int .i64 dn, .string dm] 38)).alloc (Obj.cells #[.int .i64 dn, .string dm] 38)
      have keep : ∀ (B : Nat) (cs : Array Value) (t : TypeId), W.heap[B]? = some (.cells cs t (0, 0)) → t ≠ 38 → B ≠ w.heap.size + 1 + 1 + 1 + 1 → ∀ u, (w1.setCell ⟨w.heap.size + 1 + 1 + 1 + 1, 0, none⟩ u).heap[B]? = some (.cells cs t (0, 0)) := by
        intro B cs t h1 h2 h3 u
        have hlt := (Array.getElem?_eq_some_iff.1 h1).1
        have e1 : ((W.alloc o).drewN q).heap[B]? = some (.cells cs t (0, 0)) := (Below.heap_alloc W o B hlt).trans h1
        have e2 := (Below.heap_alloc ((W.alloc o).drewN q) (Obj.cells #[.int .i64 dn, .string dm] 38) B (Array.getElem?_eq_some_iff.1 e1).1).trans e1
        have e3 := (Below.heap_alloc _ (Obj.cells #[.int .i64 dn, .string dm] 38) B (Array.getElem?_eq_some_iff.1 e2).1).trans e2
        exact (Below.heap_setCell _ _ _ _ h3).trans ((hgrow.block B (Array.getElem?_eq_some_iff.1 e3).1 (obj_not_row e3 h2 hgo)).trans e3)
      have hb0 : Below w.heap.size W (((W.alloc o).drewN q).alloc (Obj.cells #[.int .i64 dn, .string dm] 38)) := by
        have h1 : Below w.heap.size W ((W.alloc o).drewN q) := below_drewN ((Below.refl _ W).alloc hBs o) q
        exact h1.alloc (Nat.le_trans hBs h1.size) _
      have hk0 : KeepsOthers W (((W.alloc o).drewN q).alloc (Obj.cells #[.int .i64 dn, .string dm] 38)) := ((KeepsOthers.alloc W o).trans (keepsOthers_drewN _ q)).trans (KeepsOthers.alloc _ _)
      obtain ⟨_, ⟨bS, bZ⟩, ⟨bB, bN⟩, bR, bF⟩ := HBN.out
      have kS := keep _ _ _ bS (by decide) (by omega)
      have kZ := keep _ _ _ bZ (by decide) (by omega)
      have kB := keep _ _ _ bB (by decide) (by omega)
      have kN := keep _ _ _ bN (by decide) (by omega)
      have kR := keep _ _ _ bR (by decide) (by omega)
      have kF := keep _ _ _ bF (by decide) (by omega)
      simp only [List.length_map] at hv2 hk2 hb2 hr2
      refine ⟨(hk0.trans hk2).from _, ⟨(kS _).trans (Eq.symm bS), (kZ _).trans (Eq.symm bZ)⟩, ⟨_, hv2, ?_, ?_⟩, ⟨⟨kS _, kZ _⟩, ⟨kB _, kN _⟩, kR _, kF _⟩, ?_, HB.out.trans (hb0.trans hb2)⟩
      · have e1 : (List.map Ent.pl (pre ++ [⟨xp, xe, hxp, hxe⟩])).length = pre.length + 1 := by simp
        have e2 : cellsD b names (List.map Ent.pl (pre ++ [⟨xp, xe, hxp, hxe⟩])) = cellsD b names (List.map Ent.pl pre) ++ [Value.int .i64 dn, Value.string dm] := by
          rw [List.map_append]
          show cellsD b names (List.map Ent.pl pre ++ [(xp, xe)]) = _
          rw [cellsD_snoc]
          unfold defC
          rw [HSC.out]
        rw [e1, e2]
        exact hr2
      · simp
      · intro x hx
        rw [List.map_append, List.mem_append] at hx
        rcases hx with hx | hx
        · exact hok x hx
        · obtain rfl : x = (xp, xe) := by simpa [Ent.pl] using hx
          rw [HSC.out]
    · have hcb : (c != 0) = true := by simp [hc]
      have HC : Hid (¬ c = 0) := hc
      clear hc
      have cR := bR.cell
      have fR := bR.frozen
      have lR := bR.lt
      have cF0 : W.cell? ⟨w.heap.size + 1 + 1 + 1, 0, none⟩ = some (.int .i64 0) := by simp [World.cell?, bF]
      have cF1 : W.cell? ⟨w.heap.size + 1 + 1 + 1, 1, none⟩ = some (.int .u64 0) := by simp [World.cell?, bF]
      have cF2 : W.cell? ⟨w.heap.size + 1 + 1 + 1, 2, none⟩ = some (.string ⟨#[]⟩) := by simp [World.cell?, bF]
      have fF0 : W.frozen? ⟨w.heap.size + 1 + 1 + 1, 0, none⟩ = false := by simp [World.frozen?, bF]
      have fF1 : W.frozen? ⟨w.heap.size + 1 + 1 + 1, 1, none⟩ = false := by simp [World.frozen?, bF]
      have fF2 : W.frozen? ⟨w.heap.size + 1 + 1 + 1, 2, none⟩ = false := by simp [World.frozen?, bF]
      have lF : w.heap.size + 1 + 1 + 1 < W.heap.size := (Array.getElem?_eq_some_iff.1 bF).1
      have HBR : Hid (Boxed W (w.heap.size + 1 + 1) 26 (.slice none 0 0)) := bR
      have HB : Hid (Below w.heap.size w W) := hB
      clear bR bF bS bZ bN bB bv hrow hnil hB
      gi_wp2_with (first
        | (gi_at_call 22; refine (CallsIn.inRound l (callsIn_wide.2 (SY _))).mono ?_; rintro e w' ⟨rfl, o, q, rfl⟩)
        | (gi_at_call 23; refine (CallsIn.inRound l (callsIn_wide.2 (fat_any _ _ _))).mono ?_; rintro e w' ⟨rfl, rfl⟩))
      refine ⟨?_, rfl, pre.map Ent.pl, (xp, xe), by rw [List.map_append]; rfl, hok, by rw [HSC.out]; exact HC.out, ?_, ?_, ?_⟩
      · exact (((((((((KeepsOthers.alloc W o).trans (keepsOthers_drewN _ q)).trans (KeepsOthers.setCell _ _ _)).trans (KeepsOthers.setCell _ _ _)).trans (KeepsOthers.setCell _ _ _)).trans (KeepsOthers.setCell _ _ _)).trans (KeepsOthers.alloc _ _)).trans (KeepsOthers.alloc _ _))).from _
      · have h1 : Boxed ((W.alloc o).drewN q) (w.heap.size + 1 + 1) 26 (.slice none 0 0) := HBR.out.alloc o
        exact (((((h1.set (.slice none 0 0)).other (B' := w.heap.size + 1 + 1 + 1) (by omega) _).kept (grownBy_setAt _ _ 1 _) (by simp)).kept (grownBy_setAt _ _ 2 _) (by simp)).alloc _).alloc _
      · rw [HSC.out]
        have x0 : ∀ j v, W.cell? ⟨w.heap.size + 1 + 1 + 1, j, none⟩ = some v → (((W.alloc o).drewN q).setCell ⟨w.heap.size + 1 + 1, 0, none⟩ (.slice none 0 0)).cell? ⟨w.heap.size + 1 + 1 + 1, j, none⟩ = some v := by
          intro j v hv
          have hb1 : Below (w.heap.size + 1 + 1 + 1 + 1) W ((W.alloc o).drewN q) := below_drewN ((Below.refl _ W).alloc (by omega) o) q
          have hv1 : ((W.alloc o).drewN q).cell? ⟨w.heap.size + 1 + 1 + 1, j, none⟩ = some v := (hb1.cell (p := ⟨w.heap.size + 1 + 1 + 1, j, none⟩) (by show w.heap.size + 1 + 1 + 1 < _; omega)).trans hv
          exact (World.cell?_of_block (a := ⟨w.heap.size + 1 + 1 + 1, j, none⟩) (Below.heap_setCell _ _ _ _ (by show w.heap.size + 1 + 1 + 1 ≠ w.heap.size + 1 + 1; omega))).trans hv1
        have x1 := set3_cells (.int .i64 c) (.int .u64 (xp : Int)) (.string ⟨#[]⟩) (x0 0 _ cF0) (x0 1 _ cF1) (x0 2 _ cF2)
        generalize (((((W.alloc o).drewN q).setCell ⟨w.heap.size + 1 + 1, 0, none⟩ (.slice none 0 0)).setCell ⟨w.heap.size + 1 + 1 + 1, 0, none⟩ (.int .i64 c)).setCell ⟨w.heap.size + 1 + 1 + 1, 1, none⟩ (.int .u64 (xp : Int))).setCell ⟨w.heap.size + 1 + 1 + 1, 2, none⟩ (.string ⟨#[]⟩) = Y at x1
        exact ⟨cell_alloc2 _ _ x1.1, cell_alloc2 _ _ x1.2.1, cell_alloc2 _ _ x1.2.2⟩
      · have h1 : Below w.heap.size w ((W.alloc o).drewN q) := below_drewN (HB.out.alloc HB.out.size o) q
        have h2 := (((h1.setCell (p := ⟨w.heap.size + 1 + 1, 0, none⟩) (by show w.heap.size ≤ w.heap.size + 1 + 1; omega) (.slice none 0 0)).setCell (p := ⟨w.heap.size + 1 + 1 + 1, 0, none⟩) (by show w.heap.size ≤ w.heap.size + 1 + 1 + 1; omega) (.int .i64 c)).setCell (p := ⟨w.heap.size + 1 + 1 + 1, 1, none⟩) (by show w.heap.size ≤ w.heap.size + 1 + 1 + 1; omega) (.int .u64 (xp : Int))).setCell (p := ⟨w.heap.size + 1 + 1 + 1, 2, none⟩) (by show w.heap.size ≤ w.heap.size + 1 + 1 + 1; omega) (.string ⟨#[]⟩)
        exact (h2.alloc h2.size _).alloc (h2.alloc h2.size _).size _
  case done =>
    rintro D ys W hD rfl ⟨⟨v, bv, hrow, hnil⟩, ⟨⟨bS, bZ⟩, ⟨bB, bN⟩, bR, bF⟩, hok, hB⟩ hK
    obtain ⟨vb, vn, vc, rfl⟩ := ownsRow_slice hrow
    have HR : Hid (W.ownsRow w.heap.size 38 2 (.slice vb vn vc) (ents b hb n).length (cellsD b names (ents b hb n))) := hrow
    have HBX : Hid (Boxed W (w.heap.size + 1 + 1) 26 (.slice none 0 0) ∧ W.heap[w.heap.size + 1 + 1 + 1]? = some (.cells #[.int .i64 0, .int .u64 0, .string ⟨#[]⟩] 30 (0, 0))) := ⟨bR, bF⟩
    have cV := bv.cell
    have lV := bv.lt
    have cR := bR.cell
    have fR := bR.frozen
    have lR := bR.lt
    have cF0 : W.cell? ⟨w.heap.size + 1 + 1 + 1, 0, none⟩ = some (.int .i64 0) := by simp [World.cell?, bF]
    have cF1 : W.cell? ⟨w.heap.size + 1 + 1 + 1, 1, none⟩ = some (.int .u64 0) := by simp [World.cell?, bF]
    have cF2 : W.cell? ⟨w.heap.size + 1 + 1 + 1, 2, none⟩ = some (.string ⟨#[]⟩) := by simp [World.cell?, bF]
    have fF0 : W.frozen? ⟨w.heap.size + 1 + 1 + 1, 0, none⟩ = false := by simp [World.frozen?, bF]
    have fF1 : W.frozen? ⟨w.heap.size + 1 + 1 + 1, 1, none⟩ = false := by simp [World.frozen?, bF]
    have fF2 : W.frozen? ⟨w.heap.size + 1 + 1 + 1, 2, none⟩ = false := by simp [World.frozen?, bF]
    have lF : w.heap.size + 1 + 1 + 1 < W.heap.size := (Array.getElem?_eq_some_iff.1 bF).1
    have HB : Hid (Below w.heap.size w W) := hB
    have HO : Hid (∀ x ∈ ents b hb n, (defF b names x.2 x.1).2 = 0) := hok
    clear bv hrow hnil bS bZ bN bB bR bF hB hok
    have HY : Hid (∃ Y : World, (((W.setCell ⟨w.heap.size + 1 + 1, 0, none⟩ (.slice vb vn vc)).setCell ⟨w.heap.size + 1 + 1 + 1, 0, none⟩ (.int .i64 0)).setCell ⟨w.heap.size + 1 + 1 + 1, 1, none⟩ (.int .u64 0)).setCell ⟨w.heap.size + 1 + 1 + 1, 2, none⟩ (.string ⟨#[]⟩) = Y ∧ Y.cell? ⟨w.heap.size + 1 + 1, 0, none⟩ = some (.slice vb vn vc) ∧ (Y.cell? ⟨w.heap.size + 1 + 1 + 1, 0, none⟩ = some (.int .i64 0) ∧ Y.cell? ⟨w.heap.size + 1 + 1 + 1, 1, none⟩ = some (.int .u64 0) ∧ Y.cell? ⟨w.heap.size + 1 + 1 + 1, 2, none⟩ = some (.string ⟨#[]⟩)) ∧ Y.heap[D]? = some (.deferred (some [])) ∧ Below w.heap.size w Y ∧ Y.ownsRow w.heap.size 38 2 (.slice vb vn vc) (ents b hb n).length (cellsD b names (ents b hb n))) := by
      obtain ⟨bR, bF⟩ := HBX.out
      have n1 := bR.not_row (e := 38) (by decide) HR.out
      have n2 := obj_not_row (e := 38) bF (by decide) HR.out
      refine ⟨_, rfl, ?_, ?_, ?_, ?_, ?_⟩
      · have h1 := (((bR.set (.slice vb vn vc)).kept (grownBy_setAt _ (w.heap.size + 1 + 1 + 1) 0 (.int .i64 0)) (by simp)).kept (grownBy_setAt _ (w.heap.size + 1 + 1 + 1) 1 (.int .u64 0)) (by simp)).kept (grownBy_setAt _ (w.heap.size + 1 + 1 + 1) 2 (.string ⟨#[]⟩)) (by simp)
        exact h1.cell
      · have x0 : ∀ j v, W.cell? ⟨w.heap.size + 1 + 1 + 1, j, none⟩ = some v → (W.setCell ⟨w.heap.size + 1 + 1, 0, none⟩ (.slice vb vn vc)).cell? ⟨w.heap.size + 1 + 1 + 1, j, none⟩ = some v := fun j v hv => (World.cell?_of_block (a := ⟨w.heap.size + 1 + 1 + 1, j, none⟩) (Below.heap_setCell _ _ _ _ (by show w.heap.size + 1 + 1 + 1 ≠ w.heap.size + 1 + 1; omega))).trans hv
        exact set3_cells (.int .i64 0) (.int .u64 0) (.string ⟨#[]⟩) (x0 0 _ cF0) (x0 1 _ cF1) (x0 2 _ cF2)
      · rw [Below.heap_setCell _ _ _ _ (by show D ≠ w.heap.size + 1 + 1 + 1; omega), Below.heap_setCell _ _ _ _ (by show D ≠ w.heap.size + 1 + 1 + 1; omega), Below.heap_setCell _ _ _ _ (by show D ≠ w.heap.size + 1 + 1 + 1; omega), Below.heap_setCell _ _ _ _ (by show D ≠ w.heap.size + 1 + 1; omega)]
        exact hK
      · exact (((HB.out.setCell (p := ⟨w.heap.size + 1 + 1, 0, none⟩) (by show w.heap.size ≤ w.heap.size + 1 + 1; omega) (.slice vb vn vc)).setCell (p := ⟨w.heap.size + 1 + 1 + 1, 0, none⟩) (by show w.heap.size ≤ w.heap.size + 1 + 1 + 1; omega) (.int .i64 0)).setCell (p := ⟨w.heap.size + 1 + 1 + 1, 1, none⟩) (by show w.heap.size ≤ w.heap.size + 1 + 1 + 1; omega) (.int .u64 0)).setCell (p := ⟨w.heap.size + 1 + 1 + 1, 2, none⟩) (by show w.heap.size ≤ w.heap.size + 1 + 1 + 1; omega) (.string ⟨#[]⟩)
      · exact (((HR.out.kept (grownBy_setAt _ (w.heap.size + 1 + 1) 0 (.slice vb vn vc)) (.inr n1.symm)).kept (grownBy_setAt _ (w.heap.size + 1 + 1 + 1) 0 (.int .i64 0)) (.inr n2.symm)).kept (grownBy_setAt _ (w.heap.size + 1 + 1 + 1) 1 (.int .u64 0)) (.inr n2.symm)).kept (grownBy_setAt _ (w.heap.size + 1 + 1 + 1) 2 (.string ⟨#[]⟩)) (.inr n2.symm)
    gi_wp2
    obtain ⟨Y, hY, y1, ⟨y2, y3, y4⟩, y5, y6, y7⟩ := HY.out
    rw [hY]
    have hbz := belowK_b (n₀ := w.heap.size + 9) (w := W0) (by omega) Y D _ (.deferred none) hD y5 rfl rfl
    refine ⟨by simp, .inl ⟨_, _, rfl, run_takeDeferred y5, ?_⟩⟩
    refine ⟨_, results_two_cells (fn := Try.f11) rfl _ _ (w.heap.size + 1 + 1) (w.heap.size + 1 + 1 + 1) (.slice vb vn vc) [.int .i64 0, .int .u64 0, .string ⟨#[]⟩] _ rfl rfl (load_slice49 ((hbz.cell (p := ⟨w.heap.size + 1 + 1, 0, none⟩) (by show w.heap.size + 1 + 1 < _; omega)).trans y1)) (range3 ((hbz.cell (p := ⟨w.heap.size + 1 + 1 + 1, 0, none⟩) (by show w.heap.size + 1 + 1 + 1 < _; omega)).trans y2) ((hbz.cell (p := ⟨w.heap.size + 1 + 1 + 1, 1, none⟩) (by show w.heap.size + 1 + 1 + 1 < _; omega)).trans y3) ((hbz.cell (p := ⟨w.heap.size + 1 + 1 + 1, 2, none⟩) (by show w.heap.size + 1 + 1 + 1 < _; omega)).trans y4)) Try.underlying30 rfl info27, .inl ⟨_, rfl, ?_, HO.out⟩, y6.trans (hbz.mono (by omega))⟩
    exact ownsRow_putObj y7 _ y5 rfl
  case stop =>
    rintro D c pre W hD hSp ⟨rfl, q, x, hpx, hq, hx, bR, ⟨c0, c1, c2⟩, hB⟩ hK
    gi_wp2
    have hbz := belowK_b (n₀ := w.heap.size + 9) (w := W0) (by omega) W D _ (.deferred none) hD hK rfl rfl
    refine ⟨by simp, .inl ⟨_, _, rfl, run_takeDeferred hK, ?_⟩⟩
    refine ⟨_, results_two_cells (fn := Try.f11) rfl _ _ (w.heap.size + 1 + 1) (w.heap.size + 1 + 1 + 1) (.slice none 0 0) [.int .i64 (defF b names x.2 x.1).2, .int .u64 (x.1 : Int), .string ⟨#[]⟩] _ rfl rfl (load_slice49 ((hbz.cell (p := ⟨w.heap.size + 1 + 1, 0, none⟩) (by show w.heap.size + 1 + 1 < _; omega)).trans bR.cell)) (range3 ((hbz.cell (p := ⟨w.heap.size + 1 + 1 + 1, 0, none⟩) (by show w.heap.size + 1 + 1 + 1 < _; omega)).trans c0) ((hbz.cell (p := ⟨w.heap.size + 1 + 1 + 1, 1, none⟩) (by show w.heap.size + 1 + 1 + 1 < _; omega)).trans c1) ((hbz.cell (p := ⟨w.heap.size + 1 + 1 + 1, 2, none⟩) (by show w.heap.size + 1 + 1 + 1 < _; omega)).trans c2)) Try.underlying30 rfl info27, .inr ⟨q, x, ?_, hq, hx, rfl⟩, hB.trans (hbz.mono (by omega))⟩
    rw [← hpx]
    exact hSp.map Ent.pl
end Go.Proofs.Ytnlpncgblegbkaa
