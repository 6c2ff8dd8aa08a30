/-
  Layer 15: Read of any bytes.
-/
import Derived.Test.YtghbkjdjginfjaaD1
import Derived.Maps.AppendAt
namespace Go.Proofs.Ytghbkjdjginfjaa
open Go.RowKit Go.Shelf
set_option linter.unusedVariables false
attribute [local go_sem] Oper.semAt_some

abbrev Pt := Nat × ByteArray
def cellsL (n : Int) (l : List Pt) : List Value := l.flatMap fun x => rlc (relF x.2 n).1
theorem cellsL_snoc (n : Int) (l : List Pt) (x : Pt) : cellsL n (l ++ [x]) = cellsL n l ++ rlc (relF x.2 n).1 := by simp [cellsL]
theorem cellsL_length (n : Int) (l : List Pt) : (cellsL n l).length = l.length * 4 := by
  induction l with
  | nil => rfl
  | cons x l ih => simp [cellsL, rlc] at *; omega

/-- What Read keeps, round by round: N is the first block of its own. -/
def RI (w : World) (b : ByteArray) (n : Int) (pre : List Pt) (W : World) : Prop :=
  (∃ v, Boxed W (w.heap.size + 1 + 1 + 1) 29 v ∧ W.ownsRow w.heap.size 38 4 v pre.length (cellsL n pre) ∧ (v = .slice none 0 0 ↔ pre = [])) ∧
  ((Boxed W (w.heap.size + 1 + 1 + 1 + 1) 9 (.string b) ∧ Boxed W (w.heap.size + 1 + 1 + 1 + 1 + 1) 3 (.int .i64 24)) ∧ Boxed W w.heap.size 3 (.int .i64 n) ∧ Boxed W (w.heap.size + 1) 29 (.slice none 0 0) ∧ W.heap[w.heap.size + 1 + 1]? = some (.cells #[.int .i64 0, .int .u64 0, .string ⟨#[]⟩] 32 (0, 0))) ∧
  (∀ x ∈ pre, (relF x.2 n).2 = 0) ∧ Below w.heap.size w W

/-- .. and where it ends early. -/
def RX (w : World) (n : Int) (pre : List Pt) (W : World) : Prop :=
  ∃ q x, pre = q ++ [x] ∧ (∀ y ∈ q, (relF y.2 n).2 = 0) ∧ (relF x.2 n).2 ≠ 0 ∧ Boxed W (w.heap.size + 1) 29 (.slice none 0 0) ∧
    (W.cell? ⟨w.heap.size + 1 + 1, 0, none⟩ = some (.int .i64 (relF x.2 n).2) ∧ W.cell? ⟨w.heap.size + 1 + 1, 1, none⟩ = some (.int .u64 ((x.1 : Int) * 24)) ∧ W.cell? ⟨w.heap.size + 1 + 1, 2, none⟩ = some (.string ⟨#[]⟩)) ∧ Below w.heap.size w W

theorem obj_own {β : Type} (B : Nat) (o : β → Obj) (h : ∀ s, (o s).isCells = true) : Own (fun s W => W.heap[B]? = some (o s)) := fun s X Y row hs hg hrow =>
  (hg.block B (Array.getElem?_eq_some_iff.1 hs).1 (fun e => by obtain ⟨o', ho, hc⟩ := hrow B e.symm; rw [hs] at ho; cases ho; rw [h] at hc; cases hc)).trans hs

theorem RI_own (w : World) (b : ByteArray) (n : Int) (B : Nat) (hB : w.heap.size ≤ B) : OwnFrom B (RI w b n) :=
  OwnFrom.and (Own.from (holdsRow_own w.heap.size (w.heap.size + 1 + 1 + 1) 29 38 4 (fun pre : List Pt => pre.length) (fun pre => cellsL n pre) (fun pre v => (v = .slice none 0 0 ↔ pre = []))) _)
    (OwnFrom.and (OwnFrom.and (OwnFrom.and (Own.from (boxed_own _ _ _) _) (Own.from (boxed_own _ _ _) _)) (OwnFrom.and (Own.from (boxed_own _ _ _) _) (OwnFrom.and (Own.from (boxed_own _ _ _) _) (Own.from (obj_own _ (fun _ : List Pt => Obj.cells #[.int .i64 0, .int .u64 0, .string ⟨#[]⟩] 32 (0, 0)) (fun _ => rfl)) _))))
      (OwnFrom.and (ownFrom_pure _ _) (ownFrom_below (Nat.le_refl _) hB)))

theorem RX_own (w : World) (n : Int) (B : Nat) (hB : w.heap.size ≤ B) : OwnFrom B (RX w n) := fun s X Y row hs hg hr => by
  obtain ⟨q, x, h1, h2, h3, h4, ⟨c0, c1, c2⟩, h6⟩ := hs
  have hr' := fun r e => (hr r e).2
  exact ⟨q, x, h1, h2, h3, (Own.from (boxed_own (β := Unit) (w.heap.size + 1) 29 (fun _ => .slice none 0 0)) B) () X Y row h4 hg hr, ⟨cell_kept c0 hg hr', cell_kept c1 hg hr', cell_kept c2 hg hr'⟩, (ownFrom_below (β := Unit) (Nat.le_refl _) hB) () X Y row h6 hg hr⟩

/-- A block of another type is not the row's. -/
theorem obj_not_row {W : World} {B : Nat} {cs : Array Value} {t e : TypeId} {fr : Nat × Nat} (h : W.heap[B]? = some (.cells cs t fr)) (hte : t ≠ e) {base size k : Nat} {v : Value} {xs : List Value} (hr : W.ownsRow base e size v k xs) : some B ≠ v.ownBlock := by
  intro e1
  rcases hr.2 with ⟨rfl, _⟩ | ⟨g, cap, cur, rfl, _, hgb, _⟩
  · simp [Value.ownBlock] at e1
  · obtain rfl : B = g := by simpa [Value.ownBlock] using e1
    rw [h] at hgb
    cases hgb
    exact hte rfl

theorem ownsRow_slice {W : World} {base k size : Nat} {e : TypeId} {v : Value} {xs : List Value} (h : W.ownsRow base e size v k xs) : ∃ a n c, v = .slice a n c := by
  rcases h.2 with ⟨rfl, _⟩ | ⟨g, cap, cur, rfl, _⟩
  · exact ⟨_, _, _, rfl⟩
  · exact ⟨_, _, _, rfl⟩
theorem keepsOthers_drewN (W : World) (n : Nat) : KeepsOthers W (W.drewN n) := ⟨Nat.le_refl _, fun _ _ h _ => h⟩
theorem grownBy_setAt (W : World) (B j : Nat) (u : Value) : W.grownBy (W.setCell ⟨B, j, none⟩ u) (some B) := ⟨rfl, rfl, rfl, by simp, fun q hq hne => Below.heap_setCell _ _ _ _ (fun e => hne (by rw [e]))⟩

theorem set3_cells {X : World} {B : Nat} {u0 u1 u2 : Value} (v0 v1 v2 : Value) (h0 : X.cell? ⟨B, 0, none⟩ = some u0) (h1 : X.cell? ⟨B, 1, none⟩ = some u1) (h2 : X.cell? ⟨B, 2, none⟩ = some u2) :
    (((X.setCell ⟨B, 0, none⟩ v0).setCell ⟨B, 1, none⟩ v1).setCell ⟨B, 2, none⟩ v2).cell? ⟨B, 0, none⟩ = some v0 ∧ (((X.setCell ⟨B, 0, none⟩ v0).setCell ⟨B, 1, none⟩ v1).setCell ⟨B, 2, none⟩ v2).cell? ⟨B, 1, none⟩ = some v1 ∧ (((X.setCell ⟨B, 0, none⟩ v0).setCell ⟨B, 1, none⟩ v1).setCell ⟨B, 2, none⟩ v2).cell? ⟨B, 2, none⟩ = some v2 := by
  refine ⟨?_, ?_, ?_⟩ <;> simp [go_sem, h0, h1, h2]
theorem cell_alloc2 {Y : World} {a : Addr} {v : Value} (o1 o2 : Obj) (h : Y.cell? a = some v) : ((Y.alloc o1).alloc o2).cell? a = some v :=
  have hl := World.block_lt_of_cell? _ _ h
  have hb : Below Y.heap.size Y ((Y.alloc o1).alloc o2) := ((Below.refl _ Y).alloc (Nat.le_refl _) _).alloc (by simp) _
  (hb.cell hl).trans h

theorem Try.infoR38 : (Try.prog.info? 38).map (fun i => (i.zero, i.size, i.bytes)) = some (some (rlv (0, 0, 0, 0)), 4, 32) := by kernel_rfl

/-- What Read answers. -/
def ReadPost (w : World) (b : ByteArray) (n : Int) (e : Ending) (w' : World) : Prop :=
  ((b.size % 24 ≠ 0 ∧ e = .returned (.tuple #[.slice none 0 0, flt 4 0])) ∨ (b.size % 24 = 0 ∧ 256 < b.size / 24 ∧ e = .returned (.tuple #[.slice none 0 0, flt 6 0])) ∨
    (b.size % 24 = 0 ∧ b.size / 24 ≤ 256 ∧
      ((∃ v, e = .returned (.tuple #[v, flt 0 0]) ∧ w'.ownsRow w.heap.size 38 4 v (b.size / 24) (cellsL n (eachL b 24 (b.size / 24))) ∧ ∀ x ∈ eachL b 24 (b.size / 24), (relF x.2 n).2 = 0) ∨
       (∃ q x, q ++ [x] <+: eachL b 24 (b.size / 24) ∧ (∀ y ∈ q, (relF y.2 n).2 = 0) ∧ (relF x.2 n).2 ≠ 0 ∧ e = .returned (.tuple #[.slice none 0 0, flt (relF x.2 n).2 ((x.1 : Int) * 24)]))))) ∧
  Below w.heap.size w w'

theorem results_two_cells {P : Program} {fn : Func} {p u : Tmp} {t1 t2 : TypeId} (h : fn.results = #[.cell p t1, .cell u t2]) (tmps : Array Value) (w : World) (b1 b2 : Nat) (v : Value) (cs : List Value) (d : TypeDesc)
    (hp : tmps.getD p undef = .pointer (some ⟨b1, 0, none⟩)) (hu : tmps.getD u undef = .pointer (some ⟨b2, 0, none⟩))
    (h1 : (loadVar t1 ⟨b1, 0, none⟩).run P w = .ok v w) (hc : w.rangeAt b2 0 cs) (hud : P.underlying t2 = some d) (hd : d.isRow = true) (hi : (P.info? t2).map (·.size) = some cs.length) :
    (results fn tmps).run P w = .ok (.tuple #[v, .agg cs.toArray]) w := by
  have hp' : tmps[p]?.getD undef = .pointer (some ⟨b1, 0, none⟩) := by simpa using hp
  have hu' : tmps[u]?.getD undef = .pointer (some ⟨b2, 0, none⟩) := by simpa using hu
  simp [results, h, hp', hu', asAddr, h1, run_loadVar_mid w b2 0 t2 cs d hc hud hd hi, Result.andThen]

theorem load_slice {w : World} {B : Nat} {v : Value} (h : w.cell? ⟨B, 0, none⟩ = some v) : (loadVar 29 ⟨B, 0, none⟩).run Try.prog w = .ok v w := by
  have hagg : (isAgg 29).run Try.prog w = .ok false w := by
    simp [isAgg, go_sem]
  simp [loadVar, Sem.run_bind, hagg, Result.andThen, go_sem, h]

set_option maxRecDepth 100000 in
set_option maxHeartbeats 2000000 in
theorem read_form (b : ByteArray) (n : Int) (w : World) (hb : b.size ≤ 140737488351232) (h : b.size % 24 ≠ 0) : Calls Try.prog 9 #[.string b, .int .i64 n] w (ReadPost w b n) := by
  have h0 : ((((b.size : Nat) : Int)) % 24 != 0) = true := by simp; omega
  have HH : Hid (b.size % 24 ≠ 0) := h
  clear h
  refine (callsIn_wide (n := 4)).1 ?_
  refine callsIn_of_wp_marks Try.func9 rfl trivial ?_ rfl
  simp only [Try.ntmps9, List.size_toArray, List.length_cons, List.length_nil, Nat.reduceAdd, Nat.reduceSub, Array.replicate_succ, Array.replicate_zero, List.push_toArray, List.append_toArray, List.nil_append, List.cons_append]
  have f23 : Fence.wide.fn 15 := trivial
  gi_wp2_with (gi_at_call 15; refine (callsIn_wide.2 (of_any _ _)).mono ?_; rintro e w' ⟨rfl, rfl⟩)
  refine ⟨_, results_two_cells (fn := Try.f9) rfl _ _ (w.heap.size + 1) (w.heap.size + 1 + 1) (.slice none 0 0) [.int .i64 4, .int .u64 0, .string ⟨#[]⟩] _ rfl rfl (load_slice (by simp [go_sem])) (range3 (by simp [go_sem]) (by simp [go_sem]) (by simp [go_sem])) Try.underlying32 rfl info27, .inl ⟨HH.out, rfl⟩, ?_⟩
  go_grown

set_option maxRecDepth 100000 in
set_option maxHeartbeats 2000000 in
theorem read_many (b : ByteArray) (n : Int) (w : World) (hb : b.size ≤ 140737488351232) (h : b.size % 24 = 0) (h2 : 256 < b.size / 24) : Calls Try.prog 9 #[.string b, .int .i64 n] w (ReadPost w b n) := by
  have h0 : ((((b.size : Nat) : Int)) % 24 != 0) = false := by simp; omega
  have h1 : (256 : Int) < ((b.size : Nat) : Int) / 24 := by omega
  have HH : Hid (b.size % 24 = 0 ∧ 256 < b.size / 24) := ⟨h, h2⟩
  clear h h2
  refine (callsIn_wide (n := 4)).1 ?_
  refine callsIn_of_wp_marks Try.func9 rfl trivial ?_ rfl
  simp only [Try.ntmps9, List.size_toArray, List.length_cons, List.length_nil, Nat.reduceAdd, Nat.reduceSub, Array.replicate_succ, Array.replicate_zero, List.push_toArray, List.append_toArray, List.nil_append, List.cons_append]
  have f23 : Fence.wide.fn 15 := trivial
  gi_wp2_with (gi_at_call 15; refine (callsIn_wide.2 (of_any _ _)).mono ?_; rintro e w' ⟨rfl, rfl⟩)
  refine ⟨_, results_two_cells (fn := Try.f9) rfl _ _ (w.heap.size + 1) (w.heap.size + 1 + 1) (.slice none 0 0) [.int .i64 6, .int .u64 0, .string ⟨#[]⟩] _ rfl rfl (load_slice (by simp [go_sem])) (range3 (by simp [go_sem]) (by simp [go_sem]) (by simp [go_sem])) Try.underlying32 rfl info27, .inr (.inl ⟨HH.out.1, HH.out.2, rfl⟩), ?_⟩
  go_grown

set_option maxRecDepth 100000 in
set_option maxHeartbeats 4000000 in
theorem read_few (b : ByteArray) (n : Int) (w : World) (hb : b.size ≤ 140737488351232) (n0 : -9223372036854775808 ≤ n) (n1 : n ≤ 9223372036854775807) (h : b.size % 24 = 0) (h2 : b.size / 24 ≤ 256) : Calls Try.prog 9 #[.string b, .int .i64 n] w (ReadPost w b n) := by
  have h0 : ((((b.size : Nat) : Int)) % 24 != 0) = false := by simp; omega
  have h1 : decide ((256 : Int) < ((b.size : Nat) : Int) / 24) = false := by simp; omega
  have HH : Hid (b.size % 24 = 0 ∧ b.size / 24 ≤ 256) := ⟨h, h2⟩
  clear h h2
  refine (callsIn_wide (n := 4)).1 ?_
  refine callsIn_of_wp_marks Try.func9 rfl trivial ?_ rfl
  simp only [Try.ntmps9, List.size_toArray, List.length_cons, List.length_nil, Nat.reduceAdd, Nat.reduceSub, Array.replicate_succ, Array.replicate_zero, List.push_toArray, List.append_toArray, List.nil_append, List.cons_append]
  have f24 : Fence.wide.fn 16 := trivial
  gi_wp2_with (gi_at_call 16; refine (each_in Fence.wide 3 trivial rfl _ _ _).mono ?_; rintro e w' ⟨rfl, rfl⟩)
  have hW : ∃ W0 : World, ((((((w.alloc (Obj.cells #[Value.int IntKind.i64 n] 3)).alloc (Obj.cells #[Value.slice none 0 0] 29)).alloc (Obj.cells #[Value.int IntKind.i64 0, Value.int IntKind.u64 0, Value.string ⟨#[]⟩] 32)).alloc (Obj.cells #[Value.slice none 0 0] 29)).alloc (Obj.cells #[Value.string b] 9)).alloc (Obj.cells #[Value.int IntKind.i64 24] 3)) = W0 ∧ W0.heap.size = w.heap.size + 6 ∧ RI w b n [] W0 := by
    refine ⟨_, rfl, by simp, ⟨.slice none 0 0, ?_, World.ownsRow_nil _ _ _ _, by simp⟩, ⟨⟨?_, ?_⟩, ?_, ?_, ?_⟩, by simp, ?_⟩
    · have h := (((Boxed.new (((w.alloc (Obj.cells #[Value.int IntKind.i64 n] 3)).alloc (Obj.cells #[Value.slice none 0 0] 29)).alloc (Obj.cells #[Value.int IntKind.i64 0, Value.int IntKind.u64 0, Value.string ⟨#[]⟩] 32)) 29 (.slice none 0 0)).alloc (Obj.cells #[Value.string b] 9)).alloc (Obj.cells #[Value.int IntKind.i64 24] 3))
      simp only [World.size_alloc] at h
      exact h
    · have h := (Boxed.new ((((w.alloc (Obj.cells #[Value.int IntKind.i64 n] 3)).alloc (Obj.cells #[Value.slice none 0 0] 29)).alloc (Obj.cells #[Value.int IntKind.i64 0, Value.int IntKind.u64 0, Value.string ⟨#[]⟩] 32)).alloc (Obj.cells #[Value.slice none 0 0] 29)) 9 (.string b)).alloc (Obj.cells #[Value.int IntKind.i64 24] 3)
      simp only [World.size_alloc] at h
      exact h
    · have h := Boxed.new (((((w.alloc (Obj.cells #[Value.int IntKind.i64 n] 3)).alloc (Obj.cells #[Value.slice none 0 0] 29)).alloc (Obj.cells #[Value.int IntKind.i64 0, Value.int IntKind.u64 0, Value.string ⟨#[]⟩] 32)).alloc (Obj.cells #[Value.slice none 0 0] 29)).alloc (Obj.cells #[Value.string b] 9)) 3 (.int .i64 24)
      simp only [World.size_alloc] at h
      exact h
    · exact (((((Boxed.new w 3 (.int .i64 n)).alloc _).alloc _).alloc _).alloc _).alloc _
    · have h := ((((Boxed.new (w.alloc (Obj.cells #[Value.int IntKind.i64 n] 3)) 29 (.slice none 0 0)).alloc (Obj.cells #[Value.int IntKind.i64 0, Value.int IntKind.u64 0, Value.string ⟨#[]⟩] 32)).alloc (Obj.cells #[Value.slice none 0 0] 29)).alloc (Obj.cells #[Value.string b] 9)).alloc (Obj.cells #[Value.int IntKind.i64 24] 3)
      simp only [World.size_alloc] at h
      exact h
    · have h := World.alloc_heap_new ((w.alloc (Obj.cells #[Value.int IntKind.i64 n] 3)).alloc (Obj.cells #[Value.slice none 0 0] 29)) (Obj.cells #[Value.int IntKind.i64 0, Value.int IntKind.u64 0, Value.string ⟨#[]⟩] 32)
      simp only [World.size_alloc] at h
      exact ((Below.heap_alloc _ _ _ (by simp)).trans ((Below.heap_alloc _ _ _ (by simp)).trans ((Below.heap_alloc _ _ _ (by simp)).trans h)))
    · exact ((((((Below.refl _ w).alloc (Nat.le_refl _) _).alloc (by simp) _).alloc (by simp; omega) _).alloc (by simp; omega) _).alloc (by simp; omega) _).alloc (by simp; omega) _
  obtain ⟨W0, hW0, hsz, hI0⟩ := hW
  rw [hW0]
  clear hW0
  refine wpIn_rangeFunc_ownH rfl (by omega) (gf := 22) (lb := #[.pointer (some ⟨w.heap.size + 1 + 1 + 1 + 1 + 1, 0, none⟩), .pointer (some ⟨w.heap.size + 1 + 1 + 1 + 1, 0, none⟩)]) rfl trivial (enters_of Try.func22 (by kernel_rfl) rfl)
    (each_stops Fence.wide 3 trivial rfl (by omega) (w.heap.size + 1 + 1 + 1 + 1 + 1) (w.heap.size + 1 + 1 + 1 + 1) b 24 (b.size / 24) (by omega) (by omega) hb (Nat.div_mul_le_self _ _) rfl W0 hI0.2.1.1.2.cell hI0.2.1.1.1.cell) KZ.trans
    (fun W l o o' hl h hc hw => by
      have hB := belowK_b (n₀ := w.heap.size + 6) (w := W0) (by omega) W l o o' hl h hc hw
      exact ⟨hB.block _ (by omega), hB.block _ (by omega)⟩) (Below.refl _ _) (fun _ => rfl)
    (fun pre W => RI w b n (pre.map Part.pl) W)
    (fun c pre W => c = .ret ∧ RX w n (pre.map Part.pl) W)
    (fun s X Y row hs hg hr => RI_own w b n _ (by omega) (s.map Part.pl) X Y row hs hg hr) (fun c => OwnFrom.and (ownFrom_pure _ _) (fun s X Y row hs hg hr => RX_own w n _ (by omega) (s.map Part.pl) X Y row hs hg hr))
    hI0
    (fun x a' W => a' = { tmps := #[.string b, .int .i64 n, undef, .pointer (some ⟨w.heap.size, 0, none⟩), .pointer (some ⟨w.heap.size + 1, 0, none⟩), .pointer (some ⟨w.heap.size + 1 + 1, 0, none⟩), .pointer (some ⟨w.heap.size + 1 + 1 + 1, 0, none⟩), .int .i64 (x.i : Int), .string x.p, undef, undef, .bool false, .string b, .int .i64 (b.size : Int), .int .i64 ((b.size : Int) % 24), .bool false, undef, .bool false, .string b, .int .i64 (b.size : Int), .int .i64 ((b.size : Int) / 24), .bool false, undef, .string b, .func (.func 22) #[] #[.pointer (some ⟨w.heap.size + 1 + 1 + 1 + 1 + 1, 0, none⟩), .pointer (some ⟨w.heap.size + 1 + 1 + 1 + 1, 0, none⟩)], .int .i64 (x.i : Int), .string x.p, undef, undef, undef, undef, undef, undef, undef, undef, undef, undef, undef, undef, undef, undef, undef, undef, undef, undef, undef], defers := [] })
    (fun x a' _ X Y row hs hg hr => hs)
    ?assign ?body ?done ?stop
  case assign =>
    rintro l pre ⟨xi, xe, hxi, hxe⟩ W K hI hK
    gi_wp2
    exact hK _ _ (KeepsFrom.refl _ _) (KZ.refl _ _ _) hI rfl
  case body =>
    rintro l pre ⟨xi, xe, hxi, hxe⟩ a' W hl ⟨r, hr⟩ hI rfl hlt
    obtain ⟨⟨v, bv, hrow, hnil⟩, ⟨⟨bS, bZ⟩, bN, bR, bF⟩, hok, hB⟩ := hI
    obtain ⟨sc, hsc⟩ : ∃ sc, relF xe n = sc := ⟨_, rfl⟩
    have SY : ∀ X : World, Calls Try.prog 17 #[.string xe, .int .i64 n] X fun r w' => r = .returned (.tuple #[rlv sc.1, .int .i64 sc.2]) ∧ ∃ o o2 q, w' = ((X.alloc o).alloc o2).drewN q := by
      intro X
      have := rel_any xe n X hxe n0 n1
      rw [hsc] at this
      exact this
    have HSC : Hid (relF xe n = sc) := hsc
    clear hsc
    obtain ⟨⟨sa, sk, ss, sd⟩, c⟩ := sc
    have cN := bN.cell
    have hNl := bN.lt
    have f25 : Fence.wide.fn 17 := trivial
    have f26 : Fence.wide.fn 18 := trivial
    have hpl : (Part.pl ⟨xi, xe, hxi, hxe⟩ : Pt) = (xi, xe) := rfl
    by_cases hc : c = 0
    · subst hc
      obtain ⟨i0, hi0, hz0, hz1, hz2⟩ := info_parts Try.infoR38
      have HB : Hid (Below w.heap.size w W) := hB
      have HBN : Hid (Boxed W (w.heap.size + 1 + 1 + 1) 29 v ∧ ((Boxed W (w.heap.size + 1 + 1 + 1 + 1) 9 (.string b) ∧ Boxed W (w.heap.size + 1 + 1 + 1 + 1 + 1) 3 (.int .i64 24)) ∧ Boxed W w.heap.size 3 (.int .i64 n) ∧ Boxed W (w.heap.size + 1) 29 (.slice none 0 0) ∧ W.heap[w.heap.size + 1 + 1]? = some (.cells #[.int .i64 0, .int .u64 0, .string ⟨#[]⟩] 32 (0, 0)))) := ⟨bv, ⟨bS, bZ⟩, bN, bR, bF⟩
      have HCV : Hid (∀ o o2 q X, ((((W.alloc o).alloc o2).drewN q).alloc X).cell? ⟨w.heap.size + 1 + 1 + 1, 0, none⟩ = some v) := fun o o2 q X => by
        have h1 : Boxed (((W.alloc o).alloc o2).drewN q) (w.heap.size + 1 + 1 + 1) 29 v := (bv.alloc o).alloc o2
        exact (h1.alloc X).cell
      have hBs := hB.size
      have m1 : (List.map Part.pl pre).length + 1 ≤ maxLen := by have := HH.out.2; unfold maxLen; simp; omega
      have m2 : ((List.map Part.pl pre).length + 1) * 32 ≤ 140737488355328 := by have := HH.out.2; simp; omega
      have HV2 : Hid (∀ o o2 q X, Boxed ((((W.alloc o).alloc o2).drewN q).alloc X) (w.heap.size + 1 + 1 + 1) 29 v) := fun o o2 q X => by
        have h1 : Boxed (((W.alloc o).alloc o2).drewN q) (w.heap.size + 1 + 1 + 1) 29 v := (bv.alloc o).alloc o2
        exact h1.alloc X
      have HR2 : Hid (∀ o o2 q X, ((((W.alloc o).alloc o2).drewN q).alloc X).ownsRow w.heap.size 38 4 v (List.map Part.pl pre).length (cellsL n (List.map Part.pl pre))) := fun o o2 q X => by
        have h1 : (((W.alloc o).alloc o2).drewN q).ownsRow w.heap.size 38 4 v (List.map Part.pl pre).length (cellsL n (List.map Part.pl pre)) := (hrow.alloc o).alloc o2
        exact h1.alloc X
      have hs2 : ∀ o o2 q X, ((((W.alloc o).alloc o2).drewN q).alloc X).heap.size = W.heap.size + 1 + 1 + 1 := fun o o2 q X => by rw [World.size_alloc]; exact congrArg (· + 1) (by show ((W.alloc o).alloc o2).heap.size = _; rw [World.size_alloc, World.size_alloc])
      have HS2 : Hid (_) := hs2
      clear hs2
      have one7 : ∀ u ∈ (rlc (sa, sk, ss, sd)), u.oneCell' = true := by
        intro u hu
        simp [rlc] at hu
        rcases hu with rfl | rfl | rfl | rfl <;> rfl
      have hnews : ∀ (X : World), ∀ j u, (rlc (sa, sk, ss, sd))[j]? = some u → (X.alloc (Obj.cells #[.int .u64 sa, .int .i64 sk, .int .i64 ss, .int .u64 sd] 38)).cell? ((⟨X.heap.size, 0, none⟩ : Addr).add j) = some u := by
        intro X j u hu
        match j, hu with
        | 0, hu => simp [rlc] at hu; subst hu; simp [go_sem]
        | 1, hu => simp [rlc] at hu; subst hu; simp [go_sem]
        | 2, hu => simp [rlc] at hu; subst hu; simp [go_sem]
        | 3, hu => simp [rlc] at hu; subst hu; simp [go_sem]
        | j + 4, hu => simp [rlc] at hu
      have HNW : Hid (_) := hnews
      clear bR bF bS bZ bN bv hrow hB hnews
      gi_wp2_with (first
        | (gi_at_call 17; refine (CallsIn.inRound l (callsIn_wide.2 (SY _))).mono ?_; rintro e w' ⟨rfl, o, o2, q, rfl⟩; have cV := HCV.out o o2 q (Obj.cells #[.int .u64 sa, .int .i64 sk, .int .i64 ss, .int .u64 sd] 38); have hn1 := HNW.out ((((W.alloc o).alloc o2).drewN q).alloc (Obj.cells #[.int .u64 sa, .int .i64 sk, .int .i64 ss, .int .u64 sd] 38)); rw [HS2.out] at hn1)
        | (gi_at_builtin; refine wpListIn_append_own _ rfl _ _ 29 rfl w.heap.size 38 i0 _ 4 32 Try.underlying29 hi0 hz0 hz1 hz2 rfl (by decide) v _ _ rfl ((HR2.out o o2 q (Obj.cells #[.int .u64 sa, .int .i64 sk, .int .i64 ss, .int .u64 sd] 38)).alloc _) ⟨W.heap.size + 1 + 1 + 1, 0, none⟩ 1 1 (rlc (sa, sk, ss, sd)) rfl rfl hn1 one7 m1 m2 (by simp; omega) ?_; intro v' w1 hown' hgrow _; obtain ⟨g', cap', rfl⟩ := ownsRow_succ hown'; obtain ⟨hv1, hv2, hr2, hk2, hb2⟩ := (HV2.out o o2 q (Obj.cells #[.int .u64 sa, .int .i64 sk, .int .i64 ss, .int .u64 sd] 38)).appended (by decide) (HR2.out o o2 q (Obj.cells #[.int .u64 sa, .int .i64 sk, .int .i64 ss, .int .u64 sd] 38)) (by simp; omega) (by omega) hown' hgrow; have hc1 := hv1.cell; have hf1 := hv1.frozen))
      have hgo := (HR2.out o o2 q (Obj.cells #[.int .u64 sa, .int .i64 sk, .int .i64 ss, .int .u64 sd] 38)).alloc (Obj.cells #[.int .u64 sa, .int .i64 sk, .int .i64 ss, .int .u64 sd] 38)
      have keep : ∀ (B : Nat) (cs : Array Value) (t : TypeId), W.heap[B]? = some (.cells cs t (0, 0)) → t ≠ 38 → B ≠ w.heap.size + 1 + 1 + 1 → ∀ u, (w1.setCell ⟨w.heap.size + 1 + 1 + 1, 0, none⟩ u).heap[B]? = some (.cells cs t (0, 0)) := by
        intro B cs t h1 h2 h3 u
        have hlt := (Array.getElem?_eq_some_iff.1 h1).1
        have e1 : (((W.alloc o).alloc o2).drewN q).heap[B]? = some (.cells cs t (0, 0)) := (Below.heap_alloc (W.alloc o) o2 B (by rw [World.size_alloc]; omega)).trans ((Below.heap_alloc W o B hlt).trans h1)
        have e2 := (Below.heap_alloc (((W.alloc o).alloc o2).drewN q) (Obj.cells #[.int .u64 sa, .int .i64 sk, .int .i64 ss, .int .u64 sd] 38) B (Array.getElem?_eq_some_iff.1 e1).1).trans e1
        have e3 := (Below.heap_alloc _ (Obj.cells #[.int .u64 sa, .int .i64 sk, .int .i64 ss, .int .u64 sd] 38) B (Array.getElem?_eq_some_iff.1 e2).1).trans e2
        exact (Below.heap_setCell _ _ _ _ h3).trans ((hgrow.block B (Array.getElem?_eq_some_iff.1 e3).1 (obj_not_row e3 h2 hgo)).trans e3)
      have hb0 : Below w.heap.size W ((((W.alloc o).alloc o2).drewN q).alloc (Obj.cells #[.int .u64 sa, .int .i64 sk, .int .i64 ss, .int .u64 sd] 38)) := by
        have h1 : Below w.heap.size W (((W.alloc o).alloc o2).drewN q) := below_drewN (((Below.refl _ W).alloc hBs o).alloc (by rw [World.size_alloc]; omega) o2) q
        exact h1.alloc (Nat.le_trans hBs h1.size) _
      have hk0 : KeepsOthers W ((((W.alloc o).alloc o2).drewN q).alloc (Obj.cells #[.int .u64 sa, .int .i64 sk, .int .i64 ss, .int .u64 sd] 38)) := (((KeepsOthers.alloc W o).trans (KeepsOthers.alloc _ o2)).trans (keepsOthers_drewN _ q)).trans (KeepsOthers.alloc _ _)
      obtain ⟨_, ⟨bS, bZ⟩, bN, bR, bF⟩ := HBN.out
      have kS := keep _ _ _ bS (by decide) (by omega)
      have kZ := keep _ _ _ bZ (by decide) (by omega)
      have kN := keep _ _ _ bN (by decide) (by omega)
      have kR := keep _ _ _ bR (by decide) (by omega)
      have kF := keep _ _ _ bF (by decide) (by omega)
      simp only [List.length_map] at hv2 hk2 hb2 hr2
      refine ⟨(hk0.trans hk2).from _, ⟨(kZ _).trans (Eq.symm bZ), (kS _).trans (Eq.symm bS)⟩, ⟨_, hv2, ?_, ?_⟩, ⟨⟨kS _, kZ _⟩, kN _, kR _, kF _⟩, ?_, HB.out.trans (hb0.trans hb2)⟩
      · have e1 : (List.map Part.pl (pre ++ [⟨xi, xe, hxi, hxe⟩])).length = pre.length + 1 := by simp
        have e2 : cellsL n (List.map Part.pl (pre ++ [⟨xi, xe, hxi, hxe⟩])) = cellsL n (List.map Part.pl pre) ++ rlc (sa, sk, ss, sd) := by
          rw [List.map_append]
          show cellsL n (List.map Part.pl pre ++ [(xi, xe)]) = _
          rw [cellsL_snoc, HSC.out]
        rw [e1, e2]
        exact hr2
      · simp
      · intro x hx
        rw [List.map_append, List.mem_append] at hx
        rcases hx with hx | hx
        · exact hok x hx
        · obtain rfl : x = (xi, xe) := by simpa [Part.pl] using hx
          rw [HSC.out]
    · have hcb : (c != 0) = true := by simp [hc]
      have HC : Hid (¬ c = 0) := hc
      clear hc
      have cR := bR.cell
      have fR := bR.frozen
      have lR := bR.lt
      have cF0 : W.cell? ⟨w.heap.size + 1 + 1, 0, none⟩ = some (.int .i64 0) := by simp [World.cell?, bF]
      have cF1 : W.cell? ⟨w.heap.size + 1 + 1, 1, none⟩ = some (.int .u64 0) := by simp [World.cell?, bF]
      have cF2 : W.cell? ⟨w.heap.size + 1 + 1, 2, none⟩ = some (.string ⟨#[]⟩) := by simp [World.cell?, bF]
      have fF0 : W.frozen? ⟨w.heap.size + 1 + 1, 0, none⟩ = false := by simp [World.frozen?, bF]
      have fF1 : W.frozen? ⟨w.heap.size + 1 + 1, 1, none⟩ = false := by simp [World.frozen?, bF]
      have fF2 : W.frozen? ⟨w.heap.size + 1 + 1, 2, none⟩ = false := by simp [World.frozen?, bF]
      have lF : w.heap.size + 1 + 1 < W.heap.size := (Array.getElem?_eq_some_iff.1 bF).1
      have lF1 : w.heap.size + 1 + 1 < W.heap.size + 1 := by omega
      have lF2 : w.heap.size + 1 + 1 < W.heap.size + 1 + 1 := by omega
      have lR1 : w.heap.size + 1 < W.heap.size + 1 := by omega
      have lR2 : w.heap.size + 1 < W.heap.size + 1 + 1 := by omega
      have lF3 : w.heap.size + 1 + 1 < W.heap.size + 1 + 1 + 1 := by omega
      have lR3 : w.heap.size + 1 < W.heap.size + 1 + 1 + 1 := by omega
      have l1 : w.heap.size < W.heap.size + 1 := by omega
      have l2 : w.heap.size < W.heap.size + 1 + 1 := by omega
      have l3 : w.heap.size ≤ W.heap.size := by omega
      have l4 : w.heap.size ≤ W.heap.size + 1 := by omega
      have HBR : Hid (Boxed W (w.heap.size + 1) 29 (.slice none 0 0)) := bR
      have HB : Hid (Below w.heap.size w W) := hB
      have hxs : xi < 256 := by have := HH.out.2; omega
      clear bR bF bS bZ bN bv hrow hnil hB
      gi_wp2_with (first
        | (gi_at_call 17; refine (CallsIn.inRound l (callsIn_wide.2 (SY _))).mono ?_; rintro e w' ⟨rfl, o, o2, q, rfl⟩)
        | (gi_at_call 18; refine (CallsIn.inRound l (callsIn_wide.2 (fat_any _ _ _))).mono ?_; rintro e w' ⟨rfl, rfl⟩))
      refine ⟨?_, rfl, pre.map Part.pl, (xi, xe), by rw [List.map_append]; rfl, hok, by rw [HSC.out]; exact HC.out, ?_, ?_, ?_⟩
      · exact ((((((((((KeepsOthers.alloc W o).trans (KeepsOthers.alloc _ o2)).trans (keepsOthers_drewN _ q)).trans (KeepsOthers.setCell _ _ _)).trans (KeepsOthers.setCell _ _ _)).trans (KeepsOthers.setCell _ _ _)).trans (KeepsOthers.setCell _ _ _)).trans (KeepsOthers.alloc _ _)).trans (KeepsOthers.alloc _ _))).from _
      · have h1 : Boxed (((W.alloc o).alloc o2).drewN q) (w.heap.size + 1) 29 (.slice none 0 0) := (HBR.out.alloc o).alloc o2
        exact (((((h1.set (.slice none 0 0)).other (B' := w.heap.size + 1 + 1) (by omega) _).kept (grownBy_setAt _ _ 1 _) (by simp)).kept (grownBy_setAt _ _ 2 _) (by simp)).alloc _).alloc _
      · rw [HSC.out]
        have x0 : ∀ j v, W.cell? ⟨w.heap.size + 1 + 1, j, none⟩ = some v → ((((W.alloc o).alloc o2).drewN q).setCell ⟨w.heap.size + 1, 0, none⟩ (.slice none 0 0)).cell? ⟨w.heap.size + 1 + 1, j, none⟩ = some v := by
          intro j v hv
          have hb1 : Below (w.heap.size + 1 + 1 + 1) W (((W.alloc o).alloc o2).drewN q) := below_drewN (((Below.refl _ W).alloc (by omega) o).alloc (by rw [World.size_alloc]; omega) o2) q
          have hv1 : (((W.alloc o).alloc o2).drewN q).cell? ⟨w.heap.size + 1 + 1, j, none⟩ = some v := (hb1.cell (p := ⟨w.heap.size + 1 + 1, j, none⟩) (by show w.heap.size + 1 + 1 < _; omega)).trans hv
          exact (World.cell?_of_block (a := ⟨w.heap.size + 1 + 1, j, none⟩) (Below.heap_setCell _ _ _ _ (by show w.heap.size + 1 + 1 ≠ w.heap.size + 1; omega))).trans hv1
        have x1 := set3_cells (.int .i64 c) (.int .u64 ((xi : Int) * 24)) (.string ⟨#[]⟩) (x0 0 _ cF0) (x0 1 _ cF1) (x0 2 _ cF2)
        generalize ((((((W.alloc o).alloc o2).drewN q).setCell ⟨w.heap.size + 1, 0, none⟩ (.slice none 0 0)).setCell ⟨w.heap.size + 1 + 1, 0, none⟩ (.int .i64 c)).setCell ⟨w.heap.size + 1 + 1, 1, none⟩ (.int .u64 ((xi : Int) * 24))).setCell ⟨w.heap.size + 1 + 1, 2, none⟩ (.string ⟨#[]⟩) = Y at x1
        exact ⟨cell_alloc2 _ _ x1.1, cell_alloc2 _ _ x1.2.1, cell_alloc2 _ _ x1.2.2⟩
      · have h1 : Below w.heap.size w (((W.alloc o).alloc o2).drewN q) := below_drewN ((HB.out.alloc HB.out.size o).alloc (HB.out.alloc HB.out.size o).size o2) q
        have h2 := (((h1.setCell (p := ⟨w.heap.size + 1, 0, none⟩) (by simp) (.slice none 0 0)).setCell (p := ⟨w.heap.size + 1 + 1, 0, none⟩) (by show w.heap.size ≤ w.heap.size + 1 + 1; omega) (.int .i64 c)).setCell (p := ⟨w.heap.size + 1 + 1, 1, none⟩) (by show w.heap.size ≤ w.heap.size + 1 + 1; omega) (.int .u64 ((xi : Int) * 24))).setCell (p := ⟨w.heap.size + 1 + 1, 2, none⟩) (by show w.heap.size ≤ w.heap.size + 1 + 1; omega) (.string ⟨#[]⟩)
        exact (h2.alloc h2.size _).alloc (h2.alloc h2.size _).size _
  case done =>
    rintro D ys W hD rfl ⟨⟨v, bv, hrow, hnil⟩, ⟨⟨bS, bZ⟩, bN, bR, bF⟩, hok, hB⟩ hK
    rw [eachP_pl] at hrow hok
    rw [eachL_length] at hrow
    obtain ⟨vb, vn, vc, rfl⟩ := ownsRow_slice hrow
    have HR : Hid (W.ownsRow w.heap.size 38 4 (.slice vb vn vc) (b.size / 24) (cellsL n (eachL b 24 (b.size / 24)))) := hrow
    have HBX : Hid (Boxed W (w.heap.size + 1) 29 (.slice none 0 0) ∧ W.heap[w.heap.size + 1 + 1]? = some (.cells #[.int .i64 0, .int .u64 0, .string ⟨#[]⟩] 32 (0, 0))) := ⟨bR, bF⟩
    have cV := bv.cell
    have lV := bv.lt
    have cR := bR.cell
    have fR := bR.frozen
    have lR := bR.lt
    have cF0 : W.cell? ⟨w.heap.size + 1 + 1, 0, none⟩ = some (.int .i64 0) := by simp [World.cell?, bF]
    have cF1 : W.cell? ⟨w.heap.size + 1 + 1, 1, none⟩ = some (.int .u64 0) := by simp [World.cell?, bF]
    have cF2 : W.cell? ⟨w.heap.size + 1 + 1, 2, none⟩ = some (.string ⟨#[]⟩) := by simp [World.cell?, bF]
    have fF0 : W.frozen? ⟨w.heap.size + 1 + 1, 0, none⟩ = false := by simp [World.frozen?, bF]
    have fF1 : W.frozen? ⟨w.heap.size + 1 + 1, 1, none⟩ = false := by simp [World.frozen?, bF]
    have fF2 : W.frozen? ⟨w.heap.size + 1 + 1, 2, none⟩ = false := by simp [World.frozen?, bF]
    have lF : w.heap.size + 1 + 1 < W.heap.size := (Array.getElem?_eq_some_iff.1 bF).1
    have HB : Hid (Below w.heap.size w W) := hB
    have HO : Hid (_) := hok
    clear bv hrow hnil bS bZ bN bR bF hB hok
    have hY : ∃ Y : World, (((W.setCell ⟨w.heap.size + 1, 0, none⟩ (.slice vb vn vc)).setCell ⟨w.heap.size + 1 + 1, 0, none⟩ (.int .i64 0)).setCell ⟨w.heap.size + 1 + 1, 1, none⟩ (.int .u64 0)).setCell ⟨w.heap.size + 1 + 1, 2, none⟩ (.string ⟨#[]⟩) = Y ∧ Y.cell? ⟨w.heap.size + 1, 0, none⟩ = some (.slice vb vn vc) ∧ (Y.cell? ⟨w.heap.size + 1 + 1, 0, none⟩ = some (.int .i64 0) ∧ Y.cell? ⟨w.heap.size + 1 + 1, 1, none⟩ = some (.int .u64 0) ∧ Y.cell? ⟨w.heap.size + 1 + 1, 2, none⟩ = some (.string ⟨#[]⟩)) ∧ Y.heap[D]? = some (.deferred (some [])) ∧ Below w.heap.size w Y ∧ Y.ownsRow w.heap.size 38 4 (.slice vb vn vc) (b.size / 24) (cellsL n (eachL b 24 (b.size / 24))) := by
      obtain ⟨bR, bF⟩ := HBX.out
      have n1 := bR.not_row (e := 38) (by decide) HR.out
      have n2 := obj_not_row (e := 38) bF (by decide) HR.out
      refine ⟨_, rfl, ?_, ?_, ?_, ?_, ?_⟩
      · have h1 := (((bR.set (.slice vb vn vc)).kept (grownBy_setAt _ (w.heap.size + 1 + 1) 0 (.int .i64 0)) (by simp)).kept (grownBy_setAt _ (w.heap.size + 1 + 1) 1 (.int .u64 0)) (by simp)).kept (grownBy_setAt _ (w.heap.size + 1 + 1) 2 (.string ⟨#[]⟩)) (by simp)
        exact h1.cell
      · have x0 : ∀ j v, W.cell? ⟨w.heap.size + 1 + 1, j, none⟩ = some v → (W.setCell ⟨w.heap.size + 1, 0, none⟩ (.slice vb vn vc)).cell? ⟨w.heap.size + 1 + 1, j, none⟩ = some v := fun j v hv => (World.cell?_of_block (a := ⟨w.heap.size + 1 + 1, j, none⟩) (Below.heap_setCell _ _ _ _ (by show w.heap.size + 1 + 1 ≠ w.heap.size + 1; omega))).trans hv
        exact set3_cells (.int .i64 0) (.int .u64 0) (.string ⟨#[]⟩) (x0 0 _ cF0) (x0 1 _ cF1) (x0 2 _ cF2)
      · rw [Below.heap_setCell _ _ _ _ (by show D ≠ w.heap.size + 1 + 1; omega), Below.heap_setCell _ _ _ _ (by show D ≠ w.heap.size + 1 + 1; omega), Below.heap_setCell _ _ _ _ (by show D ≠ w.heap.size + 1 + 1; omega), Below.heap_setCell _ _ _ _ (by show D ≠ w.heap.size + 1; omega)]
        exact hK
      · exact (((HB.out.setCell (p := ⟨w.heap.size + 1, 0, none⟩) (by simp) (.slice vb vn vc)).setCell (p := ⟨w.heap.size + 1 + 1, 0, none⟩) (by show w.heap.size ≤ w.heap.size + 1 + 1; omega) (.int .i64 0)).setCell (p := ⟨w.heap.size + 1 + 1, 1, none⟩) (by show w.heap.size ≤ w.heap.size + 1 + 1; omega) (.int .u64 0)).setCell (p := ⟨w.heap.size + 1 + 1, 2, none⟩) (by show w.heap.size ≤ w.heap.size + 1 + 1; omega) (.string ⟨#[]⟩)
      · exact (((HR.out.kept (grownBy_setAt _ (w.heap.size + 1) 0 (.slice vb vn vc)) (.inr n1.symm)).kept (grownBy_setAt _ (w.heap.size + 1 + 1) 0 (.int .i64 0)) (.inr n2.symm)).kept (grownBy_setAt _ (w.heap.size + 1 + 1) 1 (.int .u64 0)) (.inr n2.symm)).kept (grownBy_setAt _ (w.heap.size + 1 + 1) 2 (.string ⟨#[]⟩)) (.inr n2.symm)
    have HY : Hid (_) := hY
    clear hY
    gi_wp2
    obtain ⟨Y, hY, y1, ⟨y2, y3, y4⟩, y5, y6, y7⟩ := HY.out
    rw [hY]
    have hbz := belowK_b (n₀ := w.heap.size + 6) (w := W0) (by omega) Y D _ (.deferred none) hD y5 rfl rfl
    refine ⟨by simp, .inl ⟨_, _, rfl, run_takeDeferred y5, ?_⟩⟩
    refine ⟨_, results_two_cells (fn := Try.f9) rfl _ _ (w.heap.size + 1) (w.heap.size + 1 + 1) (.slice vb vn vc) [.int .i64 0, .int .u64 0, .string ⟨#[]⟩] _ rfl rfl (load_slice ((hbz.cell (p := ⟨w.heap.size + 1, 0, none⟩) (by show w.heap.size + 1 < _; omega)).trans y1)) (range3 ((hbz.cell (p := ⟨w.heap.size + 1 + 1, 0, none⟩) (by show w.heap.size + 1 + 1 < _; omega)).trans y2) ((hbz.cell (p := ⟨w.heap.size + 1 + 1, 1, none⟩) (by show w.heap.size + 1 + 1 < _; omega)).trans y3) ((hbz.cell (p := ⟨w.heap.size + 1 + 1, 2, none⟩) (by show w.heap.size + 1 + 1 < _; omega)).trans y4)) Try.underlying32 rfl info27, .inr (.inr ⟨HH.out.1, HH.out.2, .inl ⟨_, rfl, ?_, HO.out⟩⟩), y6.trans (hbz.mono (by omega))⟩
    exact ownsRow_putObj y7 _ y5 rfl
  case stop =>
    rintro D c pre W hD hSp ⟨rfl, q, x, hpx, hq, hx, bR, ⟨c0, c1, c2⟩, hB⟩ hK
    gi_wp2
    have hbz := belowK_b (n₀ := w.heap.size + 6) (w := W0) (by omega) W D _ (.deferred none) hD hK rfl rfl
    refine ⟨by simp, .inl ⟨_, _, rfl, run_takeDeferred hK, ?_⟩⟩
    refine ⟨_, results_two_cells (fn := Try.f9) rfl _ _ (w.heap.size + 1) (w.heap.size + 1 + 1) (.slice none 0 0) [.int .i64 (relF x.2 n).2, .int .u64 ((x.1 : Int) * 24), .string ⟨#[]⟩] _ rfl rfl (load_slice ((hbz.cell (p := ⟨w.heap.size + 1, 0, none⟩) (by show w.heap.size + 1 < _; omega)).trans bR.cell)) (range3 ((hbz.cell (p := ⟨w.heap.size + 1 + 1, 0, none⟩) (by show w.heap.size + 1 + 1 < _; omega)).trans c0) ((hbz.cell (p := ⟨w.heap.size + 1 + 1, 1, none⟩) (by show w.heap.size + 1 + 1 < _; omega)).trans c1) ((hbz.cell (p := ⟨w.heap.size + 1 + 1, 2, none⟩) (by show w.heap.size + 1 + 1 < _; omega)).trans c2)) Try.underlying32 rfl info27, .inr (.inr ⟨HH.out.1, HH.out.2, .inr ⟨q, x, ?_, hq, hx, rfl⟩⟩), hB.trans (hbz.mono (by omega))⟩
    rw [← hpx, ← eachP_pl b 24 (b.size / 24) (Nat.div_mul_le_self _ _) (b.size / 24) (Nat.le_refl _)]
    exact hSp.map Part.pl

theorem read_any (b : ByteArray) (n : Int) (w : World) (hb : b.size ≤ 140737488351232) (n0 : -9223372036854775808 ≤ n) (n1 : n ≤ 9223372036854775807) : Calls Try.prog 9 #[.string b, .int .i64 n] w (ReadPost w b n) := by
  by_cases h : b.size % 24 = 0
  · by_cases h2 : b.size / 24 ≤ 256
    · exact read_few b n w hb n0 n1 h h2
    · exact read_many b n w hb h (by omega)
  · exact read_form b n w hb h
end Go.Proofs.Ytghbkjdjginfjaa
