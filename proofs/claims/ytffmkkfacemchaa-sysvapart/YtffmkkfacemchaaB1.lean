/-
  Layer 13: Build of any names.
-/
import Derived.Test.YtffmkkfacemchaaW2
import Derived.Test.YtffmkkfacemchaaS2
import Derived.Laws.MakeOwn
import Derived.Deep.DeepCutAuto
import Derived.Deep.RegionHeld
namespace Go.Proofs.Ytffmkkfacemchaa
open Go.RowKit Go.Sort
set_option linter.unusedVariables false

theorem Try.info51 : (Try.prog.info? 51).map (fun i => (i.zero, i.size, i.bytes)) = some (some (.int .u32 0), 1, 4) := by kernel_rfl

/-- A block of n numbers. -/
def rowA (n : Nat) (f : Nat → Nat) : Array Value := ((List.range n).map fun j => Value.int .u32 (f j : Int)).toArray
def RowB (W : World) (g n : Nat) (f : Nat → Nat) : Prop := W.heap[g]? = some (.cells (rowA n f) 51 (0, 0))
theorem RowB.lt {W : World} {g n : Nat} {f : Nat → Nat} (h : RowB W g n f) : g < W.heap.size := (Array.getElem?_eq_some_iff.1 h).1
theorem RowB.cell {W : World} {g n : Nat} {f : Nat → Nat} (h : RowB W g n f) (j : Nat) (hj : j < n) : W.cell? ⟨g, j, none⟩ = some (.int .u32 (f j)) := by
  simp [World.cell?, show W.heap[g]? = _ from h, rowA, hj]
theorem RowB.fz {W : World} {g n : Nat} {f : Nat → Nat} (h : RowB W g n f) (j : Nat) : W.frozen? ⟨g, j, none⟩ = false := by simp [World.frozen?, show W.heap[g]? = _ from h]
theorem RowB.same {W W' : World} {g n : Nat} {f : Nat → Nat} (h : RowB W g n f) (e : W'.heap[g]? = W.heap[g]?) : RowB W' g n f := e.trans h
theorem RowB.row {W : World} {g n : Nat} {f : Nat → Nat} (h : RowB W g n f) : RowU W g 0 n f := fun j hj => by rw [Nat.zero_add]; exact h.cell j hj
/-- One number changed. -/
def upd (f : Nat → Nat) (j v : Nat) : Nat → Nat := fun i => if i = j then v else f i
theorem rowA_set (n : Nat) (f : Nat → Nat) (j v : Nat) (hj : j < n) : (rowA n f).setIfInBounds j (.int .u32 (v : Int)) = rowA n (upd f j v) := by
  unfold rowA
  apply Array.ext
  · simp
  · intro i h1 h2
    simp at h1 h2
    rw [Array.getElem_setIfInBounds (by simpa using h1)]
    by_cases hi : j = i
    · subst hi; simp [upd]
    · have hi' : ¬ i = j := fun e => hi e.symm
      simp [upd, hi, hi']
theorem RowB.set {W : World} {g n : Nat} {f : Nat → Nat} (h : RowB W g n f) (j v : Nat) (hj : j < n) : RowB (W.setCell ⟨g, j, none⟩ (.int .u32 (v : Int))) g n (upd f j v) := by
  obtain ⟨hlt, hk⟩ := Array.getElem?_eq_some_iff.1 h
  show (W.heap.modify g _)[g]? = _
  rw [Array.getElem?_eq_getElem (by rw [Array.size_modify]; exact hlt), Array.getElem_modify_self, hk]
  simp only [← rowA_set n f j v hj]
  rfl
theorem made_zero (n : Nat) : madeCells (Value.int IntKind.u32 0).cells (n * 1) = rowA n (fun _ => 0) := by
  unfold madeCells rowA
  apply Array.ext
  · simp
  · intro i h1 h2
    simp [Value.cells, Nat.mod_one]

theorem make_any (n : Nat) (hn : n ≤ 256) (W : World) : (Instr.makeSlice 23 (.int .i64 (n : Int)) (.int .i64 (n : Int))).run Try.prog W = .ok (.slice (some ⟨W.heap.size, 0, none⟩) n n) (W.alloc (.cells (rowA n (fun _ => 0)) 51)) := by
  obtain ⟨i0, hi, hz0, hz1, hz2⟩ := info_parts Try.info51
  have h := run_make (P := Try.prog) W 23 51 i0 _ Try.underlying23 hi hz0 .i64 .i64 (n : Int) (n : Int) (by omega) (Int.le_refl _) (by rw [hz2]; omega) (by omega)
  rw [hz1, Int.toNat_natCast, made_zero] at h
  exact h

/-- The table behind the first i names. -/
def bldB (hf : Nat → Nat) : Nat → Nat → Nat
  | 0 => fun _ => 0
  | i + 1 => if i = 0 then fun _ => 0 else upd (bldB hf i) (hf i) i
def bldC (hf : Nat → Nat) : Nat → Nat → Nat
  | 0 => fun _ => 0
  | i + 1 => if i = 0 then fun _ => 0 else upd (bldC hf i) i (bldB hf i (hf i))

/-- What stands behind the makes. -/
def Made (w : World) (T g1 g2 nb nn : Nat) (f c : Nat → Nat) (W : World) : Prop :=
  (W.cell? ⟨T, 0, none⟩ = some (slv (some ⟨g1, 0, none⟩) nb nb) ∧ W.cell? ⟨T, 1, none⟩ = some (slv (some ⟨g2, 0, none⟩) nn nn)) ∧ RowB W g1 nb f ∧ RowB W g2 nn c ∧ (T ≠ g1 ∧ T ≠ g2 ∧ g1 ≠ g2) ∧ (w.heap.size < T ∧ w.heap.size < g1 ∧ w.heap.size < g2) ∧ (W.heap[w.heap.size]? = some (.cells #[.slice none 0 0, .slice none 0 0] 25 (0, 0))) ∧ Below w.heap.size w W

theorem wrapu32 (m : Nat) (h : m < 4294967296) : IntKind.u32.wrap (m : Int) = (m : Int) := by rw [IntKind.wrap_u32]; omega
theorem set2_blk {W : World} {B : Nat} {a b : Value} (h : W.heap[B]? = some (.cells #[a, b] 25 (0, 0))) (x y : Value) : ((W.setCell ⟨B, 0, none⟩ x).setCell ⟨B, 1, none⟩ y).heap[B]? = some (.cells #[x, y] 25 (0, 0)) := by
  obtain ⟨hlt, hk⟩ := Array.getElem?_eq_some_iff.1 h
  have h1 : (W.setCell ⟨B, 0, none⟩ x).heap[B]? = some (.cells #[x, b] 25 (0, 0)) := by
    show (W.heap.modify B _)[B]? = _
    rw [Array.getElem?_eq_getElem (by rw [Array.size_modify]; exact hlt), Array.getElem_modify_self, hk]
    rfl
  obtain ⟨hlt2, hk2⟩ := Array.getElem?_eq_some_iff.1 h1
  show ((W.setCell ⟨B, 0, none⟩ x).heap.modify B _)[B]? = _
  rw [Array.getElem?_eq_getElem (by rw [Array.size_modify]; exact hlt2), Array.getElem_modify_self, hk2]
  rfl
theorem range2 {w : World} {B : Nat} {v0 v1 : Value} (h : w.heap[B]? = some (.cells #[v0, v1] 25 (0, 0))) : w.rangeAt B 0 [v0, v1] := by
  intro j v hv
  rw [Nat.zero_add]
  match j, hv with
  | 0, hv => simp at hv; subst hv; simp [World.cell?, h]
  | 1, hv => simp at hv; subst hv; simp [World.cell?, h]
  | j + 2, hv => simp at hv
theorem info25 : (Try.prog.info? 25).map (·.size) = some 2 := by kernel_rfl
theorem four (w : World) (o0 o1 o2 o3 : Obj) : ((((w.alloc o0).alloc o1).alloc o2).alloc o3).drew.heap[w.heap.size]? = some o0 ∧ ((((w.alloc o0).alloc o1).alloc o2).alloc o3).drew.heap[w.heap.size + 1]? = some o1 ∧ ((((w.alloc o0).alloc o1).alloc o2).alloc o3).drew.heap[w.heap.size + 1 + 1]? = some o2 ∧ ((((w.alloc o0).alloc o1).alloc o2).alloc o3).drew.heap[w.heap.size + 1 + 1 + 1]? = some o3 ∧ Below w.heap.size w ((((w.alloc o0).alloc o1).alloc o2).alloc o3).drew := by
  refine ⟨?_, ?_, ?_, ?_, ?_⟩
  · exact (Below.heap_alloc _ _ _ (by simp; omega)).trans ((Below.heap_alloc _ _ _ (by simp; omega)).trans ((Below.heap_alloc _ _ _ (by simp)).trans (World.alloc_heap_new w o0)))
  · have h := World.alloc_heap_new (w.alloc o0) o1
    rw [World.size_alloc] at h
    exact (Below.heap_alloc _ _ _ (by simp)).trans ((Below.heap_alloc _ _ _ (by simp)).trans h)
  · have h := World.alloc_heap_new ((w.alloc o0).alloc o1) o2
    rw [World.size_alloc, World.size_alloc] at h
    exact (Below.heap_alloc _ _ _ (by simp)).trans h
  · have h := World.alloc_heap_new (((w.alloc o0).alloc o1).alloc o2) o3
    rw [World.size_alloc, World.size_alloc, World.size_alloc] at h
    exact h
  · exact (((((Below.refl _ w).alloc (Nat.le_refl _) _).alloc (by simp) _).alloc (by simp; omega) _).alloc (by simp; omega) _).drew
theorem cells_of2 {W : World} {T : Nat} {x y : Value} (h : W.heap[T]? = some (.cells #[x, y] 25 (0, 0))) : W.cell? ⟨T, 0, none⟩ = some x ∧ W.cell? ⟨T, 1, none⟩ = some y := by
  constructor <;> simp [World.cell?, h]
theorem Made.grow {w W : World} {T g1 g2 nb nn : Nat} {f c : Nat → Nat} (h : Made w T g1 g2 nb nn f c W) (q : Nat) (os : Array Obj) : Made w T g1 g2 nb nn f c (grow (W.drewN q) os) := by
  obtain ⟨⟨a1, a2⟩, a3, a4, a5, a6, a7, a8⟩ := h
  have lT : T < W.heap.size := World.block_lt_of_cell? _ _ a1
  exact ⟨⟨cell_grown lT a1 q os, cell_grown lT a2 q os⟩, a3.same (heap_grow_old (W.drewN q) os a3.lt), a4.same (heap_grow_old (W.drewN q) os a4.lt), a5, a6, (heap_grow_old (W.drewN q) os (Array.getElem?_eq_some_iff.1 a7).1).trans a7, below_grow a8 a8.size q os⟩
theorem Made.setC {w W : World} {T g1 g2 nb nn : Nat} {f c : Nat → Nat} (h : Made w T g1 g2 nb nn f c W) (j v : Nat) (hj : j < nn) : Made w T g1 g2 nb nn f (upd c j v) (W.setCell ⟨g2, j, none⟩ (.int .u32 (v : Int))) := by
  obtain ⟨⟨a1, a2⟩, a3, a4, ⟨n1, n2, n3⟩, ⟨m1, m2, m3⟩, a7, a8⟩ := h
  have far : ∀ B, B ≠ g2 → (W.setCell ⟨g2, j, none⟩ (.int .u32 (v : Int))).heap[B]? = W.heap[B]? := fun B hB => Below.heap_setCell _ _ _ _ hB
  exact ⟨⟨(World.cell?_of_block (a := ⟨T, 0, none⟩) (far T n2)).trans a1, (World.cell?_of_block (a := ⟨T, 1, none⟩) (far T n2)).trans a2⟩, a3.same (far _ n3), a4.set j v hj, ⟨n1, n2, n3⟩, ⟨m1, m2, m3⟩, (far _ (by omega)).trans a7, a8.setCell (p := ⟨g2, j, none⟩) (by show w.heap.size ≤ g2; omega) _⟩
theorem Made.setB {w W : World} {T g1 g2 nb nn : Nat} {f c : Nat → Nat} (h : Made w T g1 g2 nb nn f c W) (j v : Nat) (hj : j < nb) : Made w T g1 g2 nb nn (upd f j v) c (W.setCell ⟨g1, j, none⟩ (.int .u32 (v : Int))) := by
  obtain ⟨⟨a1, a2⟩, a3, a4, ⟨n1, n2, n3⟩, ⟨m1, m2, m3⟩, a7, a8⟩ := h
  have far : ∀ B, B ≠ g1 → (W.setCell ⟨g1, j, none⟩ (.int .u32 (v : Int))).heap[B]? = W.heap[B]? := fun B hB => Below.heap_setCell _ _ _ _ hB
  exact ⟨⟨(World.cell?_of_block (a := ⟨T, 0, none⟩) (far T n1)).trans a1, (World.cell?_of_block (a := ⟨T, 1, none⟩) (far T n1)).trans a2⟩, a3.set j v hj, a4.same (far _ (Ne.symm n3)), ⟨n1, n2, n3⟩, ⟨m1, m2, m3⟩, (far _ (by omega)).trans a7, a8.setCell (p := ⟨g1, j, none⟩) (by show w.heap.size ≤ g1; omega) _⟩
theorem Made.drew {w W : World} {T g1 g2 nb nn : Nat} {f c : Nat → Nat} (h : Made w T g1 g2 nb nn f c W) : Made w T g1 g2 nb nn f c W.drew := by
  obtain ⟨a1, a3, a4, a5, a6, a7, a8⟩ := h
  exact ⟨a1, a3, a4, a5, a6, a7, a8.drew⟩

set_option maxRecDepth 100000 in
set_option maxHeartbeats 4000000 in
theorem build_any (an : Option Addr) (nn cn bn on nb : Nat) (nm : Nat → ByteArray) (hf : Nat → Nat) (w : World) (HEQ : Hid (∀ j, hs (nm j) % nb = hf j)) (hN : Names w an nn bn on nm) (h0 : 1 ≤ nb) (h1 : nb ≤ 256) (h2 : 1 ≤ nn) (h3 : nn ≤ 256) :
    Calls Try.prog 19 #[.slice an nn cn, .int .i64 (nb : Int)] w fun e w' => (∃ g1 g2, e = .returned (.tuple #[tbv (slv (some ⟨g1, 0, none⟩) nb nb) (slv (some ⟨g2, 0, none⟩) nn nn), .bool true]) ∧ RowB w' g1 nb (bldB hf nn) ∧ RowB w' g2 nn (bldC hf nn) ∧ g1 ≠ g2) ∧ Below w.heap.size w w' := by
  have eN : an = some ⟨bn, on, none⟩ := hN.en (by omega)
  subst eN
  have M1 := make_any nb h1
  have M2 := make_any nn h3
  obtain ⟨z1, hz1⟩ : ∃ z, rowA nb (fun _ => 0) = z := ⟨_, rfl⟩
  obtain ⟨z2, hz2⟩ : ∃ z, rowA nn (fun _ => 0) = z := ⟨_, rfl⟩
  rw [hz1] at M1
  rw [hz2] at M2
  have HZ1 : Hid (rowA nb (fun _ => 0) = z1) := hz1
  have HZ2 : Hid (rowA nn (fun _ => 0) = z2) := hz2
  clear hz1 hz2
  have i1 : ¬ (nb : Int) < 1 := by omega
  have i2 : ¬ (256 : Int) < (nb : Int) := by omega
  have i3 : ¬ (nn : Int) < 1 := by omega
  have i4 : ¬ (256 : Int) < (nn : Int) := by omega
  go_enter Try.func19, Try.ntmps19
  go_upto_region 3 with fail
  go_cut [6] (fun p wx => ∃ T g1 g2, p = .pointer (some ⟨T, 0, none⟩) ∧ Made w T g1 g2 nb nn (fun _ => 0) (fun _ => 0) wx)
  case first =>
    go_region
    all_goals
      go_wp2
      go_meet
    all_goals
      obtain ⟨p0, p1, p2, p3, hb⟩ := four w (Obj.cells #[Value.slice none 0 0, Value.slice none 0 0] 25) _ _ _
      first | refine ⟨_, w.heap.size + 1, w.heap.size + 1 + 1, rfl, cells_of2 (by first | exact p1 | exact p2 | exact p3), ?_, ?_, ?_, ?_, p0, hb⟩ | refine ⟨_, w.heap.size + 1, w.heap.size + 1 + 1 + 1, rfl, cells_of2 (by first | exact p1 | exact p2 | exact p3), ?_, ?_, ?_, ?_, p0, hb⟩ | refine ⟨_, w.heap.size + 1 + 1, w.heap.size + 1, rfl, cells_of2 (by first | exact p1 | exact p2 | exact p3), ?_, ?_, ?_, ?_, p0, hb⟩ | refine ⟨_, w.heap.size + 1 + 1, w.heap.size + 1 + 1 + 1, rfl, cells_of2 (by first | exact p1 | exact p2 | exact p3), ?_, ?_, ?_, ?_, p0, hb⟩ | refine ⟨_, w.heap.size + 1 + 1 + 1, w.heap.size + 1, rfl, cells_of2 (by first | exact p1 | exact p2 | exact p3), ?_, ?_, ?_, ?_, p0, hb⟩ | refine ⟨_, w.heap.size + 1 + 1 + 1, w.heap.size + 1 + 1, rfl, cells_of2 (by first | exact p1 | exact p2 | exact p3), ?_, ?_, ?_, ?_, p0, hb⟩
      · unfold RowB; rw [HZ1.out]; first | exact p1 | exact p2 | exact p3
      · unfold RowB; rw [HZ2.out]; first | exact p1 | exact p2 | exact p3
      · refine ⟨?_, ?_, ?_⟩ <;> omega
      · refine ⟨?_, ?_, ?_⟩ <;> omega
  case rest =>
  obtain ⟨T, g1, g2, rfl, hM⟩ := hcut
  clear M1 M2 HZ1 HZ2
  have HHF : Hid (∀ j, hs (nm j) % nb < nb) := fun j => Nat.mod_lt _ (by omega)
  have mixed : Try.prog.follows .mixedOrders = true := by kernel_rfl
  go_wp2
  go_loopw [7, 8] (fun i k wr => ∃ m : Nat, 1 ≤ m ∧ m ≤ nn ∧ i = .int .i64 m ∧ Hid (Made w T g1 g2 nb nn (bldB hf m) (bldC hf m) wr)) (fun i _ _ => nn - (intOf i).toNat)
  case atStart => exact ⟨1, Nat.le_refl _, h2, rfl, hM⟩
  case round =>
    obtain ⟨m, hm1, hm, rfl, HM⟩ := hrel
    by_cases hlt : m < nn
    · have hmi : (m : Int) < (nn : Int) := by omega
      have hm0 : (0 : Int) ≤ (m : Int) := by omega
      have hbn := hN.ln (by omega)
      have hB8 : Below w.heap.size w wr := HM.out.2.2.2.2.2.2
      have cn : wr.cell? ⟨bn, on + m, none⟩ = some (.string (nm m)) := (hB8.cell (p := ⟨bn, on + m, none⟩) hbn).trans (hN.rn m hlt)
      have lT : T < wr.heap.size := World.block_lt_of_cell? _ _ HM.out.1.1
      have T0 : ∀ q os, (grow (wr.drewN q) os).cell? ⟨T, 0, none⟩ = some (slv (some ⟨g1, 0, none⟩) nb nb) := cell_grown lT HM.out.1.1
      have T1 : ∀ q os, (grow (wr.drewN q) os).cell? ⟨T, 1, none⟩ = some (slv (some ⟨g2, 0, none⟩) nn nn) := cell_grown lT HM.out.1.2
      have CN : ∀ q os, (grow (wr.drewN q) os).cell? ⟨bn, on + m, none⟩ = some (.string (nm m)) := cell_grown (World.block_lt_of_cell? _ _ cn) cn
      have hms := hN.hs m hlt
      obtain ⟨r, hr⟩ : ∃ r, hf m = r := ⟨_, rfl⟩
      have hrl : r < nb := by rw [← hr, ← HEQ.out m]; exact HHF.out m
      have BK : ∀ q os, Calls Try.prog 46 #[.agg #[slv (some ⟨g1, 0, none⟩) nb nb, slv (some ⟨g2, 0, none⟩) nn nn], .string (nm m)] (grow (wr.drewN q) os) fun e w' => e = .returned (.int .u64 (r : Int)) ∧ ∃ k os', w' = grow ((grow (wr.drewN q) os).drewN k) os' := fun q os => (bucket_any (some ⟨g1, 0, none⟩) nb nb (slv (some ⟨g2, 0, none⟩) nn nn) (nm m) _ hms (by omega) (by omega)).mono (by
        rintro e w' ⟨rfl, k, rfl⟩
        exact ⟨by rw [HEQ.out m, hr], k, _, grow_of_alloc _ _ _⟩)
      have HR : Hid (hf m = r) := hr
      clear cn hr
      generalize nm m = nme at CN BK
      go_wp2
      refine wp_region_quiet_grown (by assumption) (by kernel_rfl) ?_
      repeat (go_big_quiet_step (first | (go_at_call 46; exact Calls.grown_of (BK _ _))))
      refine wpQuiet_nil ?_
      intro _ hw'
      obtain ⟨⟨nq, osq⟩, hw''⟩ := hw'
      subst hw''
      have HM2 : Hid (Made w T g1 g2 nb nn (bldB hf m) (bldC hf m) (grow (wr.drewN nq) osq)) := HM.out.grow nq osq
      clear T0 T1 CN BK
      generalize grow (wr.drewN nq) osq = W1 at HM2 ⊢
      have hri : (r : Int) < (nb : Int) := by omega
      have hr0 : (0 : Int) ≤ (r : Int) := by omega
      have v0 := HM2.out.1.1
      have v1 := HM2.out.1.2
      have v2 := HM2.out.2.1.cell r hrl
      have v3 := HM2.out.2.2.1.cell m hlt
      have v4 := HM2.out.2.2.1.fz m
      obtain ⟨bv, hbv⟩ : ∃ bv, bldB hf m r = bv := ⟨_, rfl⟩
      rw [hbv] at v2
      have HBV : Hid (bldB hf m r = bv) := hbv
      clear hbv
      go_upto_region 8 with fail
      go_cut [8] (fun k wx => k = .int .u64 (r : Int) ∧ Hid (Made w T g1 g2 nb nn (bldB hf m) (upd (bldC hf m) m bv) wx))
      case first =>
        go_region
        all_goals
          go_wp2
          go_meet
        all_goals exact ⟨rfl, (HM2.out.drew).setC m bv hlt⟩
      case rest =>
      obtain ⟨rfl, HM3⟩ := hcut
      clear v0 v1 v2 v3 v4
      have v0 := HM3.out.1.1
      have v2 := HM3.out.2.1.cell r hrl
      have v4 := HM3.out.2.1.fz r
      have e32 : IntKind.u32.wrap (m : Int) = (m : Int) := wrapu32 m (by omega)
      go_wp2
      refine ⟨⟨m + 1, by omega, by omega, by go_num, ?_⟩, by simp [intOf]; omega⟩
      have hm9 : m ≠ 0 := by omega
      have eB : bldB hf (m + 1) = upd (bldB hf m) r m := by simp only [bldB, if_neg hm9, HR.out]
      have eC : bldC hf (m + 1) = upd (bldC hf m) m bv := by simp only [bldC, if_neg hm9, HR.out, HBV.out]
      show Made _ _ _ _ _ _ _ _ _
      rw [eB, eC]
      exact HM3.out.setB r m hrl
    · have hmi : ¬ (m : Int) < (nn : Int) := by omega
      obtain rfl : m = nn := by omega
      have t0 := HM.out.1.1
      have t1 := HM.out.1.2
      have b0 : wr.cell? ⟨w.heap.size, 0, none⟩ = some (.slice none 0 0) := (cells_of2 HM.out.2.2.2.2.2.1).1
      have b1 : wr.cell? ⟨w.heap.size, 1, none⟩ = some (.slice none 0 0) := (cells_of2 HM.out.2.2.2.2.2.1).2
      have f0 : wr.frozen? ⟨w.heap.size, 0, none⟩ = false := by simp [World.frozen?, HM.out.2.2.2.2.2.1]
      have f1 : wr.frozen? ⟨w.heap.size, 1, none⟩ = false := by simp [World.frozen?, HM.out.2.2.2.2.2.1]
      go_wp2
      obtain ⟨_, mB, mC, ⟨_, _, n3⟩, ⟨_, m2, m3⟩, m7, m8⟩ := HM.out
      have far : ∀ B x y, B ≠ w.heap.size → ((wr.setCell ⟨w.heap.size, 0, none⟩ x).setCell ⟨w.heap.size, 1, none⟩ y).heap[B]? = wr.heap[B]? := fun B x y hB => (Below.heap_setCell _ _ _ _ hB).trans (Below.heap_setCell _ _ _ _ hB)
      refine ⟨rfl, _, results_cell_mid2 (fn := Try.f19) rfl _ _ w.heap.size 0 _ _ rfl (range2 (set2_blk m7 _ _)) Try.underlying25 rfl info25, ⟨g1, g2, rfl, mB.same (far _ _ _ (by omega)), mC.same (far _ _ _ (by omega)), n3⟩, ?_⟩
      exact (m8.setCell (p := ⟨w.heap.size, 0, none⟩) (Nat.le_refl _) _).setCell (p := ⟨w.heap.size, 1, none⟩) (Nat.le_refl _) _

end Go.Proofs.Ytffmkkfacemchaa
