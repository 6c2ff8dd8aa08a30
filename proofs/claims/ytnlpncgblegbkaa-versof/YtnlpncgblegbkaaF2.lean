/-
  Layer 12: Of of a symbol, of any table. No condition.
-/
import Derived.Test.YtnlpncgblegbkaaF1
namespace Go.Proofs.Ytnlpncgblegbkaa
open Go.RowKit Go.Shelf Go.Lib
set_option linter.unusedVariables false

theorem idxFrom_find {α : Type} [Inhabited α] (p : α → Bool) (x : α) : ∀ (zs : List α) (i : Nat),
    (idxByFrom (fun _ y => p y) x zs i = -1 ∧ zs.find? p = none) ∨ ∃ k, k < zs.length ∧ idxByFrom (fun _ y => p y) x zs i = ((i + k : Nat) : Int) ∧ zs.find? p = some zs[k]!
  | [], i => Or.inl ⟨rfl, rfl⟩
  | z :: zs, i => by
    by_cases h : p z = true
    · refine Or.inr ⟨0, by simp, ?_, ?_⟩
      · simp [idxByFrom, h]
      · simp [List.find?, h]
    · have h' : p z = false := by simpa using h
      rcases idxFrom_find p x zs (i + 1) with ⟨h1, h2⟩ | ⟨k, h1, h2, h3⟩
      · refine Or.inl ⟨?_, ?_⟩
        · simp [idxByFrom, h', h1]
        · simp [List.find?, h', h2]
      · refine Or.inr ⟨k + 1, by simp; omega, ?_, ?_⟩
        · simp only [idxByFrom, h']
          rw [if_neg (by simp), h2]
          congr 1
          omega
        · simp [List.find?, h', h3]
theorem idx_find {α : Type} [Inhabited α] (p : α → Bool) (zs : List α) :
    (idxBy (fun _ y => p y) zs default = -1 ∧ zs.find? p = none) ∨ ∃ k : Nat, k < zs.length ∧ idxBy (fun _ y => p y) zs default = (k : Int) ∧ zs.find? p = some zs[k]! := by
  have h := idxFrom_find p default zs 0
  unfold idxBy
  simpa only [Nat.zero_add] using h

/-- A slice of numbers: none at all, or cells that lie in w. -/
def SlI (w : World) (sl : Value) (zs : List Int) : Prop :=
  (zs = [] ∧ sl = .slice none 0 0) ∨ ∃ b off c, sl = .slice (some ⟨b, off, none⟩) zs.length c ∧ b < w.heap.size ∧ ∀ j, j < zs.length → w.cell? ⟨b, off + j, none⟩ = some (.int .i64 zs[j]!)

def ofF (ds : List Df) (ns : List Nd) (both : Int) : ByteArray × ByteArray × Bool :=
  match ds.find? (fun y => y.1 == bits BinOp.and IntKind.i64 both 32767) with
  | some d => (d.2, ⟨#[]⟩, bits BinOp.and IntKind.i64 both 32768 != 0)
  | none => match ns.find? (fun y => y.n == bits BinOp.and IntKind.i64 both 32767) with
    | some v => (v.name, v.file, bits BinOp.and IntKind.i64 both 32768 != 0)
    | none => (⟨#[]⟩, ⟨#[]⟩, bits BinOp.and IntKind.i64 both 32768 != 0)
def atB (ms : List Int) (i : Int) : Int := if 0 ≤ i ∧ i < ms.length then ms[i.toNat]! else 1

def ofP (w : World) (ds : List Df) (ns : List Nd) (both : Int) (e : Ending) (w' : World) : Prop :=
  e = .returned (.tuple #[.string (ofF ds ns both).1, .string (ofF ds ns both).2.1, .bool (ofF ds ns both).2.2]) ∧ Below w.heap.size w w'

set_option maxRecDepth 100000 in
set_option maxHeartbeats 4000000 in
theorem of_lo [Inhabited Nd] (ds : List Df) (ns : List Nd) (ms : List Int) (sd sn : Value) (ma : Option Addr) (mc : Nat) (i : Int) (w : World) (hd : SlD w sd ds) (hn : SlN w sn ns)
    (bd : ds.length ≤ 9223372036854775807) (bn : ns.length ≤ 9223372036854775807) (bm : ms.length ≤ 9223372036854775807) (hi : i < 0) :
    Calls Try.prog 17 #[.agg #[sd, sn, .slice ma ms.length mc], .int .i64 i] w (ofP w ds ns (1)) := by
  have GD := fun B W => indexD ds sd (bits BinOp.and IntKind.i64 1 32767) B W
  have GN := fun B W => indexN ns sn (bits BinOp.and IntKind.i64 1 32767) B W
  unfold ofP
  rcases idx_find (fun y : Df => y.1 == bits BinOp.and IntKind.i64 1 32767) ds with ⟨e1, f1⟩ | ⟨k, hk, e1, f1⟩
  · rcases idx_find (fun y : Nd => y.n == bits BinOp.and IntKind.i64 1 32767) ns with ⟨e2, f2⟩ | ⟨k, hk, e2, f2⟩
    · have hf : ofF ds ns (1) = (⟨#[]⟩, ⟨#[]⟩, bits BinOp.and IntKind.i64 1 32768 != 0) := by unfold ofF; rw [f1, f2]
      rw [hf]
      simp only [e1] at GD
      simp only [e2] at GN
      go_enter Try.func17, Try.ntmps17
      go_wp2_with (first
        | (go_at_call 31; refine (GD _ _ (hd.below (((Below.refl _ w).alloc (Nat.le_refl _) _).alloc (by simp) _)) bd (by simp) (by simp)).mono ?_; rintro e w' ⟨rfl, hb'⟩; have c0 : w'.cell? ⟨w.heap.size, 0, none⟩ = some (sd) := (hb'.cell (by simp; omega)).trans (by simp [go_sem]); have c1 : w'.cell? ⟨w.heap.size, 1, none⟩ = some (sn) := (hb'.cell (by simp; omega)).trans (by simp [go_sem]); have c9 : w'.cell? ⟨w.heap.size + 1, 0, none⟩ = some (.int .i64 (bits BinOp.and IntKind.i64 1 32767)) := (hb'.cell (by simp)).trans (by simp [go_sem]); have z9 : w.heap.size + 1 < w'.heap.size := Nat.lt_of_lt_of_le (by simp) hb'.size; have b1 : Below w.heap.size w w' := (((Below.refl _ w).alloc (Nat.le_refl _) _).alloc (by simp) _).trans (hb'.mono (by simp; omega)))
        | (go_at_call 33; refine (GN _ _ (hn.below b1) bn z9 c9).mono ?_; rintro e w'' ⟨rfl, hb''⟩; have b2 : Below w.heap.size w w'' := b1.trans (hb''.mono b1.size); have d1 : w''.cell? ⟨w.heap.size, 1, none⟩ = some (sn) := (hb''.cell (by simp; omega)).trans c1))
      go_ret3
      exact ⟨rfl, by assumption⟩
    · have hf : ofF ds ns (1) = (ns[k]!.name, ns[k]!.file, bits BinOp.and IntKind.i64 1 32768 != 0) := by unfold ofF; rw [f1, f2]
      rw [hf]
      have hn0 := hn
      rcases hn0 with ⟨rfl, rfl⟩ | ⟨b, off, c, rfl, hb, hc⟩
      · exact absurd hk (Nat.not_lt_zero _)
      have hkz : (k : Int) < (ns.length : Int) := by omega
      have hk0 : (0 : Int) ≤ (k : Int) := by omega
      have g1 := hc k hk 1 (.string ns[k]!.file) rfl
      have g2 := hc k hk 2 (.string ns[k]!.name) rfl
      clear hc hf f1 f2
      generalize ns[k]! = y at g1 g2 ⊢
      simp only [e1] at GD
      simp only [e2] at GN
      go_enter Try.func17, Try.ntmps17
      go_wp2_with (first
        | (go_at_call 31; refine (GD _ _ (hd.below (((Below.refl _ w).alloc (Nat.le_refl _) _).alloc (by simp) _)) bd (by simp) (by simp)).mono ?_; rintro e w' ⟨rfl, hb'⟩; have c0 : w'.cell? ⟨w.heap.size, 0, none⟩ = some (sd) := (hb'.cell (by simp; omega)).trans (by simp [go_sem]); have c1 : w'.cell? ⟨w.heap.size, 1, none⟩ = some (.slice (some ⟨b, off, none⟩) ns.length c) := (hb'.cell (by simp; omega)).trans (by simp [go_sem]); have c9 : w'.cell? ⟨w.heap.size + 1, 0, none⟩ = some (.int .i64 (bits BinOp.and IntKind.i64 1 32767)) := (hb'.cell (by simp)).trans (by simp [go_sem]); have z9 : w.heap.size + 1 < w'.heap.size := Nat.lt_of_lt_of_le (by simp) hb'.size; have b1 : Below w.heap.size w w' := (((Below.refl _ w).alloc (Nat.le_refl _) _).alloc (by simp) _).trans (hb'.mono (by simp; omega)))
        | (go_at_call 33; refine (GN _ _ (hn.below b1) bn z9 c9).mono ?_; rintro e w'' ⟨rfl, hb''⟩; have b2 : Below w.heap.size w w'' := b1.trans (hb''.mono b1.size); have d1 : w''.cell? ⟨w.heap.size, 1, none⟩ = some (.slice (some ⟨b, off, none⟩) ns.length c) := (hb''.cell (by simp; omega)).trans c1; have q1 : w''.cell? ⟨b, off + k * 4 + 1, none⟩ = some (.string y.file) := (b2.cell (p := ⟨b, off + k * 4 + 1, none⟩) hb).trans g1; have q2 : w''.cell? ⟨b, off + k * 4 + 2, none⟩ = some (.string y.name) := (b2.cell (p := ⟨b, off + k * 4 + 2, none⟩) hb).trans g2))
      go_quiet (fail)
      go_wp2
      go_ret3
      exact ⟨rfl, below_drewN b2 _⟩
  · have hf : ofF ds ns (1) = (ds[k]!.2, ⟨#[]⟩, bits BinOp.and IntKind.i64 1 32768 != 0) := by unfold ofF; rw [f1]
    rw [hf]
    have hd0 := hd
    rcases hd0 with ⟨rfl, rfl⟩ | ⟨b, off, c, rfl, hb, hc⟩
    · exact absurd hk (Nat.not_lt_zero _)
    · have hkz : (k : Int) < (ds.length : Int) := by omega
      have hk0 : (0 : Int) ≤ (k : Int) := by omega
      have g1 := hc k hk 1 (.string ds[k]!.2) rfl
      clear hc hf f1
      generalize ds[k]! = y at g1 ⊢
      have e2 : True := trivial
      simp only [e1] at GD
      go_enter Try.func17, Try.ntmps17
      go_wp2_with (first
        | (go_at_call 31; refine (GD _ _ (hd.below (((Below.refl _ w).alloc (Nat.le_refl _) _).alloc (by simp) _)) bd (by simp) (by simp)).mono ?_; rintro e w' ⟨rfl, hb'⟩; have c0 : w'.cell? ⟨w.heap.size, 0, none⟩ = some (.slice (some ⟨b, off, none⟩) ds.length c) := (hb'.cell (by simp; omega)).trans (by simp [go_sem]); have c1 : w'.cell? ⟨w.heap.size, 1, none⟩ = some (sn) := (hb'.cell (by simp; omega)).trans (by simp [go_sem]); have c9 : w'.cell? ⟨w.heap.size + 1, 0, none⟩ = some (.int .i64 (bits BinOp.and IntKind.i64 1 32767)) := (hb'.cell (by simp)).trans (by simp [go_sem]); have z9 : w.heap.size + 1 < w'.heap.size := Nat.lt_of_lt_of_le (by simp) hb'.size; have b1 : Below w.heap.size w w' := (((Below.refl _ w).alloc (Nat.le_refl _) _).alloc (by simp) _).trans (hb'.mono (by simp; omega)); have q1 : w'.cell? ⟨b, off + k * 2 + 1, none⟩ = some (.string y.2) := (b1.cell (p := ⟨b, off + k * 2 + 1, none⟩) hb).trans g1)
        | (go_at_call 33; refine (GN _ _ (hn.below b1) bn z9 c9).mono ?_; rintro e w'' ⟨rfl, hb''⟩; have b2 : Below w.heap.size w w'' := b1.trans (hb''.mono b1.size); have d1 : w''.cell? ⟨w.heap.size, 1, none⟩ = some (sn) := (hb''.cell (by simp; omega)).trans c1))
      go_ret3
      exact ⟨rfl, by assumption⟩


set_option maxRecDepth 100000 in
set_option maxHeartbeats 4000000 in
theorem of_hi [Inhabited Nd] (ds : List Df) (ns : List Nd) (ms : List Int) (sd sn : Value) (ma : Option Addr) (mc : Nat) (i : Int) (w : World) (hd : SlD w sd ds) (hn : SlN w sn ns)
    (bd : ds.length ≤ 9223372036854775807) (bn : ns.length ≤ 9223372036854775807) (bm : ms.length ≤ 9223372036854775807) (hi : 0 ≤ i) (hi2 : ¬ i < (ms.length : Int)) :
    Calls Try.prog 17 #[.agg #[sd, sn, .slice ma ms.length mc], .int .i64 i] w (ofP w ds ns (1)) := by
  have GD := fun B W => indexD ds sd (bits BinOp.and IntKind.i64 1 32767) B W
  have GN := fun B W => indexN ns sn (bits BinOp.and IntKind.i64 1 32767) B W
  unfold ofP
  rcases idx_find (fun y : Df => y.1 == bits BinOp.and IntKind.i64 1 32767) ds with ⟨e1, f1⟩ | ⟨k, hk, e1, f1⟩
  · rcases idx_find (fun y : Nd => y.n == bits BinOp.and IntKind.i64 1 32767) ns with ⟨e2, f2⟩ | ⟨k, hk, e2, f2⟩
    · have hf : ofF ds ns (1) = (⟨#[]⟩, ⟨#[]⟩, bits BinOp.and IntKind.i64 1 32768 != 0) := by unfold ofF; rw [f1, f2]
      rw [hf]
      simp only [e1] at GD
      simp only [e2] at GN
      go_enter Try.func17, Try.ntmps17
      go_wp2_with (first
        | (go_at_call 31; refine (GD _ _ (hd.below (((Below.refl _ w).alloc (Nat.le_refl _) _).alloc (by simp) _)) bd (by simp) (by simp)).mono ?_; rintro e w' ⟨rfl, hb'⟩; have c0 : w'.cell? ⟨w.heap.size, 0, none⟩ = some (sd) := (hb'.cell (by simp; omega)).trans (by simp [go_sem]); have c1 : w'.cell? ⟨w.heap.size, 1, none⟩ = some (sn) := (hb'.cell (by simp; omega)).trans (by simp [go_sem]); have c9 : w'.cell? ⟨w.heap.size + 1, 0, none⟩ = some (.int .i64 (bits BinOp.and IntKind.i64 1 32767)) := (hb'.cell (by simp)).trans (by simp [go_sem]); have z9 : w.heap.size + 1 < w'.heap.size := Nat.lt_of_lt_of_le (by simp) hb'.size; have b1 : Below w.heap.size w w' := (((Below.refl _ w).alloc (Nat.le_refl _) _).alloc (by simp) _).trans (hb'.mono (by simp; omega)))
        | (go_at_call 33; refine (GN _ _ (hn.below b1) bn z9 c9).mono ?_; rintro e w'' ⟨rfl, hb''⟩; have b2 : Below w.heap.size w w'' := b1.trans (hb''.mono b1.size); have d1 : w''.cell? ⟨w.heap.size, 1, none⟩ = some (sn) := (hb''.cell (by simp; omega)).trans c1))
      go_ret3
      exact ⟨rfl, by assumption⟩
    · have hf : ofF ds ns (1) = (ns[k]!.name, ns[k]!.file, bits BinOp.and IntKind.i64 1 32768 != 0) := by unfold ofF; rw [f1, f2]
      rw [hf]
      have hn0 := hn
      rcases hn0 with ⟨rfl, rfl⟩ | ⟨b, off, c, rfl, hb, hc⟩
      · exact absurd hk (Nat.not_lt_zero _)
      have hkz : (k : Int) < (ns.length : Int) := by omega
      have hk0 : (0 : Int) ≤ (k : Int) := by omega
      have g1 := hc k hk 1 (.string ns[k]!.file) rfl
      have g2 := hc k hk 2 (.string ns[k]!.name) rfl
      clear hc hf f1 f2
      generalize ns[k]! = y at g1 g2 ⊢
      simp only [e1] at GD
      simp only [e2] at GN
      go_enter Try.func17, Try.ntmps17
      go_wp2_with (first
        | (go_at_call 31; refine (GD _ _ (hd.below (((Below.refl _ w).alloc (Nat.le_refl _) _).alloc (by simp) _)) bd (by simp) (by simp)).mono ?_; rintro e w' ⟨rfl, hb'⟩; have c0 : w'.cell? ⟨w.heap.size, 0, none⟩ = some (sd) := (hb'.cell (by simp; omega)).trans (by simp [go_sem]); have c1 : w'.cell? ⟨w.heap.size, 1, none⟩ = some (.slice (some ⟨b, off, none⟩) ns.length c) := (hb'.cell (by simp; omega)).trans (by simp [go_sem]); have c9 : w'.cell? ⟨w.heap.size + 1, 0, none⟩ = some (.int .i64 (bits BinOp.and IntKind.i64 1 32767)) := (hb'.cell (by simp)).trans (by simp [go_sem]); have z9 : w.heap.size + 1 < w'.heap.size := Nat.lt_of_lt_of_le (by simp) hb'.size; have b1 : Below w.heap.size w w' := (((Below.refl _ w).alloc (Nat.le_refl _) _).alloc (by simp) _).trans (hb'.mono (by simp; omega)))
        | (go_at_call 33; refine (GN _ _ (hn.below b1) bn z9 c9).mono ?_; rintro e w'' ⟨rfl, hb''⟩; have b2 : Below w.heap.size w w'' := b1.trans (hb''.mono b1.size); have d1 : w''.cell? ⟨w.heap.size, 1, none⟩ = some (.slice (some ⟨b, off, none⟩) ns.length c) := (hb''.cell (by simp; omega)).trans c1; have q1 : w''.cell? ⟨b, off + k * 4 + 1, none⟩ = some (.string y.file) := (b2.cell (p := ⟨b, off + k * 4 + 1, none⟩) hb).trans g1; have q2 : w''.cell? ⟨b, off + k * 4 + 2, none⟩ = some (.string y.name) := (b2.cell (p := ⟨b, off + k * 4 + 2, none⟩) hb).trans g2))
      go_quiet (fail)
      go_wp2
      go_ret3
      exact ⟨rfl, below_drewN b2 _⟩
  · have hf : ofF ds ns (1) = (ds[k]!.2, ⟨#[]⟩, bits BinOp.and IntKind.i64 1 32768 != 0) := by unfold ofF; rw [f1]
    rw [hf]
    have hd0 := hd
    rcases hd0 with ⟨rfl, rfl⟩ | ⟨b, off, c, rfl, hb, hc⟩
    · exact absurd hk (Nat.not_lt_zero _)
    · have hkz : (k : Int) < (ds.length : Int) := by omega
      have hk0 : (0 : Int) ≤ (k : Int) := by omega
      have g1 := hc k hk 1 (.string ds[k]!.2) rfl
      clear hc hf f1
      generalize ds[k]! = y at g1 ⊢
      have e2 : True := trivial
      simp only [e1] at GD
      go_enter Try.func17, Try.ntmps17
      go_wp2_with (first
        | (go_at_call 31; refine (GD _ _ (hd.below (((Below.refl _ w).alloc (Nat.le_refl _) _).alloc (by simp) _)) bd (by simp) (by simp)).mono ?_; rintro e w' ⟨rfl, hb'⟩; have c0 : w'.cell? ⟨w.heap.size, 0, none⟩ = some (.slice (some ⟨b, off, none⟩) ds.length c) := (hb'.cell (by simp; omega)).trans (by simp [go_sem]); have c1 : w'.cell? ⟨w.heap.size, 1, none⟩ = some (sn) := (hb'.cell (by simp; omega)).trans (by simp [go_sem]); have c9 : w'.cell? ⟨w.heap.size + 1, 0, none⟩ = some (.int .i64 (bits BinOp.and IntKind.i64 1 32767)) := (hb'.cell (by simp)).trans (by simp [go_sem]); have z9 : w.heap.size + 1 < w'.heap.size := Nat.lt_of_lt_of_le (by simp) hb'.size; have b1 : Below w.heap.size w w' := (((Below.refl _ w).alloc (Nat.le_refl _) _).alloc (by simp) _).trans (hb'.mono (by simp; omega)); have q1 : w'.cell? ⟨b, off + k * 2 + 1, none⟩ = some (.string y.2) := (b1.cell (p := ⟨b, off + k * 2 + 1, none⟩) hb).trans g1)
        | (go_at_call 33; refine (GN _ _ (hn.below b1) bn z9 c9).mono ?_; rintro e w'' ⟨rfl, hb''⟩; have b2 : Below w.heap.size w w'' := b1.trans (hb''.mono b1.size); have d1 : w''.cell? ⟨w.heap.size, 1, none⟩ = some (sn) := (hb''.cell (by simp; omega)).trans c1))
      go_ret3
      exact ⟨rfl, by assumption⟩


set_option maxRecDepth 100000 in
set_option maxHeartbeats 4000000 in
theorem of_in [Inhabited Nd] (ds : List Df) (ns : List Nd) (ms : List Int) (sd sn : Value) (ma : Option Addr) (mc : Nat) (i : Int) (w : World) (hd : SlD w sd ds) (hn : SlN w sn ns)
    (bd : ds.length ≤ 9223372036854775807) (bn : ns.length ≤ 9223372036854775807) (bm : ms.length ≤ 9223372036854775807) (both : Int) (m : Nat) (hm : (m : Int) < (ms.length : Int)) (mb mo : Nat) (hma : ma = some ⟨mb, mo, none⟩) (hmb : mb < w.heap.size) (hmc : w.cell? ⟨mb, mo + m, none⟩ = some (.int .i64 both)) (hi : i = (m : Int)) :
    Calls Try.prog 17 #[.agg #[sd, sn, .slice ma ms.length mc], .int .i64 i] w (ofP w ds ns (both)) := by
  subst hma
  subst hi
  have hm0 : (0 : Int) ≤ (m : Int) := by omega
  have GD := fun B W => indexD ds sd (bits BinOp.and IntKind.i64 both 32767) B W
  have GN := fun B W => indexN ns sn (bits BinOp.and IntKind.i64 both 32767) B W
  unfold ofP
  rcases idx_find (fun y : Df => y.1 == bits BinOp.and IntKind.i64 both 32767) ds with ⟨e1, f1⟩ | ⟨k, hk, e1, f1⟩
  · rcases idx_find (fun y : Nd => y.n == bits BinOp.and IntKind.i64 both 32767) ns with ⟨e2, f2⟩ | ⟨k, hk, e2, f2⟩
    · have hf : ofF ds ns (both) = (⟨#[]⟩, ⟨#[]⟩, bits BinOp.and IntKind.i64 both 32768 != 0) := by unfold ofF; rw [f1, f2]
      rw [hf]
      simp only [e1] at GD
      simp only [e2] at GN
      go_enter Try.func17, Try.ntmps17
      go_wp2_with (first
        | (go_at_call 31; refine (GD _ _ (hd.below (((Below.refl _ w).alloc (Nat.le_refl _) _).alloc (by simp) _)) bd (by simp) (by simp)).mono ?_; rintro e w' ⟨rfl, hb'⟩; have c0 : w'.cell? ⟨w.heap.size, 0, none⟩ = some (sd) := (hb'.cell (by simp; omega)).trans (by simp [go_sem]); have c1 : w'.cell? ⟨w.heap.size, 1, none⟩ = some (sn) := (hb'.cell (by simp; omega)).trans (by simp [go_sem]); have c9 : w'.cell? ⟨w.heap.size + 1, 0, none⟩ = some (.int .i64 (bits BinOp.and IntKind.i64 both 32767)) := (hb'.cell (by simp)).trans (by simp [go_sem]); have z9 : w.heap.size + 1 < w'.heap.size := Nat.lt_of_lt_of_le (by simp) hb'.size; have b1 : Below w.heap.size w w' := (((Below.refl _ w).alloc (Nat.le_refl _) _).alloc (by simp) _).trans (hb'.mono (by simp; omega)))
        | (go_at_call 33; refine (GN _ _ (hn.below b1) bn z9 c9).mono ?_; rintro e w'' ⟨rfl, hb''⟩; have b2 : Below w.heap.size w w'' := b1.trans (hb''.mono b1.size); have d1 : w''.cell? ⟨w.heap.size, 1, none⟩ = some (sn) := (hb''.cell (by simp; omega)).trans c1))
      go_ret3
      exact ⟨rfl, by assumption⟩
    · have hf : ofF ds ns (both) = (ns[k]!.name, ns[k]!.file, bits BinOp.and IntKind.i64 both 32768 != 0) := by unfold ofF; rw [f1, f2]
      rw [hf]
      have hn0 := hn
      rcases hn0 with ⟨rfl, rfl⟩ | ⟨b, off, c, rfl, hb, hc⟩
      · exact absurd hk (Nat.not_lt_zero _)
      have hkz : (k : Int) < (ns.length : Int) := by omega
      have hk0 : (0 : Int) ≤ (k : Int) := by omega
      have g1 := hc k hk 1 (.string ns[k]!.file) rfl
      have g2 := hc k hk 2 (.string ns[k]!.name) rfl
      clear hc hf f1 f2
      generalize ns[k]! = y at g1 g2 ⊢
      simp only [e1] at GD
      simp only [e2] at GN
      go_enter Try.func17, Try.ntmps17
      go_wp2_with (first
        | (go_at_call 31; refine (GD _ _ (hd.below (((Below.refl _ w).alloc (Nat.le_refl _) _).alloc (by simp) _)) bd (by simp) (by simp)).mono ?_; rintro e w' ⟨rfl, hb'⟩; have c0 : w'.cell? ⟨w.heap.size, 0, none⟩ = some (sd) := (hb'.cell (by simp; omega)).trans (by simp [go_sem]); have c1 : w'.cell? ⟨w.heap.size, 1, none⟩ = some (.slice (some ⟨b, off, none⟩) ns.length c) := (hb'.cell (by simp; omega)).trans (by simp [go_sem]); have c9 : w'.cell? ⟨w.heap.size + 1, 0, none⟩ = some (.int .i64 (bits BinOp.and IntKind.i64 both 32767)) := (hb'.cell (by simp)).trans (by simp [go_sem]); have z9 : w.heap.size + 1 < w'.heap.size := Nat.lt_of_lt_of_le (by simp) hb'.size; have b1 : Below w.heap.size w w' := (((Below.refl _ w).alloc (Nat.le_refl _) _).alloc (by simp) _).trans (hb'.mono (by simp; omega)))
        | (go_at_call 33; refine (GN _ _ (hn.below b1) bn z9 c9).mono ?_; rintro e w'' ⟨rfl, hb''⟩; have b2 : Below w.heap.size w w'' := b1.trans (hb''.mono b1.size); have d1 : w''.cell? ⟨w.heap.size, 1, none⟩ = some (.slice (some ⟨b, off, none⟩) ns.length c) := (hb''.cell (by simp; omega)).trans c1; have q1 : w''.cell? ⟨b, off + k * 4 + 1, none⟩ = some (.string y.file) := (b2.cell (p := ⟨b, off + k * 4 + 1, none⟩) hb).trans g1; have q2 : w''.cell? ⟨b, off + k * 4 + 2, none⟩ = some (.string y.name) := (b2.cell (p := ⟨b, off + k * 4 + 2, none⟩) hb).trans g2))
      go_quiet (fail)
      go_wp2
      go_ret3
      exact ⟨rfl, below_drewN b2 _⟩
  · have hf : ofF ds ns (both) = (ds[k]!.2, ⟨#[]⟩, bits BinOp.and IntKind.i64 both 32768 != 0) := by unfold ofF; rw [f1]
    rw [hf]
    have hd0 := hd
    rcases hd0 with ⟨rfl, rfl⟩ | ⟨b, off, c, rfl, hb, hc⟩
    · exact absurd hk (Nat.not_lt_zero _)
    · have hkz : (k : Int) < (ds.length : Int) := by omega
      have hk0 : (0 : Int) ≤ (k : Int) := by omega
      have g1 := hc k hk 1 (.string ds[k]!.2) rfl
      clear hc hf f1
      generalize ds[k]! = y at g1 ⊢
      have e2 : True := trivial
      simp only [e1] at GD
      go_enter Try.func17, Try.ntmps17
      go_wp2_with (first
        | (go_at_call 31; refine (GD _ _ (hd.below (((Below.refl _ w).alloc (Nat.le_refl _) _).alloc (by simp) _)) bd (by simp) (by simp)).mono ?_; rintro e w' ⟨rfl, hb'⟩; have c0 : w'.cell? ⟨w.heap.size, 0, none⟩ = some (.slice (some ⟨b, off, none⟩) ds.length c) := (hb'.cell (by simp; omega)).trans (by simp [go_sem]); have c1 : w'.cell? ⟨w.heap.size, 1, none⟩ = some (sn) := (hb'.cell (by simp; omega)).trans (by simp [go_sem]); have c9 : w'.cell? ⟨w.heap.size + 1, 0, none⟩ = some (.int .i64 (bits BinOp.and IntKind.i64 both 32767)) := (hb'.cell (by simp)).trans (by simp [go_sem]); have z9 : w.heap.size + 1 < w'.heap.size := Nat.lt_of_lt_of_le (by simp) hb'.size; have b1 : Below w.heap.size w w' := (((Below.refl _ w).alloc (Nat.le_refl _) _).alloc (by simp) _).trans (hb'.mono (by simp; omega)); have q1 : w'.cell? ⟨b, off + k * 2 + 1, none⟩ = some (.string y.2) := (b1.cell (p := ⟨b, off + k * 2 + 1, none⟩) hb).trans g1)
        | (go_at_call 33; refine (GN _ _ (hn.below b1) bn z9 c9).mono ?_; rintro e w'' ⟨rfl, hb''⟩; have b2 : Below w.heap.size w w'' := b1.trans (hb''.mono b1.size); have d1 : w''.cell? ⟨w.heap.size, 1, none⟩ = some (sn) := (hb''.cell (by simp; omega)).trans c1))
      go_ret3
      exact ⟨rfl, by assumption⟩


theorem tof_any [Inhabited Nd] (ds : List Df) (ns : List Nd) (ms : List Int) (sd sn sm : Value) (i : Int) (w : World) (hd : SlD w sd ds) (hn : SlN w sn ns) (hm : SlI w sm ms)
    (bd : ds.length ≤ 9223372036854775807) (bn : ns.length ≤ 9223372036854775807) (bm : ms.length ≤ 9223372036854775807) :
    Calls Try.prog 17 #[.agg #[sd, sn, sm], .int .i64 i] w (ofP w ds ns (atB ms i)) := by
  have hs : ∃ a c, sm = .slice a ms.length c := by
    rcases hm with ⟨rfl, rfl⟩ | ⟨b, off, c, rfl, _⟩
    · exact ⟨none, 0, rfl⟩
    · exact ⟨_, _, rfl⟩
  unfold atB
  by_cases h0 : 0 ≤ i
  · by_cases h1 : i < (ms.length : Int)
    · rw [if_pos ⟨h0, h1⟩]
      rcases hm with ⟨rfl, rfl⟩ | ⟨b, off, c, rfl, hb, hc⟩
      · simp at h1; omega
      · exact of_in ds ns ms sd sn _ c i w hd hn bd bn bm _ i.toNat (by omega) b off rfl hb (hc i.toNat (by omega)) (by omega)
    · rw [if_neg (fun h => h1 h.2)]
      obtain ⟨a, c, rfl⟩ := hs
      exact of_hi ds ns ms sd sn a c i w hd hn bd bn bm h0 h1
  · rw [if_neg (fun h => h0 h.1)]
    obtain ⟨a, c, rfl⟩ := hs
    exact of_lo ds ns ms sd sn a c i w hd hn bd bn bm (by omega)
end Go.Proofs.Ytnlpncgblegbkaa
