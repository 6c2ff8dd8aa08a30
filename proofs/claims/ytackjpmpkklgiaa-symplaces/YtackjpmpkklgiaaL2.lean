/-
  The statement SymPlaces: its walk.
-/
import Derived.Test.YtackjpmpkklgiaaL3
import Derived.Deep.DeepCutAuto
import Derived.Deep.QuietTactic
import Derived.BigQuiet
import Derived.Deep.RegionWith
import Derived.BigRegion
namespace Go.Proofs.Ytackjpmpkklgiaa
open Go.RowKit
set_option linter.unusedVariables false

/-- An element of the argument: its six cells. -/
structure R6 where
  b : Int
  k : Int
  v : Int
  d : Bool
  x : Nat
  z : Nat
def R6.ok (r : R6) : Prop := r.x < 18446744073709551616 ∧ r.z < 18446744073709551616
def LsO (W : World) (g o : Nat) (r : R6) : Prop :=
  W.cell? ⟨g, o, none⟩ = some (.int .i64 r.b) ∧ W.cell? ⟨g, o + 1, none⟩ = some (.int .i64 r.k) ∧ W.cell? ⟨g, o + 2, none⟩ = some (.int .i64 r.v) ∧ W.cell? ⟨g, o + 3, none⟩ = some (.bool r.d) ∧ W.cell? ⟨g, o + 4, none⟩ = some (.int .u64 (r.x : Int)) ∧ W.cell? ⟨g, o + 5, none⟩ = some (.int .u64 (r.z : Int))
theorem LsO.next {W W' : World} {g o : Nat} {r : R6} (hb : Below W.heap.size W W') (h : LsO W g o r) : LsO W' g o r := by
  have k : ∀ {a : Addr} {v}, W.cell? a = some v → W'.cell? a = some v := fun hc => (hb.cell (World.block_lt_of_cell? _ _ hc)).trans hc
  obtain ⟨h0, h1, h2, h3, h4, h5⟩ := h
  exact ⟨k h0, k h1, k h2, k h3, k h4, k h5⟩
theorem ls_next {W W' : World} {g o : Nat} {v0 v1 v2 v3 v4 v5 : Value} (hb : Below W.heap.size W W')
    (h : W.cell? ⟨g, o, none⟩ = some v0 ∧ W.cell? ⟨g, o + 1, none⟩ = some v1 ∧ W.cell? ⟨g, o + 2, none⟩ = some v2 ∧ W.cell? ⟨g, o + 3, none⟩ = some v3 ∧ W.cell? ⟨g, o + 4, none⟩ = some v4 ∧ W.cell? ⟨g, o + 5, none⟩ = some v5) :
    W'.cell? ⟨g, o, none⟩ = some v0 ∧ W'.cell? ⟨g, o + 1, none⟩ = some v1 ∧ W'.cell? ⟨g, o + 2, none⟩ = some v2 ∧ W'.cell? ⟨g, o + 3, none⟩ = some v3 ∧ W'.cell? ⟨g, o + 4, none⟩ = some v4 ∧ W'.cell? ⟨g, o + 5, none⟩ = some v5 := by
  have k : ∀ {a : Addr} {v}, W.cell? a = some v → W'.cell? a = some v := fun hc => (hb.cell (World.block_lt_of_cell? _ _ hc)).trans hc
  obtain ⟨h0, h1, h2, h3, h4, h5⟩ := h
  exact ⟨k h0, k h1, k h2, k h3, k h4, k h5⟩
theorem ls_alloc {W : World} {o : Obj} {g q : Nat} {v0 v1 v2 v3 v4 v5 : Value}
    (h : W.drew.cell? ⟨g, q, none⟩ = some v0 ∧ W.drew.cell? ⟨g, q + 1, none⟩ = some v1 ∧ W.drew.cell? ⟨g, q + 2, none⟩ = some v2 ∧ W.drew.cell? ⟨g, q + 3, none⟩ = some v3 ∧ W.drew.cell? ⟨g, q + 4, none⟩ = some v4 ∧ W.drew.cell? ⟨g, q + 5, none⟩ = some v5) :
    (W.alloc o).drew.cell? ⟨g, q, none⟩ = some v0 ∧ (W.alloc o).drew.cell? ⟨g, q + 1, none⟩ = some v1 ∧ (W.alloc o).drew.cell? ⟨g, q + 2, none⟩ = some v2 ∧ (W.alloc o).drew.cell? ⟨g, q + 3, none⟩ = some v3 ∧ (W.alloc o).drew.cell? ⟨g, q + 4, none⟩ = some v4 ∧ (W.alloc o).drew.cell? ⟨g, q + 5, none⟩ = some v5 :=
  ls_next (W := W.drew) (W' := (W.alloc o).drew) (show Below W.drew.heap.size W.drew (W.drew.alloc o) from (Below.refl W.drew.heap.size W.drew).alloc (Nat.le_refl _) o) h
theorem cells7_new (W : World) (s : Sy) : ∀ (j : Nat) (u : Value), s.cells[j]? = some u → ((W.alloc s.box).alloc s.box).drew.cell? ((⟨W.heap.size + 1, 0, none⟩ : Addr).add j) = some u := by
  intro j u hu
  have k := SyAt.new (W.alloc s.box) s
  rw [World.size_alloc] at k
  obtain ⟨h0, h1, h2, h3, h4, h5, h6⟩ := k
  match j, hu with
  | 0, hu => simp [Sy.cells] at hu; subst hu; exact h0
  | 1, hu => simp [Sy.cells] at hu; subst hu; exact h1
  | 2, hu => simp [Sy.cells] at hu; subst hu; exact h2
  | 3, hu => simp [Sy.cells] at hu; subst hu; exact h3
  | 4, hu => simp [Sy.cells] at hu; subst hu; exact h4
  | 5, hu => simp [Sy.cells] at hu; subst hu; exact h5
  | 6, hu => simp [Sy.cells] at hu; subst hu; exact h6
  | j + 7, hu => simp [Sy.cells] at hu
theorem cells7_one (s : Sy) : ∀ u ∈ s.cells, u.oneCell' = true := by
  intro u hu
  simp [Sy.cells] at hu
  rcases hu with rfl | rfl | rfl | rfl | rfl | rfl | rfl <;> rfl
theorem ownBlock_in {W : World} {base n size : Nat} {e : TypeId} {v : Value} {xs : List Value} (h : W.ownsRow base e size v n xs) : ∀ q, v.ownBlock = some q → base ≤ q ∧ q < W.heap.size := by
  intro q hq
  rcases h.2 with ⟨rfl, h1⟩ | ⟨g, cap, cur, rfl, hb, hg, _⟩
  · cases hq
  · cases hq; exact ⟨hb, (Array.getElem?_eq_some_iff.1 hg).1⟩
theorem SyAt.kept {W w2 : World} {row : Option Nat} {s : Sy} (hg : ((W.alloc s.box).alloc s.box).drew.grownBy w2 row) (hr : ∀ q, row = some q → q < W.heap.size) : SyAt w2 W.heap.size s := by
  have k := (SyAt.new W s).alloc s.box
  have hb := hg.block W.heap.size (by show _ < ((W.alloc s.box).alloc s.box).heap.size; simp; omega) (fun e => by have := hr _ e.symm; omega)
  have key : ∀ j, w2.cell? ⟨W.heap.size, j, none⟩ = ((W.alloc s.box).alloc s.box).cell? ⟨W.heap.size, j, none⟩ := fun j => World.cell?_of_block (a := ⟨W.heap.size, j, none⟩) hb
  obtain ⟨h0, h1, h2, h3, h4, h5, h6⟩ := k
  exact ⟨(key 0).trans h0, (key 1).trans h1, (key 2).trans h2, (key 3).trans h3, (key 4).trans h4, (key 5).trans h5, (key 6).trans h6⟩
theorem ownsRow_below {W W' : World} {base n size : Nat} {e : TypeId} {v : Value} {xs : List Value} (h : W.ownsRow base e size v n xs) (hb : Below W.heap.size W W') : W'.ownsRow base e size v n xs := by
  refine ⟨h.1, ?_⟩
  rcases h.2 with ⟨rfl, h1⟩ | ⟨g, cap, cur, rfl, h2, h3, h4⟩
  · exact .inl ⟨rfl, h1⟩
  · exact .inr ⟨g, cap, cur, rfl, h2, (hb.block g (Array.getElem?_eq_some_iff.1 h3).1).trans h3, h4⟩
theorem bl_next {V W W' : World} (hb : Below W.heap.size W W') (h : Below V.heap.size V W) : Below V.heap.size V W' := h.trans (hb.mono h.size)
theorem bl_alloc {V W : World} {o : Obj} (h : Below V.heap.size V W) : Below V.heap.size V (W.alloc o) := h.alloc h.size o
theorem fbd_next {X w7 : World} (hb : Below ((X.alloc (fbox 0 0)).drew).heap.size (X.alloc (fbox 0 0)).drew w7) :
    (w7.cell? ⟨X.heap.size, 0, none⟩ = some (.int .i64 0) ∧ w7.cell? ⟨X.heap.size, 1, none⟩ = some (.int .u64 0) ∧ w7.cell? ⟨X.heap.size, 2, none⟩ = some (.string ⟨#[]⟩)) ∧ (w7.frozen? ⟨X.heap.size, 0, none⟩ = false ∧ w7.frozen? ⟨X.heap.size, 1, none⟩ = false ∧ w7.frozen? ⟨X.heap.size, 2, none⟩ = false) ∧ X.heap.size < w7.heap.size ∧ Below X.heap.size X w7 := by
  have hs : X.heap.size < ((X.alloc (fbox 0 0)).drew).heap.size := by show _ < (X.alloc (fbox 0 0)).heap.size; simp
  have hB : Below X.heap.size X (X.alloc (fbox 0 0)).drew := ((Below.refl _ X).alloc (Nat.le_refl _) _).drew
  refine ⟨⟨?_, ?_, ?_⟩, ⟨?_, ?_, ?_⟩, Nat.lt_of_lt_of_le hs hb.size, hB.trans (hb.mono hB.size)⟩
  · exact (hb.cell (p := ⟨X.heap.size, 0, none⟩) hs).trans (by simp [go_sem])
  · exact (hb.cell (p := ⟨X.heap.size, 1, none⟩) hs).trans (by simp [go_sem])
  · exact (hb.cell (p := ⟨X.heap.size, 2, none⟩) hs).trans (by simp [go_sem])
  · exact (hb.frozen (p := ⟨X.heap.size, 0, none⟩) hs).trans (by simp [go_sem])
  · exact (hb.frozen (p := ⟨X.heap.size, 1, none⟩) hs).trans (by simp [go_sem])
  · exact (hb.frozen (p := ⟨X.heap.size, 2, none⟩) hs).trans (by simp [go_sem])
theorem fbd_elim {X w7 : World} {C : Prop} (hb : Below ((X.alloc (fbox 0 0)).drew).heap.size (X.alloc (fbox 0 0)).drew w7)
    (k : w7.cell? ⟨X.heap.size, 0, none⟩ = some (.int .i64 0) → w7.cell? ⟨X.heap.size, 1, none⟩ = some (.int .u64 0) → w7.cell? ⟨X.heap.size, 2, none⟩ = some (.string ⟨#[]⟩) → w7.frozen? ⟨X.heap.size, 0, none⟩ = false → w7.frozen? ⟨X.heap.size, 1, none⟩ = false → w7.frozen? ⟨X.heap.size, 2, none⟩ = false → X.heap.size < w7.heap.size → Hid (Below X.heap.size X w7) → C) : C := by
  obtain ⟨⟨z0, z1, z2⟩, ⟨y0, y1, y2⟩, zs, hB⟩ := fbd_next hb
  exact k z0 z1 z2 y0 y1 y2 zs hB
theorem plain_below {X w7 : World} {o : Obj} (hb : Below X.drew.heap.size X.drew w7) : Below X.heap.size X (w7.alloc o) :=
  (((Below.refl _ X).drew).trans hb).alloc hb.size o
theorem set3_flt {X w7 : World} {c a : Int} (h : (w7.cell? ⟨X.heap.size, 0, none⟩ = some (.int .i64 0) ∧ w7.cell? ⟨X.heap.size, 1, none⟩ = some (.int .u64 0) ∧ w7.cell? ⟨X.heap.size, 2, none⟩ = some (.string ⟨#[]⟩))) (hb : Below X.heap.size X w7) (V : World) (hV : V = ((w7.setCell ⟨X.heap.size, 0, none⟩ (.int .i64 c)).setCell ⟨X.heap.size, 1, none⟩ (.int .u64 a)).setCell ⟨X.heap.size, 2, none⟩ (.string ⟨#[]⟩)) :
    V.cell? ⟨X.heap.size, 0, none⟩ = some (.int .i64 c) ∧ V.cell? ⟨X.heap.size, 1, none⟩ = some (.int .u64 a) ∧ Below X.heap.size X V := by
  subst hV
  have k := set3_cells (.int .i64 c) (.int .u64 a) (.string ⟨#[]⟩) h.1 h.2.1 h.2.2
  exact ⟨k.1, k.2.1, ((hb.setCell (Nat.le_refl _) _).setCell (Nat.le_refl _) _).setCell (Nat.le_refl _) _⟩
theorem mask_i64 (z : Int) (j : Nat) (hj : j ≤ 15) : bits BinOp.and IntKind.i64 z ((2 ^ j - 1 : Nat) : Int) = (((z % 18446744073709551616).toNat % 2 ^ j : Nat) : Int) := by
  have h2 : 2 ^ j ≤ 2 ^ 15 := Nat.pow_le_pow_right (by omega) hj
  have e : ((BitVec.ofInt 64 z) &&& (BitVec.ofInt 64 ((2 ^ j - 1 : Nat) : Int))).toNat = (z % 18446744073709551616).toNat % 2 ^ j := by
    rw [BitVec.toNat_and]
    have e1 : (BitVec.ofInt 64 z).toNat = (z % 18446744073709551616).toNat := by simp
    have e2 : (BitVec.ofInt 64 ((2 ^ j - 1 : Nat) : Int)).toNat = 2 ^ j - 1 := by
      simp; omega
    rw [e1, e2, Nat.and_two_pow_sub_one_eq_mod]
  show IntKind.i64.wrap (((BitVec.ofInt 64 z) &&& (BitVec.ofInt 64 ((2 ^ j - 1 : Nat) : Int))).toNat : Int) = _
  rw [e, IntKind.wrap_i64]
  have := Nat.mod_lt (z % 18446744073709551616).toNat (show 0 < 2 ^ j from Nat.two_pow_pos j)
  omega
/-- What the statement makes of an element. -/
def R6.e (r : R6) : E6 := ⟨(r.b % 18446744073709551616).toNat % 2, (r.k % 18446744073709551616).toNat % 16, (r.v % 18446744073709551616).toNat % 4, r.d, r.x, r.z⟩
theorem R6.e_ok {r : R6} (h : r.ok) : r.e.ok := ⟨by show _ % 2 ≤ 2; omega, by show _ % 16 ≤ 15; omega, by show _ % 4 ≤ 3; omega, h.1, h.2⟩

set_option maxRecDepth 100000 in
set_option maxHeartbeats 8000000 in
theorem places_walk (f : Nat → R6) (b off len cap K : Nat) (bad : Int) (w : World) (hlen : len ≤ cap) (hcap : cap ≤ 9223372036854775807) (hl0 : 0 < len) (hK : K = min len 30) (hf : ∀ j, j < len → (f j).ok)
    (c1 : ∀ j, j < len → LsO w b (off + j * 6) (f j)) :
    Calls Try.prog 6 #[.slice (some ⟨b, off, none⟩) len cap, .int .i64 bad] w fun e w' => e = .returned (.bool true) ∧ Below w.heap.size w w' := by
  have HC : Hid (∀ j, j < len → LsO w b (off + j * 6) (f j)) := c1
  have HF : Hid (∀ j, j < len → (f j).ok) := hf
  clear c1 hf
  have hK20 : K ≤ 30 := by omega
  have hKl : K ≤ len := by omega
  have hK0 : 0 < K := by omega
  have hKx : K = len ∨ K = 30 := by omega
  obtain ⟨i0, hi0, hz0, hz1, hz2⟩ := info_parts Try.info35
  go_enter Try.func6, Try.ntmps6
  go_wp2_with (go_at_call 9; refine (speaks_any _).mono ?_; rintro r w1 ⟨rfl, hb1⟩)
  clear hK
  go_loopw [5, 6, 7] (fun v s i wr => ∃ k : Nat, ∃ S : ByteArray, k ≤ K ∧ i = .int .i64 k ∧ s = .string S ∧ Hid (S = Bs (fun j => (f j).e) k) ∧ wr.ownsRow w1.heap.size 35 7 v k (Cs (fun j => (f j).e) k) ∧ Below w.heap.size w wr ∧ w1.heap.size ≤ wr.heap.size) (fun _ _ i _ => K - (intOf i).toNat)
  case atStart => exact ⟨0, _, Nat.zero_le _, rfl, rfl, rfl, World.ownsRow_nil _ _ _ _, hb1, Nat.le_refl _⟩
  case round =>
    obtain ⟨k, S, hk, rfl, rfl, HS, hrow, hbr, h1⟩ := hrel
    by_cases hlt : k < K
    · have hki : (k : Int) < (len : Int) := by omega
      have hk30 : (k : Int) < 30 := by omega
      obtain ⟨d0, d1, d2, d3, d4, d5⟩ := (HC.out k (by omega)).next (W' := wr) (⟨hbr.os, hbr.tape, hbr.output, hbr.size, hbr.block⟩)
      have hok := HF.out k (by omega)
      have HN : Hid (Bs (fun j => (f j).e) (k + 1) = S ++ (f k).e.bytes ∧ Cs (fun j => (f j).e) (k + 1) = Cs (fun j => (f j).e) k ++ (f k).e.sy.cells) := ⟨by rw [HS.out]; rfl, rfl⟩
      have hSz : S.size = 24 * k := by rw [HS.out]; exact Bs_size _ _
      generalize f k = r at d0 d1 d2 d3 d4 d5 hok HN
      obtain ⟨rb, rk, rv, rd, rx, rz⟩ := r
      dsimp only at d0 d1 d2 d3 d4 d5
      have m0 := mask_i64 rb 1 (by omega)
      have m1 := mask_i64 rk 4 (by omega)
      have m2 := mask_i64 rv 2 (by omega)
      obtain ⟨xb, hxb⟩ : ∃ x, (rb % 18446744073709551616).toNat % 2 ^ 1 = x := ⟨_, rfl⟩
      obtain ⟨xk, hxk⟩ : ∃ x, (rk % 18446744073709551616).toNat % 2 ^ 4 = x := ⟨_, rfl⟩
      obtain ⟨xv, hxv⟩ : ∃ x, (rv % 18446744073709551616).toNat % 2 ^ 2 = x := ⟨_, rfl⟩
      rw [hxb] at m0
      rw [hxk] at m1
      rw [hxv] at m2
      have eE : (⟨rb, rk, rv, rd, rx, rz⟩ : R6).e = ⟨xb, xk, xv, rd, rx, rz⟩ := by rw [← hxb, ← hxk, ← hxv]; rfl
      have PA := fun W => put_any ⟨#[120]⟩ xb xk xv rx rz 0 rd W (by omega) (by omega) (by omega) hok.1 hok.2 (by omega)
      change ∀ W, Calls Try.prog 15 #[_, .int .u32 0] W _ at PA
      obtain ⟨T, hT⟩ : ∃ T, symB xb xk xv rd rx rz 0 = T := ⟨_, rfl⟩
      have hTz : T.size = 24 := by rw [← hT]; exact symB_size _ _ _ _ _ _ _
      have hsum : (9223372036854775807 < S.size + 24) = False := by simp; omega
      rw [hT] at PA
      rw [eE] at HN
      change bits BinOp.and IntKind.i64 rb 1 = _ at m0
      change bits BinOp.and IntKind.i64 rk 15 = _ at m1
      change bits BinOp.and IntKind.i64 rv 3 = _ at m2
      have HRW : Hid (wr.ownsRow w1.heap.size 35 7 _ k (Cs (fun j => (f j).e) k)) := hrow
      have HBR : Hid (Below w.heap.size w wr ∧ w1.heap.size ≤ wr.heap.size) := ⟨hbr, h1⟩
      have HN2 : Hid (Bs (fun j => (f j).e) (k + 1) = S ++ T ∧ Cs (fun j => (f j).e) (k + 1) = Cs (fun j => (f j).e) k ++ (⟨⟨#[120]⟩, (xb : Int), (xk : Int), (xv : Int), rd, (rx : Int), (rz : Int)⟩ : Sy).cells) := by
        rw [← hT]; exact HN.out
      clear eE hxb hxk hxv hok hrow hbr h1 hSz hT HN
      have hS : wr.drew.cell? ⟨b, off + k * 6, none⟩ = some (.int .i64 rb) ∧ wr.drew.cell? ⟨b, off + k * 6 + 1, none⟩ = some (.int .i64 rk) ∧ wr.drew.cell? ⟨b, off + k * 6 + 2, none⟩ = some (.int .i64 rv) ∧ wr.drew.cell? ⟨b, off + k * 6 + 3, none⟩ = some (.bool rd) ∧ wr.drew.cell? ⟨b, off + k * 6 + 4, none⟩ = some (.int .u64 (rx : Int)) ∧ wr.drew.cell? ⟨b, off + k * 6 + 5, none⟩ = some (.int .u64 (rz : Int)) := ⟨d0, d1, d2, d3, d4, d5⟩
      clear d0 d1 d2 d3 d4 d5
      go_wp2
      go_region_held3 (fun W => W.cell? ⟨b, off + k * 6, none⟩ = some (.int .i64 rb) ∧ W.cell? ⟨b, off + k * 6 + 1, none⟩ = some (.int .i64 rk) ∧ W.cell? ⟨b, off + k * 6 + 2, none⟩ = some (.int .i64 rv) ∧ W.cell? ⟨b, off + k * 6 + 3, none⟩ = some (.bool rd) ∧ W.cell? ⟨b, off + k * 6 + 4, none⟩ = some (.int .u64 (rx : Int)) ∧ W.cell? ⟨b, off + k * 6 + 5, none⟩ = some (.int .u64 (rz : Int)))
        (first | assumption | (apply ls_alloc; assumption)) (fail)
      rename_i hS2
      clear hS hS2
      obtain ⟨sx, hsx⟩ : ∃ sx : Sy, sx = ⟨⟨#[120]⟩, (xb : Int), (xk : Int), (xv : Int), rd, (rx : Int), (rz : Int)⟩ := ⟨_, rfl⟩
      have hn1 := cells7_new wr sx
      have oc := cells7_one sx
      have HRA := (((HRW.out.alloc sx.box).alloc sx.box).drew)
      have HKP : Hid (∀ w2 row, ((wr.alloc sx.box).alloc sx.box).drew.grownBy w2 row → (∀ q, row = some q → q < wr.heap.size) → SyAt w2 wr.heap.size sx) := fun w2 row h1 h2 => SyAt.kept h1 h2
      rw [hsx] at hn1 oc HRA HKP
      clear hsx
      have HRB : Hid (_) := HRA
      have b1 : k + 1 ≤ maxLen := by unfold maxLen; omega
      have b2 : (k + 1) * 64 ≤ 140737488355328 := by omega
      have b3 : w1.heap.size ≤ ((wr.alloc (⟨⟨#[120]⟩, (xb : Int), (xk : Int), (xv : Int), rd, (rx : Int), (rz : Int)⟩ : Sy).box).alloc (⟨⟨#[120]⟩, (xb : Int), (xk : Int), (xv : Int), rd, (rx : Int), (rz : Int)⟩ : Sy).box).drew.heap.size := by have := HBR.out.2; show _ ≤ ((wr.alloc _).alloc _).heap.size; simp; omega
      have HOB : Hid (_) := ownBlock_in HRW.out
      clear HRA
      go_wp2_with (first
        | (at_builtin; refine wpList_append_own _ rfl _ _ 23 rfl w1.heap.size 35 i0 _ 7 64 Try.underlying23 hi0 hz0 hz1 hz2 rfl (by decide) _ _ _ rfl HRB.out ⟨wr.heap.size + 1, 0, none⟩ 1 1 (⟨⟨#[120]⟩, (xb : Int), (xk : Int), (xv : Int), rd, (rx : Int), (rz : Int)⟩ : Sy).cells rfl rfl hn1 oc b1 b2 b3 ?_; intro v' w2 hown' hgrow _; obtain ⟨p0, p1, p2, p3, p4, p5, p6⟩ := HKP.out _ _ hgrow (fun q hq => (HOB.out q hq).2))
        | (go_at_call 15; refine (PA _).mono ?_; rintro r w4 ⟨rfl, hb4⟩))
      have hB2 : Below w.heap.size w w2 := ((HBR.out.1.alloc HBR.out.1.size _).alloc (Nat.le_trans HBR.out.1.size (by simp)) _).drew.grown hgrow (by have := HBR.out.1.size; show _ ≤ ((wr.alloc _).alloc _).heap.size; simp; omega) (fun q hq => by have := (HOB.out q hq).1; have := hb1.size; omega)
      have hz2' : w1.heap.size ≤ w2.heap.size := Nat.le_trans b3 hgrow.size
      refine ⟨⟨k + 1, _, by omega, by go_num, rfl, HN2.out.1.symm, ?_, bt hB2 hb4, Nat.le_trans hz2' hb4.size⟩, by simp [intOf]; omega⟩
      rw [HN2.out.2]
      exact ownsRow_below hown' hb4
    · obtain rfl : k = K := by omega
      obtain ⟨g2, cp2, rfl, hc2, hc2', hR2⟩ := syO_row hrow hK0
      obtain ⟨n, hn, hnk⟩ := n_of bad k hK0 (by omega)
      obtain ⟨o, ho⟩ : ∃ o, 24 * n = o := ⟨_, rfl⟩
      have hof : ∀ j, j < k → ((f j).e).ok := fun j hj => R6.e_ok (HF.out j (by omega))
      have D := fun W => reads_back (fun j => (f j).e) k W hK0 hK20 hof
      have Wr := fun W => reads_wrong (fun j => (f j).e) k n o W hK20 hnk ho hof
      have hSz : S.size = 24 * k := by rw [HS.out]; exact Bs_size _ _
      rw [← HS.out] at D Wr
      have hoS : o + 1 ≤ S.size := by omega
      have hSm : S.size ≤ 720 := by omega
      have hoI : 24 * (n : Int) = (o : Int) := by omega
      have HR2 : Hid (∀ i, i < k → SyO wr g2 (i * 7) (f i).e.sy) := hR2
      have HBR : Hid (Below w.heap.size w wr ∧ w1.heap.size ≤ wr.heap.size) := ⟨hbr, h1⟩
      have hkz : ((k : Int) = 0) = False := by simp; omega
      have kz2 : (k = 0) = False := by simp; omega
      clear hrow hR2 hbr h1 HS hSz ho hof
      by_cases hkl : k < len
      all_goals
        go_wp2_with (first
          | (go_at_call 10; refine (D _).mono ?_; rintro r w3 ⟨g1, cp1, rfl, ⟨i1, j1⟩, HG1, hb3⟩; have hx := flt_new2 w3 0 0; obtain ⟨x0, x1⟩ := hx)
          | (go_at_call 17; refine (fok_any _ _ _).mono ?_; rintro r w5 ⟨rfl, rfl⟩))
        obtain ⟨W5, hW5⟩ : ∃ W5, (w3.alloc (fbox 0 0)).alloc (fbox 0 0) = W5 := ⟨_, rfl⟩
        have hB5 : Below w3.heap.size w3 W5 := by rw [← hW5]; exact ((Below.refl _ w3).alloc (Nat.le_refl _) _).alloc (by simp) _
        have HB5 : Hid (Below w.heap.size w W5) := bt HBR.out.1 (bt hb3 hB5)
        have HP : Hid (∀ i, i < k → SyO W5 g1 (i * 7) (f i).e.sy) := fun i hi => (HG1.out i hi).next hB5
        have HQ : Hid (∀ i, i < k → SyO W5 g2 (i * 7) (f i).e.sy) := fun i hi => ((HR2.out i hi).next hb3).next hB5
        rw [hW5]
        clear hW5 hB5 hb3 x0 x1 HG1 HR2 D HBR
        go_loopw [11] (fun i wq => ∃ j : Nat, j ≤ k ∧ i = .int .i64 j ∧ ∃ q, wq = W5.drewN q) (fun i _ => k - (intOf i).toNat)
        case atStart => exact ⟨0, Nat.zero_le _, rfl, 0, rfl⟩
        case round =>
          obtain ⟨j, hj, rfl, q, rfl⟩ := hrel
          by_cases hlt : j < k
          · have hji : (j : Int) < (k : Int) := by omega
            have hP := HP.out j hlt
            have hQ := HQ.out j hlt
            generalize (f j).e.sy = sx at hP hQ
            obtain ⟨q0, q1, q2, q3, q4, q5, q6⟩ := hP
            obtain ⟨p0, p1, p2, p3, p4, p5, p6⟩ := hQ
            obtain ⟨sn, sb, sk, sv, sd, sxx, szz⟩ := sx
            dsimp only at q0 q1 q2 q3 q4 q5 q6 p0 p1 p2 p3 p4 p5 p6
            go_wp2
            go_quiet (fail)
            go_wp2
            exact ⟨⟨j + 1, by omega, by go_num, q + nq, rfl⟩, by simp [intOf]; omega⟩
          · have hji : ¬ (j : Int) < (k : Int) := by omega
            go_wp2
            have hob : (o : Int) ≤ 720 := by omega
            obtain ⟨W6, hW6⟩ : ∃ W6, W5.drewN q = W6 := ⟨_, rfl⟩
            have HB6 : Hid (Below w.heap.size w W6) := by rw [← hW6]; exact below_drewN HB5.out q
            rw [hW6]
            clear hW6
            go_cut [13, 14] (fun p13 p14 wx => ∃ B, p14 = .pointer (some ⟨B, 0, none⟩) ∧ wx.cell? ⟨B, 0, none⟩ = some (.int .i64 25) ∧ wx.cell? ⟨B, 1, none⟩ = some (.int .u64 (o : Int)) ∧ Below w.heap.size w wx)
            case first =>
              have g0 : (0 : Int) ≤ (o : Int) := by omega
              have g1' : (o : Int) ≤ (S.size : Int) := by omega
              have g2' : (0 : Int) ≤ (o : Int) + 1 := by omega
              have g3 : (o : Int) + 1 ≤ (S.size : Int) := by omega
              have hwo : IntKind.i64.wrap (o : Int) = (o : Int) := by rw [IntKind.wrap_i64]; omega
              have hwm : IntKind.i64.wrap (24 * (n : Int)) = (o : Int) := by rw [hoI, hwo]
              have hw1 : IntKind.i64.wrap ((o : Int) + 1) = ((o + 1 : Nat) : Int) := by rw [IntKind.wrap_i64]; omega
              obtain ⟨A1, hA1⟩ : ∃ A, S.extract 0 o = A := ⟨_, rfl⟩
              obtain ⟨A2, hA2⟩ : ∃ A, S.extract (o + 1) S.size = A := ⟨_, rfl⟩
              have zA1 : A1.size = o := by rw [← hA1]; simp; omega
              obtain ⟨m2, zA2, hm2⟩ : ∃ m, A2.size = m ∧ m ≤ 720 := ⟨_, rfl, by rw [← hA2]; simp; omega⟩
              have f1 : (9223372036854775807 < o + 1) = False := by simp; omega
              have f2 : (9223372036854775807 < o + 1 + m2) = False := by simp; omega
              have Wr2 := Wr
              rw [hA1, hA2] at Wr2
              go_region_with (first
                | (go_at_call 10; with_reducible refine (Wr2 _).mono ?_; rintro r w7 ⟨rfl, hb7⟩; with_reducible refine fbd_elim hb7 ?_; intro z0 z1 z2 y0 y1 y2 zs hB7)
                | (go_at_call 10; with_reducible refine (Wr2 _).mono ?_; rintro r w7 ⟨rfl, hb7⟩))
              all_goals
                go_wp2
                go_meet
                case rel =>
                  first
                    | (have K := set3_flt (c := 25) (a := (o : Int)) ⟨z0, z1, z2⟩ hB7.out _ rfl
                       exact ⟨_, rfl, K.1, K.2.1, bt HB6.out K.2.2⟩)
                    | exact ⟨_, rfl, (flt_new2 _ _ _).1, (flt_new2 _ _ _).2, bt HB6.out (plain_below hb7)⟩
            case rest =>
            obtain ⟨B, rfl, x0, x1, hbl⟩ := hcut
            go_wp2
            go_ret
            exact ⟨rfl, hbl⟩

theorem row_zero' {W : World} {base size : Nat} {e : TypeId} {v : Value} {xs : List Value} (h : W.ownsRow base e size v 0 xs) : ∃ a c, v = .slice a 0 c := by
  rcases h.2 with ⟨rfl, _⟩ | ⟨g, cap, cur, rfl, _, _, _, hc, _⟩
  · exact ⟨none, 0, rfl⟩
  · exact ⟨_, _, rfl⟩

set_option maxRecDepth 100000 in
set_option maxHeartbeats 4000000 in
theorem places_empty (a0 : Option Addr) (cap : Nat) (bad : Int) (w : World) :
    Calls Try.prog 6 #[.slice a0 0 cap, .int .i64 bad] w fun e w' => e = .returned (.bool true) ∧ Below w.heap.size w w' := by
  have D : ∀ W, Calls Try.prog 10 #[.string ⟨#[]⟩, .string ⟨#[120, 0]⟩] W fun e w' => (∃ a c, e = .returned (.tuple #[.slice a 0 c, flt 0 0])) ∧ Below W.heap.size W w' := fun W => (read_ok ⟨#[]⟩ ⟨#[120, 0]⟩ 0 W (by decide) rfl (by omega) (fun x hx => by simp [eachL] at hx)).mono (by
    rintro e w' ⟨v, rfl, hr, hb⟩
    obtain ⟨a, c, rfl⟩ := row_zero' hr
    exact ⟨⟨a, c, rfl⟩, hb⟩)
  go_enter Try.func6, Try.ntmps6
  go_wp2_with (go_at_call 9; refine (speaks_any _).mono ?_; rintro r w1 ⟨rfl, hb1⟩)
  go_loop [5, 6, 7] (fun v s i => v = .slice none 0 0 ∧ s = .string ⟨#[]⟩ ∧ i = .int .i64 0) (fun _ _ i => 0)
  case atStart => exact ⟨rfl, rfl, rfl⟩
  case round =>
    obtain ⟨rfl, rfl, rfl⟩ := hrel
    go_wp2_with (first
      | (go_at_call 10; refine (D _).mono ?_; rintro r w3 ⟨⟨a, c, rfl⟩, hb3⟩; obtain ⟨x0, x1⟩ := flt_new2 w3 0 0)
      | (go_at_call 17; refine (fok_any _ _ _).mono ?_; rintro r w5 ⟨rfl, rfl⟩))
    go_loop [11] (fun i => i = .int .i64 0) (fun i => 0)
    case atStart => exact rfl
    case round =>
      subst hrel
      go_wp2
      go_ret
      exact ⟨rfl, bt hb1 (bt hb3 (((Below.refl _ w3).alloc (Nat.le_refl _) _).alloc (by simp) _))⟩
end Go.Proofs.Ytackjpmpkklgiaa
