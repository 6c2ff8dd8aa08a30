/-
  The statement RelaPlaces: its walk.
-/
import Derived.Test.YtghbkjdjginfjaaL1
import Derived.Deep.DeepCutAuto
import Derived.Deep.QuietTactic
import Derived.BigQuiet
import Derived.Deep.RegionWith
import Derived.BigRegion
namespace Go.Proofs.Ytghbkjdjginfjaa
open Go.RowKit
set_option linter.unusedVariables false

theorem mask_i64 (z : Int) (j : Nat) (hj : j ≤ 15) : bits BinOp.and IntKind.i64 z ((2 ^ j - 1 : Nat) : Int) = (((z % 18446744073709551616).toNat % 2 ^ j : Nat) : Int) := by
  have h2 : 2 ^ j ≤ 2 ^ 15 := Nat.pow_le_pow_right (by omega) hj
  have e : ((BitVec.ofInt 64 z) &&& (BitVec.ofInt 64 ((2 ^ j - 1 : Nat) : Int))).toNat = (z % 18446744073709551616).toNat % 2 ^ j := by
    rw [BitVec.toNat_and]
    have e1 : (BitVec.ofInt 64 z).toNat = (z % 18446744073709551616).toNat := by simp
    have e2 : (BitVec.ofInt 64 ((2 ^ j - 1 : Nat) : Int)).toNat = 2 ^ j - 1 := by
      simp; omega
    rw [e1, e2, Nat.and_two_pow_sub_one_eq_mod]
  show IntKind.i64.wrap (((BitVec.ofInt 64 z) &&& (BitVec.ofInt 64 ((2 ^ j - 1 : Nat) : Int))).toNat : Int) = _
  rw [e, IntKind.wrap_i64]
  have := Nat.mod_lt (z % 18446744073709551616).toNat (show 0 < 2 ^ j from Nat.two_pow_pos j)
  omega
/-- A number without its lowest three bits. -/
def low8 (z : Int) : Nat := ((BitVec.ofInt 64 z) &&& ~~~(BitVec.ofInt 64 7)).toNat
theorem low8_lt (z : Int) : low8 z < 18446744073709551616 := BitVec.isLt _
theorem low8_mod (z : Int) : low8 z % 8 = 0 := by
  have h : (((BitVec.ofInt 64 z) &&& ~~~(BitVec.ofInt 64 7)) &&& (BitVec.ofInt 64 7)) = 0#64 := by
    rw [BitVec.and_assoc]
    have : (~~~(BitVec.ofInt 64 7)) &&& (BitVec.ofInt 64 7) = 0#64 := by decide
    rw [this]
    simp
  have h2 := congrArg BitVec.toNat h
  rw [BitVec.toNat_and] at h2
  have e2 : (BitVec.ofInt 64 7).toNat = 2 ^ 3 - 1 := by decide
  rw [e2, Nat.and_two_pow_sub_one_eq_mod] at h2
  exact h2
theorem mask_low (z : Int) : bits BinOp.andNot IntKind.u64 z 7 = ((low8 z : Nat) : Int) := by
  show IntKind.u64.wrap (((BitVec.ofInt 64 z) &&& ~~~(BitVec.ofInt 64 7)).toNat : Int) = _
  have := low8_lt z
  rw [IntKind.wrap_u64]
  unfold low8 at *
  omega
/-- What the statement makes of an element. -/
def E4of (x : Rl) : E4 := ⟨low8 x.1, 2 + (x.2.1 % 18446744073709551616).toNat % 4, if (x.2.1 % 18446744073709551616).toNat % 4 = 1 then 0 else (x.2.2.1 % 18446744073709551616).toNat % 8, x.2.2.2.toNat⟩
theorem E4of_ok {x : Rl} (h : 0 ≤ x.2.2.2 ∧ x.2.2.2 < 18446744073709551616) : (E4of x).ok := by
  refine ⟨low8_lt _, low8_mod _, by show 2 ≤ 2 + _; omega, by show 2 + _ % 4 ≤ 5; omega, ?_, ?_, by show x.2.2.2.toNat < _; omega⟩
  · show 2 + _ % 4 = 3 → (if _ then 0 else _) = 0
    intro h3
    rw [if_pos (by omega)]
  · show (if _ then 0 else (x.2.2.1 % 18446744073709551616).toNat % 8) < 8
    have := Nat.mod_lt (x.2.2.1 % 18446744073709551616).toNat (show 0 < 8 by omega)
    split
    · omega
    · exact this

theorem l4_alloc {X : World} {o1 : Obj} {p1 p2 p3 p4 : Addr} {v1 v2 v3 v4 : Value} (h : X.drew.cell? p1 = some v1 ∧ X.drew.cell? p2 = some v2 ∧ X.drew.cell? p3 = some v3 ∧ X.drew.cell? p4 = some v4) :
    (X.alloc o1).drew.cell? p1 = some v1 ∧ (X.alloc o1).drew.cell? p2 = some v2 ∧ (X.alloc o1).drew.cell? p3 = some v3 ∧ (X.alloc o1).drew.cell? p4 = some v4 := by
  have hb : Below X.drew.heap.size X.drew (X.alloc o1).drew := (Below.refl X.drew.heap.size X.drew).alloc (Nat.le_refl _) o1
  have k : ∀ {a : Addr} {v}, X.drew.cell? a = some v → (X.alloc o1).drew.cell? a = some v := fun hc => (hb.cell (World.block_lt_of_cell? _ _ hc)).trans hc
  exact ⟨k h.1, k h.2.1, k h.2.2.1, k h.2.2.2⟩

def rbox (x : Rl) : Obj := .cells #[.int .u64 x.1, .int .i64 x.2.1, .int .i64 x.2.2.1, .int .u64 x.2.2.2] 38
theorem rl_at (W : World) (x : Rl) : RlO (W.alloc (rbox x)) W.heap.size 0 x := by
  refine ⟨?_, ?_, ?_, ?_⟩ <;> simp [rbox, go_sem]
theorem rl_new (W : World) (x : Rl) : ∀ (j : Nat) (u : Value), (rlc x)[j]? = some u → ((W.alloc (rbox x)).alloc (rbox x)).drew.cell? ((⟨W.heap.size + 1, 0, none⟩ : Addr).add j) = some u := by
  intro j u hu
  have k := rl_at (W.alloc (rbox x)) x
  rw [World.size_alloc] at k
  obtain ⟨h0, h1, h2, h3⟩ := k
  match j, hu with
  | 0, hu => simp [rlc] at hu; subst hu; exact h0
  | 1, hu => simp [rlc] at hu; subst hu; exact h1
  | 2, hu => simp [rlc] at hu; subst hu; exact h2
  | 3, hu => simp [rlc] at hu; subst hu; exact h3
  | j + 4, hu => simp [rlc] at hu
theorem rlc_one (x : Rl) : ∀ u ∈ rlc x, u.oneCell' = true := by
  intro u hu
  simp [rlc] at hu
  rcases hu with rfl | rfl | rfl | rfl <;> rfl
theorem ownBlock_in {W : World} {base n size : Nat} {e : TypeId} {v : Value} {xs : List Value} (h : W.ownsRow base e size v n xs) : ∀ q, v.ownBlock = some q → base ≤ q ∧ q < W.heap.size := by
  intro q hq
  rcases h.2 with ⟨rfl, h1⟩ | ⟨g, cap, cur, rfl, hb, hg, _⟩
  · cases hq
  · cases hq; exact ⟨hb, (Array.getElem?_eq_some_iff.1 hg).1⟩
theorem rl_kept {W w2 : World} {row : Option Nat} {x : Rl} (hg : ((W.alloc (rbox x)).alloc (rbox x)).drew.grownBy w2 row) (hr : ∀ q, row = some q → q < W.heap.size) : RlO w2 W.heap.size 0 x := by
  have k := (rl_at W x).next ((Below.refl _ (W.alloc (rbox x))).alloc (Nat.le_refl _) (rbox x))
  have hb := hg.block W.heap.size (by show _ < ((W.alloc _).alloc _).heap.size; simp; omega) (fun e => by have := hr _ e.symm; omega)
  have key : ∀ j, w2.cell? ⟨W.heap.size, j, none⟩ = ((W.alloc (rbox x)).alloc (rbox x)).cell? ⟨W.heap.size, j, none⟩ := fun j => World.cell?_of_block (a := ⟨W.heap.size, j, none⟩) hb
  obtain ⟨h0, h1, h2, h3⟩ := k
  exact ⟨(key 0).trans h0, (key 1).trans h1, (key 2).trans h2, (key 3).trans h3⟩
theorem ownsRow_below {W W' : World} {base n size : Nat} {e : TypeId} {v : Value} {xs : List Value} (h : W.ownsRow base e size v n xs) (hb : Below W.heap.size W W') : W'.ownsRow base e size v n xs := by
  refine ⟨h.1, ?_⟩
  rcases h.2 with ⟨rfl, h1⟩ | ⟨g, cap, cur, rfl, h2, h3, h4⟩
  · exact .inl ⟨rfl, h1⟩
  · exact .inr ⟨g, cap, cur, rfl, h2, (hb.block g (Array.getElem?_eq_some_iff.1 h3).1).trans h3, h4⟩

theorem fbd_next {X w7 : World} (hb : Below ((X.alloc (fbox 0 0)).drew).heap.size (X.alloc (fbox 0 0)).drew w7) :
    (w7.cell? ⟨X.heap.size, 0, none⟩ = some (.int .i64 0) ∧ w7.cell? ⟨X.heap.size, 1, none⟩ = some (.int .u64 0) ∧ w7.cell? ⟨X.heap.size, 2, none⟩ = some (.string ⟨#[]⟩)) ∧ (w7.frozen? ⟨X.heap.size, 0, none⟩ = false ∧ w7.frozen? ⟨X.heap.size, 1, none⟩ = false ∧ w7.frozen? ⟨X.heap.size, 2, none⟩ = false) ∧ X.heap.size < w7.heap.size ∧ Below X.heap.size X w7 := by
  have hs : X.heap.size < ((X.alloc (fbox 0 0)).drew).heap.size := by show _ < (X.alloc (fbox 0 0)).heap.size; simp
  have hB : Below X.heap.size X (X.alloc (fbox 0 0)).drew := ((Below.refl _ X).alloc (Nat.le_refl _) _).drew
  refine ⟨⟨?_, ?_, ?_⟩, ⟨?_, ?_, ?_⟩, Nat.lt_of_lt_of_le hs hb.size, hB.trans (hb.mono hB.size)⟩
  · exact (hb.cell (p := ⟨X.heap.size, 0, none⟩) hs).trans (by simp [go_sem])
  · exact (hb.cell (p := ⟨X.heap.size, 1, none⟩) hs).trans (by simp [go_sem])
  · exact (hb.cell (p := ⟨X.heap.size, 2, none⟩) hs).trans (by simp [go_sem])
  · exact (hb.frozen (p := ⟨X.heap.size, 0, none⟩) hs).trans (by simp [go_sem])
  · exact (hb.frozen (p := ⟨X.heap.size, 1, none⟩) hs).trans (by simp [go_sem])
  · exact (hb.frozen (p := ⟨X.heap.size, 2, none⟩) hs).trans (by simp [go_sem])
theorem fbd_elim {X w7 : World} {C : Prop} (hb : Below ((X.alloc (fbox 0 0)).drew).heap.size (X.alloc (fbox 0 0)).drew w7)
    (k : w7.cell? ⟨X.heap.size, 0, none⟩ = some (.int .i64 0) → w7.cell? ⟨X.heap.size, 1, none⟩ = some (.int .u64 0) → w7.cell? ⟨X.heap.size, 2, none⟩ = some (.string ⟨#[]⟩) → w7.frozen? ⟨X.heap.size, 0, none⟩ = false → w7.frozen? ⟨X.heap.size, 1, none⟩ = false → w7.frozen? ⟨X.heap.size, 2, none⟩ = false → X.heap.size < w7.heap.size → Hid (Below X.heap.size X w7) → C) : C := by
  obtain ⟨⟨z0, z1, z2⟩, ⟨y0, y1, y2⟩, zs, hB⟩ := fbd_next hb
  exact k z0 z1 z2 y0 y1 y2 zs hB
theorem plain_below {X w7 : World} {o : Obj} (hb : Below X.drew.heap.size X.drew w7) : Below X.heap.size X (w7.alloc o) :=
  (((Below.refl _ X).drew).trans hb).alloc hb.size o
theorem set3_flt {X w7 : World} {c a : Int} (h : (w7.cell? ⟨X.heap.size, 0, none⟩ = some (.int .i64 0) ∧ w7.cell? ⟨X.heap.size, 1, none⟩ = some (.int .u64 0) ∧ w7.cell? ⟨X.heap.size, 2, none⟩ = some (.string ⟨#[]⟩))) (hb : Below X.heap.size X w7) (V : World) (hV : V = ((w7.setCell ⟨X.heap.size, 0, none⟩ (.int .i64 c)).setCell ⟨X.heap.size, 1, none⟩ (.int .u64 a)).setCell ⟨X.heap.size, 2, none⟩ (.string ⟨#[]⟩)) :
    V.cell? ⟨X.heap.size, 0, none⟩ = some (.int .i64 c) ∧ V.cell? ⟨X.heap.size, 1, none⟩ = some (.int .u64 a) ∧ Below X.heap.size X V := by
  subst hV
  have k := set3_cells (.int .i64 c) (.int .u64 a) (.string ⟨#[]⟩) h.1 h.2.1 h.2.2
  exact ⟨k.1, k.2.1, ((hb.setCell (Nat.le_refl _) _).setCell (Nat.le_refl _) _).setCell (Nat.le_refl _) _⟩
theorem fbt_elim {V X w7 : World} {B : Nat} {C : Prop} (hb : Below X.heap.size X w7) (c0 : X.cell? ⟨B, 0, none⟩ = some (.int .i64 0)) (c1 : X.cell? ⟨B, 1, none⟩ = some (.int .u64 0)) (c2 : X.cell? ⟨B, 2, none⟩ = some (.string ⟨#[]⟩)) (f0 : X.frozen? ⟨B, 0, none⟩ = false) (f1 : X.frozen? ⟨B, 1, none⟩ = false) (f2 : X.frozen? ⟨B, 2, none⟩ = false) (hs : B < X.heap.size) (hV : Hid (Below B V X))
    (k : w7.cell? ⟨B, 0, none⟩ = some (.int .i64 0) → w7.cell? ⟨B, 1, none⟩ = some (.int .u64 0) → w7.cell? ⟨B, 2, none⟩ = some (.string ⟨#[]⟩) → w7.frozen? ⟨B, 0, none⟩ = false → w7.frozen? ⟨B, 1, none⟩ = false → w7.frozen? ⟨B, 2, none⟩ = false → B < w7.heap.size → Hid (Below B V w7) → C) : C :=
  k ((hb.cell (p := ⟨B, 0, none⟩) hs).trans c0) ((hb.cell (p := ⟨B, 1, none⟩) hs).trans c1) ((hb.cell (p := ⟨B, 2, none⟩) hs).trans c2) ((hb.frozen (p := ⟨B, 0, none⟩) hs).trans f0) ((hb.frozen (p := ⟨B, 1, none⟩) hs).trans f1) ((hb.frozen (p := ⟨B, 2, none⟩) hs).trans f2) (Nat.lt_of_lt_of_le hs hb.size) (hV.out.trans (hb.mono (Nat.le_of_lt hs)))
theorem fbn_elim {X w7 : World} {C : Prop} (hb : Below (X.alloc (fbox 0 0)).heap.size (X.alloc (fbox 0 0)) w7)
    (k : w7.cell? ⟨X.heap.size, 0, none⟩ = some (.int .i64 0) → w7.cell? ⟨X.heap.size, 1, none⟩ = some (.int .u64 0) → w7.cell? ⟨X.heap.size, 2, none⟩ = some (.string ⟨#[]⟩) → w7.frozen? ⟨X.heap.size, 0, none⟩ = false → w7.frozen? ⟨X.heap.size, 1, none⟩ = false → w7.frozen? ⟨X.heap.size, 2, none⟩ = false → X.heap.size < w7.heap.size → Hid (Below X.heap.size X w7) → C) : C :=
  fbd_elim (X := X) (w7 := w7) ⟨hb.os, hb.tape, hb.output, hb.size, hb.block⟩ k
theorem flt_at (W : World) (c a : Int) : (W.alloc (.cells #[.int .i64 c, .int .u64 a, .string ⟨#[]⟩] 32)).cell? ⟨W.heap.size, 0, none⟩ = some (.int .i64 c) ∧ (W.alloc (.cells #[.int .i64 c, .int .u64 a, .string ⟨#[]⟩] 32)).cell? ⟨W.heap.size, 1, none⟩ = some (.int .u64 a) := by
  constructor <;> simp [go_sem]
theorem bl_next {V W W' : World} (hb : Below W.heap.size W W') (h : Below V.heap.size V W) : Below V.heap.size V W' := h.trans (hb.mono h.size)
theorem bl_dalloc {V W : World} {o : Obj} (h : Below V.heap.size V W.drew) : Below V.heap.size V (W.alloc o) := Below.alloc (w := W) ⟨h.os, h.tape, h.output, h.size, h.block⟩ h.size o
theorem bl_alloc {V W : World} {o : Obj} (h : Below V.heap.size V W) : Below V.heap.size V (W.alloc o) := h.alloc h.size o

set_option maxRecDepth 100000 in
set_option maxHeartbeats 8000000 in
theorem places_walk (f : Nat → Rl) (b off len cap K : Nat) (bad : Int) (w : World) (hlen : len ≤ cap) (hcap : cap ≤ 9223372036854775807) (hl0 : 0 < len) (hK : K = min len 30)
    (hf : ∀ j, j < len → 0 ≤ (f j).2.2.2 ∧ (f j).2.2.2 < 18446744073709551616)
    (c1 : ∀ j, j < len → RlO w b (off + j * 4) (f j)) :
    Calls Try.prog 6 #[.slice (some ⟨b, off, none⟩) len cap, .int .i64 bad] w fun e w' => e = .returned (.bool true) ∧ Below w.heap.size w w' := by
  have HC : Hid (∀ j, j < len → RlO w b (off + j * 4) (f j)) := c1
  have HF : Hid (∀ j, j < len → 0 ≤ (f j).2.2.2 ∧ (f j).2.2.2 < 18446744073709551616) := hf
  clear c1 hf
  have hK20 : K ≤ 30 := by omega
  have hKl : K ≤ len := by omega
  have hK0 : 0 < K := by omega
  have hKx : K = len ∨ K = 30 := by omega
  obtain ⟨i0, hi0, hz0, hz1, hz2⟩ := info_parts Try.infoR38
  go_enter Try.func6, Try.ntmps6
  go_wp2_with (go_at_call 7; refine (speaks_any _).mono ?_; rintro r w1 ⟨rfl, hb1⟩)
  clear hK
  go_loopw [5, 6, 7] (fun s v i wr => ∃ k : Nat, ∃ S : ByteArray, k ≤ K ∧ i = .int .i64 k ∧ s = .string S ∧ Hid (S = Bs (fun j => E4of (f j)) k) ∧ Hid (wr.ownsRow w1.heap.size 38 4 v k (Cs (fun j => E4of (f j)) k)) ∧ Below w.heap.size w wr ∧ w1.heap.size ≤ wr.heap.size) (fun _ _ i _ => K - (intOf i).toNat)
  case atStart => exact ⟨0, _, Nat.zero_le _, rfl, rfl, rfl, World.ownsRow_nil _ _ _ _, hb1, Nat.le_refl _⟩
  case round =>
    obtain ⟨k, S, hk, rfl, rfl, HS, HRW, hbr, h1⟩ := hrel
    by_cases hlt : k < K
    · have hki : (k : Int) < (len : Int) := by omega
      have hk30 : (k : Int) < 30 := by omega
      obtain ⟨d0, d1, d2, d3⟩ := (HC.out k (by omega)).next (W' := wr) (⟨hbr.os, hbr.tape, hbr.output, hbr.size, hbr.block⟩)
      have hok := HF.out k (by omega)
      have HN : Hid (Bs (fun j => E4of (f j)) (k + 1) = S ++ (E4of (f k)).bytes ∧ Cs (fun j => E4of (f j)) (k + 1) = Cs (fun j => E4of (f j)) k ++ rlc (E4of (f k)).rl) := ⟨by rw [HS.out]; rfl, rfl⟩
      have hSz : S.size = 24 * k := by rw [HS.out]; exact Bs_size _ _
      generalize f k = x at d0 d1 d2 d3 hok HN
      have hE := E4of_ok hok
      obtain ⟨x0, x1, x2, x3⟩ := x
      dsimp only at d0 d1 d2 d3 hok
      obtain ⟨y3, hy3⟩ : ∃ y3 : Nat, x3 = (y3 : Int) := ⟨x3.toNat, by omega⟩
      subst hy3
      have m0 := mask_low x0
      have m1 := mask_i64 x1 2 (by omega)
      have m2 := mask_i64 x2 3 (by omega)
      change bits BinOp.and IntKind.i64 x1 3 = _ at m1
      change bits BinOp.and IntKind.i64 x2 7 = _ at m2
      have HBR : Hid (Below w.heap.size w wr ∧ w1.heap.size ≤ wr.heap.size) := ⟨hbr, h1⟩
      have hS : wr.drew.cell? ⟨b, off + k * 4, none⟩ = some (.int .u64 x0) ∧ wr.drew.cell? ⟨b, off + k * 4 + 1, none⟩ = some (.int .i64 x1) ∧ wr.drew.cell? ⟨b, off + k * 4 + 2, none⟩ = some (.int .i64 x2) ∧ wr.drew.cell? ⟨b, off + k * 4 + 3, none⟩ = some (.int .u64 (y3 : Int)) := ⟨d0, d1, d2, d3⟩
      clear d0 d1 d2 d3 hbr h1
      obtain ⟨xk, hxk⟩ : ∃ x, (x1 % 18446744073709551616).toNat % 2 ^ 2 = x := ⟨_, rfl⟩
      obtain ⟨xs, hxs⟩ : ∃ x, (x2 % 18446744073709551616).toNat % 2 ^ 3 = x := ⟨_, rfl⟩
      have hxk4 : xk < 4 := by omega
      have hxs8 : xs < 8 := by omega
      have hxk' : (x1 % 18446744073709551616).toNat % 4 = xk := hxk
      have hxs' : (x2 % 18446744073709551616).toNat % 8 = xs := hxs
      rw [hxk] at m1
      rw [hxs] at m2
      obtain ⟨y0, hy0⟩ : ∃ y, low8 x0 = y := ⟨_, rfl⟩
      rw [hy0] at m0
      have hy0l : y0 < 18446744073709551616 := by rw [← hy0]; exact low8_lt _
      have e2 : IntKind.i64.wrap (2 + (xk : Int)) = ((2 + xk : Nat) : Int) := by rw [IntKind.wrap_i64]; omega
      have hEE : E4of (x0, x1, x2, (y3 : Int)) = ⟨y0, 2 + xk, if xk = 1 then 0 else xs, y3⟩ := by
        unfold E4of
        simp only
        rw [hy0, hxk', hxs']
        rfl
      rw [hEE] at HN hE
      clear hEE hxk' hxs' hxk hxs hy0
      rcases (by omega : xk = 1 ∨ ¬ xk = 1) with hq | hq
      · subst hq
        simp only [if_true] at HN hE
        obtain ⟨T, hT⟩ : ∃ T, relB y0 3 0 y3 = T := ⟨_, rfl⟩
        have PA := fun W => put_any y0 3 0 y3 W (by omega) (by omega) (by omega) (by omega)
        change ∀ W, Calls Try.prog 11 #[rlv (((y0 : Int), (3 : Int), (0 : Int), (y3 : Int)) : Rl)] W _ at PA
        have hTz : T.size = 24 := by rw [← hT]; exact relB_size _ _ _ _
        have hsum : (9223372036854775807 < S.size + 24) = False := by simp; omega
        rw [hT] at PA
        have HN2 : Hid (Bs (fun j => E4of (f j)) (k + 1) = S ++ T ∧ Cs (fun j => E4of (f j)) (k + 1) = Cs (fun j => E4of (f j)) k ++ rlc (((y0 : Int), (3 : Int), (0 : Int), (y3 : Int)) : Rl)) := by
          have := HN.out
          change _ = S ++ relB y0 3 0 y3 ∧ _ = _ ++ rlc (((y0 : Int), (3 : Int), (0 : Int), (y3 : Int)) : Rl) at this
          rw [hT] at this
          exact this
        clear HN hT hSz
        have hn1 := rl_new wr (((y0 : Int), (3 : Int), (0 : Int), (y3 : Int)) : Rl)
        have oc := rlc_one (((y0 : Int), (3 : Int), (0 : Int), (y3 : Int)) : Rl)
        have HRB : Hid (((wr.alloc (rbox (((y0 : Int), (3 : Int), (0 : Int), (y3 : Int)) : Rl))).alloc (rbox (((y0 : Int), (3 : Int), (0 : Int), (y3 : Int)) : Rl))).drew.ownsRow w1.heap.size 38 4 _ k (Cs (fun j => E4of (f j)) k)) := (((HRW.out.alloc _).alloc _).drew)
        have HKP : Hid (∀ w2 row, ((wr.alloc (rbox (((y0 : Int), (3 : Int), (0 : Int), (y3 : Int)) : Rl))).alloc (rbox (((y0 : Int), (3 : Int), (0 : Int), (y3 : Int)) : Rl))).drew.grownBy w2 row → (∀ q, row = some q → q < wr.heap.size) → RlO w2 wr.heap.size 0 (((y0 : Int), (3 : Int), (0 : Int), (y3 : Int)) : Rl)) := fun w2 row h1 h2 => rl_kept h1 h2
        have b1 : k + 1 ≤ maxLen := by unfold maxLen; omega
        have b2 : (k + 1) * 32 ≤ 140737488355328 := by omega
        have b3 : w1.heap.size ≤ ((wr.alloc (rbox (((y0 : Int), (3 : Int), (0 : Int), (y3 : Int)) : Rl))).alloc (rbox (((y0 : Int), (3 : Int), (0 : Int), (y3 : Int)) : Rl))).drew.heap.size := by have := HBR.out.2; show _ ≤ ((wr.alloc _).alloc _).heap.size; simp; omega
        have HOB : Hid (_) := ownBlock_in HRW.out
        go_wp2
        go_region_held3 (fun W => W.cell? ⟨b, off + k * 4, none⟩ = some (.int .u64 x0) ∧ W.cell? ⟨b, off + k * 4 + 1, none⟩ = some (.int .i64 x1) ∧ W.cell? ⟨b, off + k * 4 + 2, none⟩ = some (.int .i64 x2) ∧ W.cell? ⟨b, off + k * 4 + 3, none⟩ = some (.int .u64 (y3 : Int)))
          (first | assumption | (apply l4_alloc; assumption)) (fail)
        rename_i hS2
        clear hS hS2
        go_wp2_with (first
          | (at_builtin; refine wpList_append_own _ rfl _ _ 29 rfl w1.heap.size 38 i0 _ 4 32 Try.underlying29 hi0 hz0 hz1 hz2 rfl (by decide) _ _ _ rfl HRB.out ⟨wr.heap.size + 1, 0, none⟩ 1 1 (rlc (((y0 : Int), (3 : Int), (0 : Int), (y3 : Int)) : Rl)) rfl rfl hn1 oc b1 b2 b3 ?_; intro v' w2 hown' hgrow _; obtain ⟨p0, p1, p2, p3⟩ := HKP.out _ _ hgrow (fun q hq => (HOB.out q hq).2))
          | (go_at_call 11; refine (PA _).mono ?_; rintro r w4 ⟨rfl, hb4⟩))
        have hB2 : Below w.heap.size w w2 := ((HBR.out.1.alloc HBR.out.1.size _).alloc (Nat.le_trans HBR.out.1.size (by simp)) _).drew.grown hgrow (by have := HBR.out.1.size; show _ ≤ ((wr.alloc _).alloc _).heap.size; simp; omega) (fun q hq => by have := (HOB.out q hq).1; have := hb1.size; omega)
        have hz2' : w1.heap.size ≤ w2.heap.size := Nat.le_trans b3 hgrow.size
        refine ⟨⟨k + 1, _, by omega, by go_num, rfl, HN2.out.1.symm, ?_, bt hB2 hb4, Nat.le_trans hz2' hb4.size⟩, by simp [intOf]; omega⟩
        show World.ownsRow _ _ _ _ _ _ _
        rw [HN2.out.2]
        exact ownsRow_below hown' hb4
      · obtain ⟨kk, hkk⟩ : ∃ kk, 2 + xk = kk := ⟨_, rfl⟩
        rw [if_neg hq, hkk] at HN hE
        rw [hkk] at e2
        have hkl : kk < 6 := by omega
        have hqi : ¬ ((kk : Int) = 3) := by omega
        clear hq hkk
        obtain ⟨T, hT⟩ : ∃ T, relB y0 kk xs y3 = T := ⟨_, rfl⟩
        have PA := fun W => put_any y0 kk xs y3 W (by omega) (by omega) (by omega) (by omega)
        change ∀ W, Calls Try.prog 11 #[rlv (((y0 : Int), ((kk : Int) : Int), ((xs : Int) : Int), (y3 : Int)) : Rl)] W _ at PA
        have hTz : T.size = 24 := by rw [← hT]; exact relB_size _ _ _ _
        have hsum : (9223372036854775807 < S.size + 24) = False := by simp; omega
        rw [hT] at PA
        have HN2 : Hid (Bs (fun j => E4of (f j)) (k + 1) = S ++ T ∧ Cs (fun j => E4of (f j)) (k + 1) = Cs (fun j => E4of (f j)) k ++ rlc (((y0 : Int), ((kk : Int) : Int), ((xs : Int) : Int), (y3 : Int)) : Rl)) := by
          have := HN.out
          change _ = S ++ relB y0 kk xs y3 ∧ _ = _ ++ rlc (((y0 : Int), ((kk : Int) : Int), ((xs : Int) : Int), (y3 : Int)) : Rl) at this
          rw [hT] at this
          exact this
        clear HN hT hSz
        have hn1 := rl_new wr (((y0 : Int), ((kk : Int) : Int), ((xs : Int) : Int), (y3 : Int)) : Rl)
        have oc := rlc_one (((y0 : Int), ((kk : Int) : Int), ((xs : Int) : Int), (y3 : Int)) : Rl)
        have HRB : Hid (((wr.alloc (rbox (((y0 : Int), ((kk : Int) : Int), ((xs : Int) : Int), (y3 : Int)) : Rl))).alloc (rbox (((y0 : Int), ((kk : Int) : Int), ((xs : Int) : Int), (y3 : Int)) : Rl))).drew.ownsRow w1.heap.size 38 4 _ k (Cs (fun j => E4of (f j)) k)) := (((HRW.out.alloc _).alloc _).drew)
        have HKP : Hid (∀ w2 row, ((wr.alloc (rbox (((y0 : Int), ((kk : Int) : Int), ((xs : Int) : Int), (y3 : Int)) : Rl))).alloc (rbox (((y0 : Int), ((kk : Int) : Int), ((xs : Int) : Int), (y3 : Int)) : Rl))).drew.grownBy w2 row → (∀ q, row = some q → q < wr.heap.size) → RlO w2 wr.heap.size 0 (((y0 : Int), ((kk : Int) : Int), ((xs : Int) : Int), (y3 : Int)) : Rl)) := fun w2 row h1 h2 => rl_kept h1 h2
        have b1 : k + 1 ≤ maxLen := by unfold maxLen; omega
        have b2 : (k + 1) * 32 ≤ 140737488355328 := by omega
        have b3 : w1.heap.size ≤ ((wr.alloc (rbox (((y0 : Int), ((kk : Int) : Int), ((xs : Int) : Int), (y3 : Int)) : Rl))).alloc (rbox (((y0 : Int), ((kk : Int) : Int), ((xs : Int) : Int), (y3 : Int)) : Rl))).drew.heap.size := by have := HBR.out.2; show _ ≤ ((wr.alloc _).alloc _).heap.size; simp; omega
        have HOB : Hid (_) := ownBlock_in HRW.out
        go_wp2
        go_region_held3 (fun W => W.cell? ⟨b, off + k * 4, none⟩ = some (.int .u64 x0) ∧ W.cell? ⟨b, off + k * 4 + 1, none⟩ = some (.int .i64 x1) ∧ W.cell? ⟨b, off + k * 4 + 2, none⟩ = some (.int .i64 x2) ∧ W.cell? ⟨b, off + k * 4 + 3, none⟩ = some (.int .u64 (y3 : Int)))
          (first | assumption | (apply l4_alloc; assumption)) (fail)
        rename_i hS2
        clear hS hS2
        go_wp2_with (first
          | (at_builtin; refine wpList_append_own _ rfl _ _ 29 rfl w1.heap.size 38 i0 _ 4 32 Try.underlying29 hi0 hz0 hz1 hz2 rfl (by decide) _ _ _ rfl HRB.out ⟨wr.heap.size + 1, 0, none⟩ 1 1 (rlc (((y0 : Int), ((kk : Int) : Int), ((xs : Int) : Int), (y3 : Int)) : Rl)) rfl rfl hn1 oc b1 b2 b3 ?_; intro v' w2 hown' hgrow _; obtain ⟨p0, p1, p2, p3⟩ := HKP.out _ _ hgrow (fun q hq => (HOB.out q hq).2))
          | (go_at_call 11; refine (PA _).mono ?_; rintro r w4 ⟨rfl, hb4⟩))
        have hB2 : Below w.heap.size w w2 := ((HBR.out.1.alloc HBR.out.1.size _).alloc (Nat.le_trans HBR.out.1.size (by simp)) _).drew.grown hgrow (by have := HBR.out.1.size; show _ ≤ ((wr.alloc _).alloc _).heap.size; simp; omega) (fun q hq => by have := (HOB.out q hq).1; have := hb1.size; omega)
        have hz2' : w1.heap.size ≤ w2.heap.size := Nat.le_trans b3 hgrow.size
        refine ⟨⟨k + 1, _, by omega, by go_num, rfl, HN2.out.1.symm, ?_, bt hB2 hb4, Nat.le_trans hz2' hb4.size⟩, by simp [intOf]; omega⟩
        show World.ownsRow _ _ _ _ _ _ _
        rw [HN2.out.2]
        exact ownsRow_below hown' hb4
    · obtain rfl : k = K := by omega
      obtain ⟨g2, cp2, rfl, hc2, hc2', hR2⟩ := row_e4 HRW.out hK0
      obtain ⟨n, hn, hnk⟩ := n_of bad k hK0 (by omega)
      obtain ⟨o, ho⟩ : ∃ o, 24 * n = o := ⟨_, rfl⟩
      have hof : ∀ j, j < k → (E4of (f j)).ok := fun j hj => E4of_ok (HF.out j (by omega))
      have D := fun W => reads_back (fun j => E4of (f j)) k W hK0 hK20 hof
      have Wr := fun W => reads_wrong (fun j => E4of (f j)) k n o W hK20 hnk ho hof
      have hSz : S.size = 24 * k := by rw [HS.out]; exact Bs_size _ _
      rw [← HS.out] at D Wr
      have hoS : o + 24 ≤ S.size := by omega
      have hSm : S.size ≤ 720 := by omega
      have hoI : 24 * (n : Int) = (o : Int) := by omega
      have HR2 : Hid (∀ i, i < k → RlO wr g2 (i * 4) (E4of (f i)).rl) := hR2
      have HBR : Hid (Below w.heap.size w wr ∧ w1.heap.size ≤ wr.heap.size) := ⟨hbr, h1⟩
      have hkz : ((k : Int) = 0) = False := by simp; omega
      have kz2 : (k = 0) = False := by simp; omega
      have PB : ∀ W, Calls Try.prog 11 #[rlv (8, 7, 0, 0)] W fun e w' => e = .returned (.string badB) ∧ Below W.heap.size W w' := fun W => put_any 8 7 0 0 W (by omega) (by omega) (by omega) (by omega)
      clear hR2 hbr h1 HS hSz ho hof
      by_cases hkl : k < len
      all_goals
        go_wp2_with (first
          | (go_at_call 9; refine (D _).mono ?_; rintro r w3 ⟨g1, cp1, rfl, ⟨i1, j1⟩, HG1, hb3⟩)
          | (go_at_call 13; refine (fok_any _ _ _).mono ?_; rintro r w5 ⟨rfl, rfl⟩))
        obtain ⟨W5, hW5⟩ : ∃ W5, (w3.alloc (fbox 0 0)).alloc (fbox 0 0) = W5 := ⟨_, rfl⟩
        have hB5 : Below w3.heap.size w3 W5 := by rw [← hW5]; exact ((Below.refl _ w3).alloc (Nat.le_refl _) _).alloc (by simp) _
        have HB5 : Hid (Below w.heap.size w W5) := bt HBR.out.1 (bt hb3 hB5)
        have HP : Hid (∀ i, i < k → RlO W5 g1 (i * 4) (E4of (f i)).rl) := fun i hi => (HG1.out i hi).next hB5
        have HQ : Hid (∀ i, i < k → RlO W5 g2 (i * 4) (E4of (f i)).rl) := fun i hi => ((HR2.out i hi).next hb3).next hB5
        rw [hW5]
        clear hW5 hB5 hb3 HG1 HR2 D HBR
        go_loopw [11] (fun i wq => ∃ j : Nat, j ≤ k ∧ i = .int .i64 j ∧ ∃ q, wq = W5.drewN q) (fun i _ => k - (intOf i).toNat)
        case atStart => exact ⟨0, Nat.zero_le _, rfl, 0, rfl⟩
        case round =>
          obtain ⟨j, hj, rfl, q, rfl⟩ := hrel
          by_cases hlt : j < k
          · have hji : (j : Int) < (k : Int) := by omega
            have hP := HP.out j hlt
            have hQ := HQ.out j hlt
            generalize (E4of (f j)).rl = sx at hP hQ
            obtain ⟨s0, s1, s2, s3⟩ := sx
            obtain ⟨q0, q1, q2, q3⟩ := hP
            obtain ⟨p0, p1, p2, p3⟩ := hQ
            dsimp only at q0 q1 q2 q3 p0 p1 p2 p3
            go_wp2
            go_quiet (fail)
            go_wp2
            exact ⟨⟨j + 1, by omega, by go_num, q + nq, rfl⟩, by simp [intOf]; omega⟩
          · have hji : ¬ (j : Int) < (k : Int) := by omega
            go_wp2
            have hob : (o : Int) ≤ 720 := by omega
            obtain ⟨W6, hW6⟩ : ∃ W6, W5.drewN q = W6 := ⟨_, rfl⟩
            have HB6 : Hid (Below w.heap.size w W6) := by rw [← hW6]; exact below_drewN HB5.out q
            rw [hW6]
            clear hW6
            have g0 : (0 : Int) ≤ (o : Int) := by omega
            have g1' : (o : Int) ≤ (S.size : Int) := by omega
            have g2' : (0 : Int) ≤ (o : Int) + 24 := by omega
            have g3 : (o : Int) + 24 ≤ (S.size : Int) := by omega
            have hwo : IntKind.i64.wrap (o : Int) = (o : Int) := by rw [IntKind.wrap_i64]; omega
            have hwm : IntKind.i64.wrap (24 * (n : Int)) = (o : Int) := by rw [hoI, hwo]
            have hw1 : IntKind.i64.wrap ((o : Int) + 24) = ((o + 24 : Nat) : Int) := by rw [IntKind.wrap_i64]; omega
            obtain ⟨A1, hA1⟩ : ∃ A, S.extract 0 o = A := ⟨_, rfl⟩
            obtain ⟨A2, hA2⟩ : ∃ A, S.extract (o + 24) S.size = A := ⟨_, rfl⟩
            have zA1 : A1.size = o := by rw [← hA1]; simp; omega
            obtain ⟨m2, zA2, hm2⟩ : ∃ m, A2.size = m ∧ m ≤ 720 := ⟨_, rfl, by rw [← hA2]; simp; omega⟩
            obtain ⟨A3, hA3⟩ : ∃ A, badB = A := ⟨_, rfl⟩
            have zA3 : A3.size = 24 := by rw [← hA3]; exact badB_size
            have f1 : (9223372036854775807 < o + 24) = False := by simp; omega
            have f2 : (9223372036854775807 < o + 24 + m2) = False := by simp; omega
            have f3 : (9223372036854775807 < o + (24 + m2)) = False := by simp; omega
            have f4 : (9223372036854775807 < o + m2 + 24) = False := by simp; omega
            have f5 : (9223372036854775783 < o + m2) = False := by simp; omega
            have f6 : (9223372036854775807 < A1.size + 24 + A2.size) = False := by simp; omega
            have f7 : (9223372036854775807 < o + 24 + (S.size - (o + 24))) = False := by simp; omega
            have Wr2 := Wr
            rw [hA1, hA2, hA3] at Wr2
            rw [hA3] at PB
            clear Wr HP HQ hA3
            go_cut [13, 14] (fun p13 p14 wx => ∃ B, p14 = .pointer (some ⟨B, 0, none⟩) ∧ wx.cell? ⟨B, 0, none⟩ = some (.int .i64 22) ∧ wx.cell? ⟨B, 1, none⟩ = some (.int .u64 (o : Int)) ∧ Below w.heap.size w wx)
            case first =>
              have hS : Below w.heap.size w W6.drew := HB6.out.drew
              go_region_with (first
                | (go_at_call 11; with_reducible refine (PB _).mono ?_; rintro r w6 ⟨rfl, hb6⟩; with_reducible refine fbd_elim hb6 ?_; intro z0 z1 z2 y0 y1 y2 zs hB6)
                | (go_at_call 11; with_reducible refine (PB _).mono ?_; rintro r w6 ⟨rfl, hb6⟩; with_reducible refine fbn_elim hb6 ?_; intro z0 z1 z2 y0 y1 y2 zs hB6)
                | (go_at_call 11; with_reducible refine (PB _).mono ?_; rintro r w6 ⟨rfl, hb6⟩)
                | (go_at_call 9; with_reducible refine (Wr2 _).mono ?_; rintro r w7 ⟨rfl, hb7⟩; with_reducible refine fbd_elim hb7 ?_; intro z0 z1 z2 y0 y1 y2 zs hB7)
                | (go_at_call 9; with_reducible refine (Wr2 _).mono ?_; rintro r w7 ⟨rfl, hb7⟩; with_reducible refine fbn_elim hb7 ?_; intro z0 z1 z2 y0 y1 y2 zs hB7)
                | (go_at_call 9; with_reducible refine (Wr2 _).mono ?_; rintro r w7 ⟨rfl, hb7⟩; with_reducible refine fbt_elim hb7 (by assumption) (by assumption) (by assumption) (by assumption) (by assumption) (by assumption) (by assumption) (by assumption) ?_; intro z0 z1 z2 y0 y1 y2 zs hB7)
                | (go_at_call 9; with_reducible refine (Wr2 _).mono ?_; rintro r w7 ⟨rfl, hb7⟩))
              all_goals
                go_wp2
                go_meet
                case rel =>
                  first
                    | (have K := set3_flt (c := 22) (a := (o : Int)) ⟨z0, z1, z2⟩ hB7.out _ rfl
                       exact ⟨_, rfl, K.1, K.2.1, by first | exact bt HB6.out K.2.2 | exact bt HB6.out.drew K.2.2 | exact bt (bt HB6.out hb6) K.2.2 | exact bt (bt HB6.out.drew hb6) K.2.2 | exact bt (bt HB6.out.drew hb6).drew K.2.2⟩)
                    | exact ⟨_, rfl, (flt_at w7 22 (o : Int)).1, (flt_at w7 22 (o : Int)).2, by first | exact bl_alloc (bt (bt HB6.out hb6) hb7) | exact bl_alloc (bt (bt HB6.out.drew hb6) hb7) | exact bl_alloc (bt (bt HB6.out.drew hb6).drew hb7) | exact bl_alloc (bt (bt HB6.out hb6).drew hb7)⟩
            case rest =>
              obtain ⟨B, rfl, x0, x1, hbl⟩ := hcut
              go_wp2
              go_ret
              exact ⟨rfl, hbl⟩
end Go.Proofs.Ytghbkjdjginfjaa
