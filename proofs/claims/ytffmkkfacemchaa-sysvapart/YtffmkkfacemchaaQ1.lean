/-
  Layer 13: the document's Read of any bytes.
-/
import Derived.Test.YtffmkkfacemchaaP2
import Derived.Deep.Onto
namespace Go.Proofs.Ytffmkkfacemchaa
open Go.RowKit
set_option linter.unusedVariables false

/-- The j-th number behind the head. -/
def vN (b : ByteArray) (j : Nat) : Nat := (num (b.extract (8 + 4 * j) (12 + 4 * j))).toNat
theorem num_lt4 (s : ByteArray) (h : s.size ≤ 4) : (num s).toNat < 4294967296 := by
  rw [num_small s (by omega), Int.toNat_natCast]
  have h1 := dec_lt s.data.toList
  have h2 : s.data.toList.length ≤ 4 := by simpa using h
  have h3 : 256 ^ s.data.toList.length ≤ 256 ^ 4 := Nat.pow_le_pow_right (by omega) h2
  omega
theorem vN_lt (b : ByteArray) (j : Nat) : vN b j < 4294967296 := num_lt4 _ (by simp; omega)
theorem vN_num (b : ByteArray) (j : Nat) : num (b.extract (8 + 4 * j) (12 + 4 * j)) = (vN b j : Int) := by
  have := (num_bounds (b.extract (8 + 4 * j) (12 + 4 * j))).1
  unfold vN
  omega
/-- A number that is none of m symbols. -/
def offN (b : ByteArray) (m j : Nat) : Prop := vN b j ≠ 0 ∧ m ≤ vN b j
def u32C (f : Nat → Nat) (n : Nat) : List Value := (List.range n).map fun (j : Nat) => Value.int .u32 (f j : Int)
theorem u32C_snoc (f : Nat → Nat) (n : Nat) : u32C f (n + 1) = u32C f n ++ [.int .u32 (f n : Int)] := by simp [u32C, List.range_succ]
theorem u32C_at (f : Nat → Nat) (n j : Nat) (h : j < n) : (u32C f n)[j]? = some (.int .u32 (f j : Int)) := by simp [u32C, h]

/-- What the document's Read answers. -/
def RP (w : World) (b : ByteArray) (e : Ending) (w' : World) : Prop :=
  ((∃ c a : Int, e = .returned (.tuple #[.slice none 0 0, .slice none 0 0, .int .i64 c, .int .u64 a]) ∧ c ≠ 0 ∧
      ((b.size < 8 ∧ c = 2 ∧ a = 0) ∨
       (8 ≤ b.size ∧ num (b.extract 0 4) = 0 ∧ c = 4 ∧ a = 0) ∨
       (8 ≤ b.size ∧ num (b.extract 0 4) ≠ 0 ∧ (256 < num (b.extract 0 4) ∨ 256 < num (b.extract 4 8)) ∧ c = 6 ∧ a = 0) ∨
       (∃ n m : Nat, 8 ≤ b.size ∧ num (b.extract 0 4) = (n : Int) ∧ num (b.extract 4 8) = (m : Int) ∧ 0 < n ∧ n ≤ 256 ∧ m ≤ 256 ∧
         ((b.size < 8 + 4 * n + 4 * m ∧ c = 2 ∧ a = 0) ∨ (8 + 4 * n + 4 * m ≤ b.size ∧ ∃ j, j < n + m ∧ (∀ i, i < j → ¬ offN b m i) ∧ offN b m j ∧ c = 5 ∧ a = 8 + 4 * (j : Int)))))) ∨
   (∃ n m : Nat, 8 ≤ b.size ∧ num (b.extract 0 4) = (n : Int) ∧ num (b.extract 4 8) = (m : Int) ∧ 0 < n ∧ n ≤ 256 ∧ m ≤ 256 ∧ 8 + 4 * n + 4 * m ≤ b.size ∧ (∀ i, i < n + m → ¬ offN b m i) ∧
     ∃ x y, e = .returned (.tuple #[x, y, .int .i64 0, .int .u64 0]) ∧ w'.ownsRow w.heap.size 51 1 x n (u32C (vN b) n) ∧ w'.ownsRow w.heap.size 51 1 y m (u32C (fun j => vN b (n + j)) m))) ∧ Below w.heap.size w w'

theorem Try.info51' : (Try.prog.info? 51).map (fun i => (i.zero, i.size, i.bytes)) = some (some (.int .u32 0), 1, 4) := by kernel_rfl
theorem one_u (W : World) (x : Int) : ∀ j u, [Value.int .u32 x][j]? = some u → (W.alloc (.cells #[.int .u32 x] 51)).cell? ((⟨W.heap.size, 0, none⟩ : Addr).add j) = some u := fun j u hu => by
  match j, hu with
  | 0, hu => simp at hu; subst hu; simp [go_sem]
  | j + 1, hu => simp at hu
theorem one_uc (x : Int) : ∀ u ∈ [Value.int .u32 x], u.oneCell' = true := by
  intro u hu
  simp at hu
  subst hu
  rfl
theorem own_ge {W : World} {base n size : Nat} {e : TypeId} {v : Value} {xs : List Value} (h : W.ownsRow base e size v n xs) : ∀ q, v.ownBlock = some q → base ≤ q ∧ q < W.heap.size := by
  intro q hq
  rcases h.2 with ⟨rfl, h1⟩ | ⟨g, cap, cur, rfl, hb, hg, _⟩
  · cases hq
  · cases hq; exact ⟨hb, (Array.getElem?_eq_some_iff.1 hg).1⟩
/-- The rows as far as they are read: the first one. -/
def RX (w : World) (b : ByteArray) (m k : Nat) (x : Value) (W : World) : Prop :=
  W.ownsRow w.heap.size 51 1 x k (u32C (vN b) k) ∧ (∀ i, i < k → ¬ offN b m i) ∧ Below w.heap.size w W
/-- .. and the second one, behind the first. -/
def RY (w : World) (b : ByteArray) (n m H k : Nat) (x y : Value) (W : World) : Prop :=
  W.ownsRow w.heap.size 51 1 x n (u32C (vN b) n) ∧ (w.heap.size ≤ H ∧ H ≤ W.heap.size ∧ ∀ q, x.ownBlock = some q → q < H) ∧ W.ownsRow H 51 1 y k (u32C (fun j => vN b (n + j)) k) ∧ (∀ i, i < n + k → ¬ offN b m i) ∧ Below w.heap.size w W
theorem RX.next {w W w2 : World} {b : ByteArray} {m k : Nat} {x x' : Value} (o : Obj) (h : RX w b m k x W) (hoff : ¬ offN b m k) (hown : w2.ownsRow w.heap.size 51 1 x' (k + 1) (u32C (vN b) k ++ [.int .u32 (vN b k : Int)])) (hg : (W.alloc o).grownBy w2 x.ownBlock) : RX w b m (k + 1) x' w2 := by
  obtain ⟨h1, h6, h7⟩ := h
  refine ⟨by rw [u32C_snoc]; exact hown, fun i hi => ?_, (h7.alloc h7.size o).grown hg (by rw [World.size_alloc]; have := h7.size; omega) (fun q hq => (own_ge h1 q hq).1)⟩
  rcases Nat.lt_succ_iff_lt_or_eq.1 hi with h | rfl
  · exact h6 i h
  · exact hoff
theorem RX.toY {w W : World} {b : ByteArray} {m n : Nat} {x : Value} (h : RX w b m n x W) : RY w b n m W.heap.size 0 x (.slice none 0 0) W :=
  ⟨h.1, ⟨h.2.2.size, Nat.le_refl _, fun q hq => (own_ge h.1 q hq).2⟩, World.ownsRow_nil _ _ _ _, fun i hi => h.2.1 i (by omega), h.2.2⟩
theorem RY.next {w W w2 : World} {b : ByteArray} {n m H k : Nat} {x y y' : Value} (o : Obj) (h : RY w b n m H k x y W) (hoff : ¬ offN b m (n + k)) (hown : w2.ownsRow H 51 1 y' (k + 1) (u32C (fun j => vN b (n + j)) k ++ [.int .u32 (vN b (n + k) : Int)])) (hg : (W.alloc o).grownBy w2 y.ownBlock) : RY w b n m H (k + 1) x y' w2 := by
  obtain ⟨h1, ⟨h2, h3, h4⟩, h5, h6, h7⟩ := h
  have hs := hg.size
  rw [World.size_alloc] at hs
  refine ⟨(h1.alloc o).kept hg ?_, ⟨h2, by omega, h4⟩, by rw [u32C_snoc]; exact hown, fun i hi => ?_, (h7.alloc h7.size o).grown hg (by rw [World.size_alloc]; have := h7.size; omega) (fun q hq => Nat.le_trans h2 (own_ge h5 q hq).1)⟩
  · cases hx : x.ownBlock with
    | none => exact .inl rfl
    | some q =>
      right
      intro he
      have q1 := h4 q hx
      have q2 := (own_ge h5 q he.symm).1
      omega
  · rcases Nat.lt_succ_iff_lt_or_eq.1 (show i < n + k + 1 by omega) with h | rfl
    · exact h6 i h
    · exact hoff
theorem results_four {P : Program} {fn : Func} {p q r t : Tmp} (h : fn.results = #[.tmp p, .tmp q, .tmp r, .tmp t]) (tmps : Array Value) (w : World) :
    (results fn tmps).run P w = .ok (.tuple #[tmps.getD p undef, tmps.getD q undef, tmps.getD r undef, tmps.getD t undef]) w := by
  simp [results, h]
theorem wrapu32i (v : Nat) (h : v < 4294967296) : IntKind.u32.wrap (v : Int) = (v : Int) := by rw [IntKind.wrap_u32]; omega
theorem sl_of {W : World} {base e size n : Nat} {v : Value} {xs : List Value} (h : W.ownsRow base e size v n xs) : ∃ a c, v = .slice a n c := by
  rcases h.2 with ⟨rfl, h1⟩ | ⟨g, cap, cur, rfl, hb, hg, _⟩
  · exact ⟨_, _, by rw [h1]⟩
  · exact ⟨_, _, rfl⟩
/-- Where it stands at the k-th number. -/
def RK (w : World) (b : ByteArray) (n m k : Nat) (x y : Value) (W : World) : Prop :=
  (k ≤ n ∧ y = .slice none 0 0 ∧ RX w b m k x W) ∨ (n ≤ k ∧ ∃ H, RY w b n m H (k - n) x y W)

theorem RK.below {w W : World} {b : ByteArray} {n m k : Nat} {x y : Value} (h : RK w b n m k x y W) : Below w.heap.size w W := by
  rcases h with ⟨_, _, h⟩ | ⟨_, H, h⟩
  · exact h.2.2
  · exact h.2.2.2.2
theorem RK.good {w W : World} {b : ByteArray} {n m k : Nat} {x y : Value} (h : RK w b n m k x y W) : ∀ i, i < k → ¬ offN b m i := by
  rcases h with ⟨_, _, h⟩ | ⟨h0, H, h⟩
  · exact h.2.1
  · exact fun i hi => h.2.2.2.1 i (by omega)
theorem RK.toY {w W : World} {b : ByteArray} {n m k : Nat} {x y : Value} (h : RK w b n m k x y W) (hk : n ≤ k) : ∃ H, RY w b n m H (k - n) x y W := by
  rcases h with ⟨h0, rfl, h⟩ | ⟨_, h⟩
  · obtain rfl : k = n := by omega
    rw [Nat.sub_self]
    exact ⟨_, h.toY⟩
  · exact h

set_option maxRecDepth 100000 in
set_option maxHeartbeats 4000000 in
theorem rread_some (b : ByteArray) (n m : Nat) (w : World) (hb : b.size ≤ 9223372036854775807) (h8 : 8 ≤ b.size) (e0 : num (b.extract 0 4) = (n : Int)) (e1 : num (b.extract 4 8) = (m : Int)) (hn0 : 0 < n) (hn : n ≤ 256) (hm : m ≤ 256) (hl : 8 + 4 * n + 4 * m ≤ b.size) :
    Calls Try.prog 11 #[.string b] w (RP w b) := by
  have hs : ¬ (b.size : Int) < 8 := by omega
  have h4i : (4 : Int) ≤ (b.size : Int) := by omega
  have h8i : (8 : Int) ≤ (b.size : Int) := by omega
  have z0 : (b.extract 0 4).size ≤ maxLen := by unfold maxLen; simp; omega
  have z1 : (b.extract 4 8).size ≤ maxLen := by unfold maxLen; simp; omega
  have G0 := fun W => refget_any (b.extract 0 4) W z0
  have G1 := fun W => refget_any (b.extract 4 8) W z1
  rw [e0] at G0
  rw [e1] at G1
  have w0 : IntKind.i64.wrap (n : Int) = (n : Int) := wrapi64 _ (by omega) (by omega)
  have w1 : IntKind.i64.wrap (m : Int) = (m : Int) := wrapi64 _ (by omega) (by omega)
  have i0 : ¬ (n : Int) = 0 := by omega
  have i1 : ¬ (256 : Int) < (n : Int) := by omega
  have i2 : ¬ (256 : Int) < (m : Int) := by omega
  have i3 : ¬ (b.size : Int) < 8 + 4 * (n : Int) + 4 * (m : Int) := by omega
  have HE : Hid (8 ≤ b.size ∧ num (b.extract 0 4) = (n : Int) ∧ num (b.extract 4 8) = (m : Int)) := ⟨h8, e0, e1⟩
  clear e0 e1 h8 z0 z1
  go_enter Try.func11, Try.ntmps11
  go_wp2
  go_quiet (first | (go_at_call 39; first | with_reducible exact Calls.quiet_of_same (G0 _) | with_reducible exact Calls.quiet_of_same (G1 _)))
  go_wp2
  have hW : RK w b n m 0 (.slice none 0 0) (.slice none 0 0) (w.drewN nq) := .inl ⟨Nat.zero_le _, rfl, World.ownsRow_nil _ _ _ _, fun i hi => absurd hi (Nat.not_lt_zero _), below_drewN (Below.refl _ w) _⟩
  obtain ⟨i51, hi5, hz0, hz1, hz2⟩ := info_parts Try.info51'
  go_loopw [8, 9, 10] (fun sx sy i wr => ∃ (k : Nat) (x y : Value), k ≤ n + m ∧ i = .int .i64 k ∧ x = sx ∧ y = sy ∧ Hid (RK w b n m k x y wr)) (fun _ _ i _ => (n + m) - (intOf i).toNat)
  case atStart => exact ⟨0, _, _, Nat.zero_le _, rfl, rfl, rfl, hW⟩
  case round =>
    obtain ⟨k, x, y, hk, rfl, rfl, rfl, HK⟩ := hrel
    by_cases hlt : k < n + m
    · have hki : (k : Int) < (n : Int) + (m : Int) := by omega
      obtain ⟨s, hsx⟩ : ∃ s, b.extract (8 + 4 * k) (12 + 4 * k) = s := ⟨_, rfl⟩
      obtain ⟨v, hv⟩ : ∃ v, vN b k = v := ⟨_, rfl⟩
      have hvn : num s = (v : Int) := by rw [← hsx, vN_num, hv]
      have hv4 : v < 4294967296 := by rw [← hv]; exact vN_lt b k
      have zs : s.size ≤ maxLen := by rw [← hsx]; unfold maxLen; simp; omega
      have G := fun W => refget_any s W zs
      rw [hvn] at G
      have HV : Hid (vN b k = v) := hv
      have s1 : (0 : Int) ≤ 8 + 4 * (k : Int) := by omega
      have s2 : 8 + 4 * (k : Int) ≤ 12 + 4 * (k : Int) := by omega
      have s3 : 12 + 4 * (k : Int) ≤ (b.size : Int) := by omega
      have s4 : (8 + 4 * (k : Int)).toNat = 8 + 4 * k := by omega
      have s5 : (12 + 4 * (k : Int)).toNat = 12 + 4 * k := by omega
      have v32 : IntKind.u32.wrap (v : Int) = (v : Int) := wrapu32i v hv4
      have v64 : IntKind.i64.wrap (v : Int) = (v : Int) := wrapi64 _ (by omega) (by omega)
      have uw8 : IntKind.u64.wrap (8 + 4 * (k : Int)) = 8 + 4 * (k : Int) := wrapu64 _ (by omega) (by omega)
      clear hvn hv zs
      by_cases hoff : v ≠ 0 ∧ m ≤ v
      · have o1 : (0 : Int) < (v : Int) := by omega
        have o2 : (m : Int) ≤ (v : Int) := by omega
        have HO : Hid (offN b m k) := by show _ ∧ _; rw [HV.out]; exact hoff
        clear hoff
        go_wp2_with (go_at_call 39; refine (G _).mono ?_; rintro e w' ⟨rfl, rfl⟩)
        refine ⟨rfl, _, results_four rfl _ _, .inl ⟨5, 8 + 4 * (k : Int), rfl, by omega, .inr (.inr (.inr ⟨n, m, HE.out.1, HE.out.2.1, HE.out.2.2, hn0, hn, hm, .inr ⟨hl, k, hlt, HK.out.good, HO.out, rfl, rfl⟩⟩))⟩, HK.out.below⟩
      · have HO : Hid (¬ offN b m k) := by show ¬ (_ ∧ _); rw [HV.out]; exact hoff
        have m0 : ∀ o : Obj, w.heap.size ≤ (wr.alloc o).heap.size := fun o => by rw [World.size_alloc]; have := HK.out.below.size; omega
        by_cases hkn : k < n
        · have hkni : (k : Int) < (n : Int) := by omega
          have hX : y = .slice none 0 0 ∧ Hid (RX w b m k x wr) := by
            rcases HK.out with ⟨_, h1, h2⟩ | ⟨h1, _⟩
            · exact ⟨h1, h2⟩
            · omega
          obtain ⟨rfl, HX⟩ := hX
          have m1 : k + 1 ≤ maxLen := by unfold maxLen; omega
          have m2 : (k + 1) * 4 ≤ 140737488355328 := by omega
          have NX : Hid (∀ (o : Obj) (x' : Value) (w2 : World), w2.ownsRow w.heap.size 51 1 x' (k + 1) (u32C (vN b) k ++ [.int .u32 (v : Int)]) → (wr.alloc o).grownBy w2 x.ownBlock → Hid (RK w b n m (k + 1) x' (.slice none 0 0) w2)) := fun o x' w2 h1 h2 => .inl ⟨hkn, rfl, HX.out.next o HO.out (by rw [HV.out]; exact h1) h2⟩
          by_cases hv0 : v = 0
          · subst hv0
            go_wp2_with (first
              | (go_at_call 39; refine (G _).mono ?_; rintro e w' ⟨rfl, rfl⟩)
              | (at_builtin; refine wpList_append_own _ rfl _ _ 23 rfl w.heap.size 51 i51 (.int .u32 0) 1 4 Try.underlying23 hi5 hz0 hz1 hz2 rfl (by decide) _ _ _ rfl (HX.out.1.alloc _) ⟨_, 0, none⟩ 1 1 [.int .u32 _] rfl rfl (one_u _ _) (one_uc _) m1 m2 (m0 _) ?_; intro x' w2 hown' hgrow _))
            exact ⟨⟨k + 1, _, _, by omega, by go_num, rfl, rfl, NX.out _ _ _ hown' hgrow⟩, by simp [intOf]; omega⟩
          · have o1 : (0 : Int) < (v : Int) := by omega
            have o2 : ¬ (m : Int) ≤ (v : Int) := by omega
            go_wp2_with (first
              | (go_at_call 39; refine (G _).mono ?_; rintro e w' ⟨rfl, rfl⟩)
              | (at_builtin; refine wpList_append_own _ rfl _ _ 23 rfl w.heap.size 51 i51 (.int .u32 0) 1 4 Try.underlying23 hi5 hz0 hz1 hz2 rfl (by decide) _ _ _ rfl (HX.out.1.alloc _) ⟨_, 0, none⟩ 1 1 [.int .u32 _] rfl rfl (one_u _ _) (one_uc _) m1 m2 (m0 _) ?_; intro x' w2 hown' hgrow _))
            exact ⟨⟨k + 1, _, _, by omega, by go_num, rfl, rfl, NX.out _ _ _ hown' hgrow⟩, by simp [intOf]; omega⟩
        · have hkni : ¬ (k : Int) < (n : Int) := by omega
          obtain ⟨H, HY⟩ : ∃ H, Hid (RY w b n m H (k - n) x y wr) := HK.out.toY (by omega)
          obtain ⟨d, hd⟩ : ∃ d, k - n = d := ⟨_, rfl⟩
          rw [hd] at HY
          have hkd : n + d = k := by omega
          have m0' : ∀ o : Obj, H ≤ (wr.alloc o).heap.size := fun o => by rw [World.size_alloc]; have := HY.out.2.1.2.1; omega
          have m1 : d + 1 ≤ maxLen := by unfold maxLen; omega
          have m2 : (d + 1) * 4 ≤ 140737488355328 := by omega
          have NX : Hid (∀ (o : Obj) (y' : Value) (w2 : World), w2.ownsRow H 51 1 y' (d + 1) (u32C (fun j => vN b (n + j)) d ++ [.int .u32 (v : Int)]) → (wr.alloc o).grownBy w2 y.ownBlock → Hid (RK w b n m (k + 1) x y' w2)) := fun o y' w2 h1 h2 => .inr ⟨by omega, H, by
            have e : k + 1 - n = d + 1 := by omega
            rw [e]
            exact HY.out.next o (by rw [hkd]; exact HO.out) (by rw [hkd, HV.out]; exact h1) h2⟩
          clear hd hkd m0
          by_cases hv0 : v = 0
          · subst hv0
            go_wp2_with (first
              | (go_at_call 39; refine (G _).mono ?_; rintro e w' ⟨rfl, rfl⟩)
              | (at_builtin; refine wpList_append_own _ rfl _ _ 23 rfl H 51 i51 (.int .u32 0) 1 4 Try.underlying23 hi5 hz0 hz1 hz2 rfl (by decide) _ _ _ rfl (HY.out.2.2.1.alloc _) ⟨_, 0, none⟩ 1 1 [.int .u32 _] rfl rfl (one_u _ _) (one_uc _) m1 m2 (m0' _) ?_; intro x' w2 hown' hgrow _))
            exact ⟨⟨k + 1, _, _, by omega, by go_num, rfl, rfl, NX.out _ _ _ hown' hgrow⟩, by simp [intOf]; omega⟩
          · have o1 : (0 : Int) < (v : Int) := by omega
            have o2 : ¬ (m : Int) ≤ (v : Int) := by omega
            go_wp2_with (first
              | (go_at_call 39; refine (G _).mono ?_; rintro e w' ⟨rfl, rfl⟩)
              | (at_builtin; refine wpList_append_own _ rfl _ _ 23 rfl H 51 i51 (.int .u32 0) 1 4 Try.underlying23 hi5 hz0 hz1 hz2 rfl (by decide) _ _ _ rfl (HY.out.2.2.1.alloc _) ⟨_, 0, none⟩ 1 1 [.int .u32 _] rfl rfl (one_u _ _) (one_uc _) m1 m2 (m0' _) ?_; intro x' w2 hown' hgrow _))
            exact ⟨⟨k + 1, _, _, by omega, by go_num, rfl, rfl, NX.out _ _ _ hown' hgrow⟩, by simp [intOf]; omega⟩
    · have hki : ¬ (k : Int) < (n : Int) + (m : Int) := by omega
      obtain rfl : k = n + m := by omega
      obtain ⟨H, HY⟩ : ∃ H, Hid (RY w b n m H (n + m - n) x y wr) := HK.out.toY (by omega)
      have HG := HK.out.good
      have e : n + m - n = m := by omega
      rw [e] at HY
      have HGG : Hid (∀ i, i < n + m → ¬ offN b m i) := HG
      clear HG e
      go_wp2
      obtain ⟨h1, ⟨h2, _, _⟩, h5, _, h7⟩ := HY.out
      have h5' : wr.ownsRow H 51 1 y m (u32C (fun j => vN b (n + j)) m) := h5
      exact ⟨rfl, _, results_four rfl _ _, .inr ⟨n, m, HE.out.1, HE.out.2.1, HE.out.2.2, hn0, hn, hm, hl, HGG.out, _, _, rfl, h1, World.ownsRow.mono (base' := w.heap.size) h5' h2⟩, h7⟩
end Go.Proofs.Ytffmkkfacemchaa
