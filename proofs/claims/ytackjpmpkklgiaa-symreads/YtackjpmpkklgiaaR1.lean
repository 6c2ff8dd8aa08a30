/-
  Layer 11: the document's Read of any bytes.
-/
import Derived.Test.YtackjpmpkklgiaaS5
import Derived.Deep.RegionHeldLaw
import Derived.Deep.AppendLies
import Derived.Deep.QuietTactic
import Derived.BigQuiet
namespace Go.Proofs.Ytackjpmpkklgiaa
open Go.RowKit
set_option linter.unusedVariables false

theorem Try.info36 : (Try.prog.info? 36).map (fun i => (i.zero, i.size, i.bytes)) = some (some Sy.zero.val, 7, 64) := by kernel_rfl

theorem sub_part (b : ByteArray) (k i j : Nat) (hj : j ≤ 24) (h : (k + 1) * 24 ≤ b.size) : (b.extract (k * 24) ((k + 1) * 24)).extract i j = b.extract (k * 24 + i) (k * 24 + j) := by
  apply ByteArray.ext
  apply Array.toList_inj.1
  rw [Lib.extract_data, Lib.extract_data, Lib.extract_data, List.drop_take, List.drop_drop, List.take_take]
  congr 1
  omega
theorem sub_byte (b : ByteArray) (k i : Nat) (hi : i < 24) (h : (k + 1) * 24 ≤ b.size) : b[k * 24 + i]'(by omega) = (b.extract (k * 24) ((k + 1) * 24)).data.toList.getD i 0 := by
  rw [Lib.extract_data, List.getD_eq_getElem?_getD, List.getElem?_take_of_lt (by omega), List.getElem?_drop]
  have hl : k * 24 + i < b.data.size := by
    have : b.data.size = b.size := rfl
    omega
  rw [List.getElem?_eq_getElem (by rw [Array.length_toList]; exact hl)]
  simp [ByteArray.getElem_eq_getElem_data]

/-- What the document's Read answers. -/
def RReadPost (w : World) (b names : ByteArray) (e : Ending) (w' : World) : Prop :=
  ((b.size % 24 ≠ 0 ∧ e = .returned (.tuple #[.slice none 0 0, .int .i64 4, .int .u64 0])) ∨ (b.size % 24 = 0 ∧ 256 < b.size / 24 ∧ e = .returned (.tuple #[.slice none 0 0, .int .i64 6, .int .u64 0])) ∨
    (b.size % 24 = 0 ∧ b.size / 24 ≤ 256 ∧
      ((∃ v, e = .returned (.tuple #[v, .int .i64 0, .int .u64 0]) ∧ w'.ownsRow w.heap.size 36 7 v (b.size / 24) (cellsL names (eachL b 24 (b.size / 24))) ∧ ∀ x ∈ eachL b 24 (b.size / 24), (symF x.2 names).2 = 0) ∨
       (∃ q x, q ++ [x] <+: eachL b 24 (b.size / 24) ∧ (∀ y ∈ q, (symF y.2 names).2 = 0) ∧ (symF x.2 names).2 ≠ 0 ∧ e = .returned (.tuple #[.slice none 0 0, .int .i64 (symF x.2 names).2, .int .u64 ((x.1 : Int) * 24)]))))) ∧
  Below w.heap.size w w'

theorem rread_bad {w wr : World} {b names : ByteArray} {n k : Nat} {c : Int} {e : Ending} (h0 : b.size % 24 = 0) (hn : b.size / 24 = n) (hn256 : n ≤ 256) (hk : k < n) (hok : ∀ y ∈ eachL b 24 k, (symF y.2 names).2 = 0) (hx : (symF (b.extract (k * 24) ((k + 1) * 24)) names).2 = c) (hc : c ≠ 0)
    (he : e = .returned (.tuple #[.slice none 0 0, .int .i64 c, .int .u64 ((k : Int) * 24)])) (hB : Below w.heap.size w wr) : RReadPost w b names e wr := by
  refine ⟨.inr (.inr ⟨h0, by omega, .inr ⟨eachL b 24 k, (k, b.extract (k * 24) ((k + 1) * 24)), ?_, hok, ?_, ?_⟩⟩), hB⟩
  · rw [← eachL_succ, hn]; exact eachL_prefix b 24 hk
  · rw [hx]; exact hc
  · rw [he, hx]

theorem results_three' {P : Program} {fn : Func} {p q r : Tmp} (h : fn.results = #[.tmp p, .tmp q, .tmp r]) (tmps : Array Value) (w : World) :
    (results fn tmps).run P w = .ok (.tuple #[tmps.getD p undef, tmps.getD q undef, tmps.getD r undef]) w := by
  simp [results, h]

set_option maxHeartbeats 2000000 in
theorem rread_form (b names : ByteArray) (w : World) (hb : b.size ≤ 140737488351232) (h : b.size % 24 ≠ 0) : Calls Try.prog 11 #[.string b, .string names] w (RReadPost w b names) := by
  have h0 : ((((b.size : Nat) : Int)) % 24 != 0) = true := by simp; omega
  have HH : Hid (b.size % 24 ≠ 0) := h
  clear h
  go_enter Try.func11, Try.ntmps11
  go_wp2
  exact ⟨rfl, _, results_three' rfl _ _, .inl ⟨HH.out, rfl⟩, Below.refl _ _⟩

set_option maxHeartbeats 2000000 in
theorem rread_many (b names : ByteArray) (w : World) (hb : b.size ≤ 140737488351232) (h : b.size % 24 = 0) (h2 : 256 < b.size / 24) : Calls Try.prog 11 #[.string b, .string names] w (RReadPost w b names) := by
  have h0 : ((((b.size : Nat) : Int)) % 24 != 0) = false := by simp; omega
  have h1 : (256 : Int) < ((b.size : Nat) : Int) / 24 := by omega
  have HH : Hid (b.size % 24 = 0 ∧ 256 < b.size / 24) := ⟨h, h2⟩
  clear h h2
  go_enter Try.func11, Try.ntmps11
  go_wp2
  exact ⟨rfl, _, results_three' rfl _ _, .inr (.inl ⟨HH.out.1, HH.out.2, rfl⟩), Below.refl _ _⟩

theorem row_ge7 {W : World} {base k size : Nat} {e : TypeId} {v : Value} {xs : List Value} (h : W.ownsRow base e size v k xs) : ∀ j, v.ownBlock = some j → base ≤ j := by
  intro j ej
  rcases h.2 with ⟨rfl, _⟩ | ⟨g, cap, cur, rfl, hb, _⟩
  · simp [Value.ownBlock] at ej
  · obtain rfl : g = j := by simpa [Value.ownBlock] using ej
    exact hb
theorem own_dd {W : World} {base k size : Nat} {e : TypeId} {v : Value} {xs : List Value} (h : W.ownsRow base e size v k xs) : W.drew.drew.ownsRow base e size v k xs := h
theorem size_dd {w W : World} {o : Obj} (h : w.heap.size ≤ W.heap.size) : w.heap.size ≤ (W.alloc o).drew.drew.heap.size := by
  show w.heap.size ≤ (W.alloc o).heap.size
  rw [World.size_alloc]; omega
theorem news_dd (W : World) (cs : Array Value) (t : TypeId) : ∀ j u, cs.toList[j]? = some u → ((W.alloc (.cells cs t)).drew.drew).cell? ((⟨W.heap.size, 0, none⟩ : Addr).add j) = some u := fun j u hu =>
  World.news_of_block (w := (W.alloc (.cells cs t)).drew.drew) (World.alloc_heap_new W (.cells cs t)) j u hu
theorem one_seven (a : ByteArray) (b c d : Int) (e : Bool) (f g : Int) : ∀ u ∈ (#[Value.string a, .int .i64 b, .int .i64 c, .int .i64 d, .bool e, .int .u64 f, .int .u64 g]).toList, u.oneCell' = true := by
  intro u hu
  simp at hu
  rcases hu with rfl | rfl | rfl | rfl | rfl | rfl | rfl <;> rfl

set_option maxRecDepth 100000 in
set_option maxHeartbeats 3000000 in
theorem rread_few (b names : ByteArray) (n : Nat) (w : World) (hb : b.size ≤ 140737488351232) (hnm : names.size ≤ 9223372036854775807) (hbn : b.size = n * 24) (hn : n ≤ 256) : Calls Try.prog 11 #[.string b, .string names] w (RReadPost w b names) := by
  have h0 : ((((b.size : Nat) : Int)) % 24 != 0) = false := by simp; omega
  have h1 : ¬ (256 : Int) < ((b.size : Nat) : Int) / 24 := by omega
  have HH : Hid (b.size % 24 = 0 ∧ b.size / 24 = n) := ⟨by omega, by omega⟩
  obtain ⟨i0, hi0, hz0, hz1, hz2⟩ := info_parts Try.info36
  go_enter Try.func11, Try.ntmps11
  go_wp2
  go_loopw [7, 8] (fun s i wr => ∃ (k : Nat) (v : Value), k ≤ n ∧ i = .int .i64 ((k * 24 : Nat) : Int) ∧ s = v ∧ Hid (∀ y ∈ eachL b 24 k, (symF y.2 names).2 = 0) ∧ Hid (wr.ownsRow w.heap.size 36 7 v k (cellsL names (eachL b 24 k))) ∧ Hid (Below w.heap.size w wr))
    (fun _ i _ => n * 24 - (intOf i).toNat)
  case atStart => exact ⟨0, _, Nat.zero_le _, rfl, rfl, (fun y hy => by simp [eachL] at hy), World.ownsRow_nil _ _ _ _, Below.refl _ _⟩
  case round =>
    obtain ⟨k, v, hk, rfl, rfl, HOK, HR, HB⟩ := hrel
    by_cases hlt : k < n
    · obtain ⟨o, ho⟩ : ∃ o : Nat, k * 24 = o := ⟨_, rfl⟩
      have hin : (k + 1) * 24 ≤ b.size := by omega
      have hki : (o : Int) < (b.size : Int) := by omega
      have hoi : (o : Int) + 24 ≤ (b.size : Int) := by omega
      obtain ⟨e, he⟩ : ∃ e, b.extract (k * 24) ((k + 1) * 24) = e := ⟨_, rfl⟩
      have p0 : b.extract o (o + 4) = e.extract 0 4 := by rw [← he, sub_part b k 0 4 (by omega) hin, ← ho]; rfl
      have z0 : (e.extract 0 4).size ≤ maxLen := by
        have : (e.extract 0 4).size ≤ 4 := by simp; omega
        unfold maxLen; omega
      obtain ⟨tx, htx⟩ : ∃ tx, txt names (num (e.extract 0 4)) 32 = tx := ⟨_, rfl⟩
      obtain ⟨t, ok⟩ := tx
      have HTX : Hid (txt names (num (e.extract 0 4)) 32 = (t, ok)) := htx
      have n0 := (num_bounds (e.extract 0 4)).1
      have G0 := fun W => refget_any (e.extract 0 4) W z0
      have HO : Hid (k * 24 = o) := ho
      rw [ho]
      clear htx
      cases ok with
      | false =>
        have HS : Hid ((symF e names).2 = 25) := by show _ = _; unfold symF; rw [HTX.out]; rfl
        clear ho
        go_wp2_with (first
          | (go_at_call 28; with_reducible refine (G0 _).mono ?_; rintro r w' ⟨rfl, rfl⟩)
          | (go_at_call 27; refine (reftext_any _ _ _ _ _ _ HTX hnm n0 (by omega) (by omega)).mono ?_; rintro r w' ⟨rfl, rfl⟩))
        refine ⟨rfl, _, results_three' rfl _ _, ?_⟩
        refine rread_bad (c := 25) HH.out.1 HH.out.2 hn hlt HOK.out (by rw [he]; exact HS.out) (by decide) ?_ HB.out
        have e1 : (k : Int) * 24 = (o : Int) := by have := HO.out; omega
        rw [e1]
        rfl
      | true =>
        have l4 : o + 4 < b.size := by omega
        have l5 : o + 5 < b.size := by omega
        have q4 : (b[o + 4]'l4).toNat = byteAt e 4 := by
          have h := sub_byte b k 4 (by omega) hin
          rw [he] at h
          unfold byteAt
          rw [← h]
          simp only [ho]
        have q5 : (b[o + 5]'l5).toNat = byteAt e 5 := by
          have h := sub_byte b k 5 (by omega) hin
          rw [he] at h
          unfold byteAt
          rw [← h]
          simp only [ho]
        have b4l : byteAt e 4 < 256 := by rw [← q4]; exact UInt8.toNat_lt _
        have b5l : byteAt e 5 < 256 := by rw [← q5]; exact UInt8.toNat_lt _
        obtain ⟨b4, hb4⟩ : ∃ x, byteAt e 4 = x := ⟨_, rfl⟩
        obtain ⟨b5, hb5⟩ : ∃ x, byteAt e 5 = x := ⟨_, rfl⟩
        have HB4 : Hid (byteAt e 4 = b4) := hb4
        have HB5 : Hid (byteAt e 5 = b5) := hb5
        rw [hb4] at q4 b4l
        rw [hb5] at q5 b5l
        have HE : Hid (b.extract (k * 24) ((k + 1) * 24) = e) := he
        clear hb4 hb5 ho he
        have hw4 : IntKind.i64.wrap ((o : Int) + 4) = ((o + 4 : Nat) : Int) := by rw [IntKind.wrap_i64]; omega
        have hw5 : IntKind.i64.wrap ((o : Int) + 5) = ((o + 5 : Nat) : Int) := by rw [IntKind.wrap_i64]; omega
        have i4 : (o : Int) + 4 < (n : Int) * 24 := by omega
        have i5 : (o : Int) + 5 < (n : Int) * 24 := by omega
        have j4 : (0 : Int) ≤ (o : Int) + 4 := by omega
        have j5 : (0 : Int) ≤ (o : Int) + 5 := by omega
        have t4 : ((o : Int) + 4).toNat = o + 4 := by omega
        have t5 : ((o : Int) + 5).toNat = o + 5 := by omega
        by_cases hbd : 2 < b4 / 16
        · have HS : Hid ((symF e names).2 = 4) := by show _ = _; unfold symF; rw [HTX.out, HB4.out]; simp [hbd]
          have hbi : (2 : Int) < (b4 : Int) / 16 := by omega
          go_wp2_with (first
            | (go_at_call 28; with_reducible refine (G0 _).mono ?_; rintro r w' ⟨rfl, rfl⟩)
            | (go_at_call 27; refine (reftext_any _ _ _ _ _ _ HTX hnm n0 (by omega) (by omega)).mono ?_; rintro r w' ⟨rfl, rfl⟩))
          go_region
          go_wp2
          refine ⟨rfl, _, results_three' rfl _ _, ?_⟩
          refine rread_bad (c := 4) HH.out.1 HH.out.2 hn hlt HOK.out (by rw [HE.out]; exact HS.out) (by decide) ?_ HB.out.drew
          have e1 : (k : Int) * 24 = (o : Int) := by have := HO.out; omega
          rw [e1]
          rfl
        · have hbi : ¬ (2 : Int) < (b4 : Int) / 16 := by omega
          have HSY : Hid (symF e names = (⟨t, ((b4 / 16 : Nat) : Int), ((b4 % 16 : Nat) : Int), ((b5 % 4 : Nat) : Int), num (e.extract 6 8) != 0, num (e.extract 8 16), num (e.extract 16 24)⟩, 0)) := by
            show _ = _
            unfold symF
            rw [HTX.out, HB4.out, HB5.out]
            simp [hbd]
          have R1 : Hid (IntKind.i64.wrap ((b4 : Int) / 16) = ((b4 / 16 : Nat) : Int)) := by show _ = _; rw [IntKind.wrap_i64]; omega
          have R2 : Hid ((b4 : Int).tmod 16 = ((b4 % 16 : Nat) : Int)) := by show _ = _; rw [Int.tmod_eq_emod_of_nonneg (by omega)]; omega
          have R3 : Hid ((b5 : Int).tmod 4 = ((b5 % 4 : Nat) : Int)) := by show _ = _; rw [Int.tmod_eq_emod_of_nonneg (by omega)]; omega
          have p6 : b.extract (o + 6) (o + 8) = e.extract 6 8 := by rw [← HE.out, sub_part b k 6 8 (by omega) hin, HO.out]
          have p8 : b.extract (o + 8) (o + 16) = e.extract 8 16 := by rw [← HE.out, sub_part b k 8 16 (by omega) hin, HO.out]
          have p16 : b.extract (o + 16) (o + 24) = e.extract 16 24 := by rw [← HE.out, sub_part b k 16 24 (by omega) hin, HO.out]
          have hes : e.size = 24 := by rw [← HE.out]; simp; omega
          have z6 : (e.extract 6 8).size ≤ maxLen := by unfold maxLen; simp; omega
          have z8 : (e.extract 8 16).size ≤ maxLen := by unfold maxLen; simp; omega
          have z16 : (e.extract 16 24).size ≤ maxLen := by unfold maxLen; simp; omega
          have G6 := fun W => refget_any (e.extract 6 8) W z6
          have G8 := fun W => refget_any (e.extract 8 16) W z8
          have G16 := fun W => refget_any (e.extract 16 24) W z16
          have hw6 : IntKind.i64.wrap ((o : Int) + 6) = ((o + 6 : Nat) : Int) := by rw [IntKind.wrap_i64]; omega
          have hw8 : IntKind.i64.wrap ((o : Int) + 8) = ((o + 8 : Nat) : Int) := by rw [IntKind.wrap_i64]; omega
          have hw16 : IntKind.i64.wrap ((o : Int) + 16) = ((o + 16 : Nat) : Int) := by rw [IntKind.wrap_i64]; omega
          have hw24 : IntKind.i64.wrap ((o : Int) + 24) = ((o + 24 : Nat) : Int) := by rw [IntKind.wrap_i64]; omega
          go_wp2_with (first
            | (go_at_call 28; with_reducible refine (G0 _).mono ?_; rintro r w' ⟨rfl, rfl⟩)
            | (go_at_call 27; refine (reftext_any _ _ _ _ _ _ HTX hnm n0 (by omega) (by omega)).mono ?_; rintro r w' ⟨rfl, rfl⟩))
          go_region
          go_wp2
          clear G0 q4 q5 hw4 hw5 i4 i5 t4 t5 z0 p0
          have a6 : (0 : Int) ≤ (o : Int) + 6 := by omega
          have a8 : (0 : Int) ≤ (o : Int) + 8 := by omega
          have a16 : (0 : Int) ≤ (o : Int) + 16 := by omega
          have c6 : (o : Int) + 6 ≤ (o : Int) + 8 := by omega
          have c8 : (o : Int) + 8 ≤ (o : Int) + 16 := by omega
          have c16 : (o : Int) + 16 ≤ (o : Int) + 24 := by omega
          have d8 : (o : Int) + 8 ≤ (n : Int) * 24 := by omega
          have d16 : (o : Int) + 16 ≤ (n : Int) * 24 := by omega
          have d24 : (o : Int) + 24 ≤ (n : Int) * 24 := by omega
          have t6 : ((o : Int) + 6).toNat = o + 6 := by omega
          have t8 : ((o : Int) + 8).toNat = o + 8 := by omega
          have t16 : ((o : Int) + 16).toNat = o + 16 := by omega
          have t24 : ((o : Int) + 24).toNat = o + 24 := by omega
          have m1 : k + 1 ≤ maxLen := by unfold maxLen; omega
          have m2 : (k + 1) * 64 ≤ 140737488355328 := by omega
          have hBs := HB.out.size
          have HR2 := fun o : Obj => own_dd (HR.out.alloc o)
          clear z6 z8 z16
          go_region_held_law (fun _ => True) (trivial)
            (first
              | (refine step_append_lies _ rfl _ _ 30 rfl w.heap.size 36 i0 _ 7 64 Try.underlying30 hi0 hz0 hz1 hz2 rfl (by decide) _ k _ rfl (HR2 _) ⟨_, 0, none⟩ 1 1 _ rfl rfl (news_dd _ _ _) (one_seven _ _ _ _ _ _ _) (by decide) m1 m2 (size_dd hBs) _ rfl ?_; intro g' cap' w1 hown' hgrow hat hlt)
              | (go_at_call 28; with_reducible refine (G6 _).mono ?_; rintro r w' ⟨rfl, rfl⟩)
              | (go_at_call 28; with_reducible refine (G8 _).mono ?_; rintro r w' ⟨rfl, rfl⟩)
              | (go_at_call 28; with_reducible refine (G16 _).mono ?_; rintro r w' ⟨rfl, rfl⟩))
          go_wp2
          have hge := row_ge7 HR.out
          rw [R1.out, R2.out, R3.out] at hown'
          refine ⟨⟨k + 1, _, by omega, ?_, rfl, ?_, ?_, ?_⟩, ?_⟩
          · have h1 := HO.out
            have e1 : (((k + 1) * 24 : Nat) : Int) = (o : Int) + 24 := by omega
            rw [e1]
          · intro y hy
            rw [eachL_succ, List.mem_append] at hy
            rcases hy with hy | hy
            · exact HOK.out y hy
            · obtain rfl : y = (k, b.extract (k * 24) ((k + 1) * 24)) := by simpa using hy
              show (symF (b.extract (k * 24) ((k + 1) * 24)) names).2 = 0
              rw [HE.out, HSY.out]
          · show World.ownsRow _ _ _ _ _ _ _
            rw [eachL_succ, cellsL_snoc]
            show World.ownsRow _ _ _ _ _ _ (cellsL names (eachL b 24 k) ++ (symF (b.extract (k * 24) ((k + 1) * 24)) names).1.cells)
            rw [HE.out, HSY.out]
            exact hown'
          · exact (((HB.out.alloc hBs _).drew).drew).grown hgrow (size_dd hBs) (fun j ej => hge j ej)
          · simp [intOf]
            omega
    · obtain rfl : k = n := by omega
      go_wp2
      refine ⟨rfl, _, results_three' rfl _ _, .inr (.inr ⟨HH.out.1, by have := HH.out.2; omega, .inl ⟨_, rfl, ?_, ?_⟩⟩), HB.out⟩
      · rw [HH.out.2]; exact HR.out
      · rw [HH.out.2]; exact HOK.out

theorem rread_any (b names : ByteArray) (w : World) (hb : b.size ≤ 140737488351232) (hnm : names.size ≤ 9223372036854775807) : Calls Try.prog 11 #[.string b, .string names] w (RReadPost w b names) := by
  by_cases h : b.size % 24 = 0
  · by_cases h2 : b.size / 24 ≤ 256
    · exact rread_few b names (b.size / 24) w hb hnm (by omega) h2
    · exact rread_many b names w hb h (by omega)
  · exact rread_form b names w hb h
end Go.Proofs.Ytackjpmpkklgiaa
