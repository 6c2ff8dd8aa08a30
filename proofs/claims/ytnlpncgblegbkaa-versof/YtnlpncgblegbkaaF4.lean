/-
  Layer 12: Numbers of any bytes.
-/
import Derived.Test.YtnlpncgblegbkaaF3
import Derived.Deep.Onto
import Derived.Test.YtnlpncgblegbkaaE1
namespace Go.Proofs.Ytnlpncgblegbkaa
open Go.RowKit Go.Shelf
set_option linter.unusedVariables false
attribute [local go_sem] Oper.semAt_some

abbrev Pn := Nat × ByteArray
def cellsI (l : List Pn) : List Value := l.map fun x => .int .i64 (num x.2)
theorem cellsI_snoc (l : List Pn) (x : Pn) : cellsI (l ++ [x]) = cellsI l ++ [.int .i64 (num x.2)] := by simp [cellsI]
/-- What Numbers keeps, round by round. -/
def MI (w : World) (b : ByteArray) (pre : List Pn) (W : World) : Prop :=
  (∃ v, Boxed W w.heap.size 49 v ∧ W.ownsRow (w.heap.size + 1 + 1 + 1) 3 1 v pre.length (cellsI pre) ∧ True) ∧
  (Boxed W (w.heap.size + 1) 9 (.string b) ∧ Boxed W (w.heap.size + 1 + 1) 3 (.int .i64 2)) ∧ Below w.heap.size w W
theorem MI_own (w : World) (b : ByteArray) (B : Nat) (hB : w.heap.size ≤ B) : OwnFrom B (MI w b) :=
  OwnFrom.and (Own.from (holdsRow_own (w.heap.size + 1 + 1 + 1) w.heap.size 49 3 1 (fun pre : List Pn => pre.length) (fun pre => cellsI pre) (fun pre v => True)) _)
    (OwnFrom.and (OwnFrom.and (Own.from (boxed_own _ _ _) _) (Own.from (boxed_own _ _ _) _)) (ownFrom_below (Nat.le_refl _) hB))
theorem Try.info3 : (Try.prog.info? 3).map (fun i => (i.zero, i.size, i.bytes)) = some (some (.int .i64 0), 1, 8) := by kernel_rfl

set_option maxRecDepth 100000 in
set_option maxHeartbeats 2000000 in
theorem numbers_any (b : ByteArray) (N : Nat) (w : World) (hb : b.size ≤ 1000) (hN : b.size / 2 = N) (hNm : N * 2 ≤ b.size) :
    Calls Try.prog 15 #[.string b] w fun e w' => (∃ v, e = .returned v ∧ w'.ownsRow w.heap.size 3 1 v N (cellsI (eachL b 2 N))) ∧ Below w.heap.size w w' := by
  refine (callsIn_wide (n := 4)).1 ?_
  refine callsIn_of_wp_marks Try.func15 rfl trivial ?_ rfl
  simp only [Try.ntmps15, List.size_toArray, List.length_cons, List.length_nil, Nat.reduceAdd, Nat.reduceSub, Array.replicate_succ, Array.replicate_zero, List.push_toArray, List.append_toArray, List.nil_append, List.cons_append]
  have f30 : Fence.wide.fn 30 := trivial
  gi_wp2_with (gi_at_call 30; refine (each_in Fence.wide 3 trivial rfl _ _ _).mono ?_; rintro e w' ⟨rfl, rfl⟩)
  have hW : ∃ W0 : World, (((w.alloc (Obj.cells #[Value.slice none 0 0] 49)).alloc (Obj.cells #[Value.string b] 9)).alloc (Obj.cells #[Value.int IntKind.i64 2] 3)) = W0 ∧ W0.heap.size = w.heap.size + 3 ∧ MI w b [] W0 := by
    refine ⟨_, rfl, by simp, ⟨⟨.slice none 0 0, ?_, World.ownsRow_nil _ _ _ _, trivial⟩, ⟨?_, ?_⟩, ?_⟩⟩
    · have h := (((Boxed.new w 49 (.slice none 0 0)).alloc (Obj.cells #[Value.string b] 9)).alloc (Obj.cells #[Value.int IntKind.i64 2] 3))
      exact h
    · have h := ((Boxed.new (w.alloc (Obj.cells #[Value.slice none 0 0] 49)) 9 (.string b)).alloc (Obj.cells #[Value.int IntKind.i64 2] 3))
      simp only [World.size_alloc] at h
      exact h
    · have h := (Boxed.new ((w.alloc (Obj.cells #[Value.slice none 0 0] 49)).alloc (Obj.cells #[Value.string b] 9)) 3 (.int .i64 2))
      simp only [World.size_alloc] at h
      exact h
    · exact (((Below.refl _ w).alloc (Nat.le_refl _) _).alloc (by simp) _).alloc (by simp; omega) _
  obtain ⟨W0, hW0, hsz, hI0⟩ := hW
  try simp only [World.size_alloc]
  rw [hW0]
  clear hW0
  refine wpIn_rangeFunc_ownH rfl (by omega) (gf := 41) (lb := #[.pointer (some ⟨w.heap.size + 1 + 1, 0, none⟩), .pointer (some ⟨w.heap.size + 1, 0, none⟩)]) rfl trivial (enters_of Try.func41 (by kernel_rfl) rfl)
    (each_stops Fence.wide 3 trivial rfl (by omega) (w.heap.size + 1 + 1) (w.heap.size + 1) b 2 N (by omega) (by omega) (by omega) hNm hN W0 hI0.2.1.2.cell hI0.2.1.1.cell) KZ.trans
    (fun W l o o' hl h hc hw => by
      have hB := belowK_b (n₀ := w.heap.size + 3) (w := W0) (by omega) W l o o' hl h hc hw
      exact ⟨hB.block _ (by omega), hB.block _ (by omega)⟩) (Below.refl _ _) (fun _ => rfl)
    (fun pre W => MI w b (pre.map Part.pl) W)
    (fun c pre W => False)
    (fun s X Y row hs hg hr => MI_own w b _ (by omega) (s.map Part.pl) X Y row hs hg hr) (fun c s X Y row hs hg hr => hs.elim)
    hI0
    (fun x a' W => a' = { tmps := #[.string b, undef, .slice none 0 0, .pointer (some ⟨w.heap.size, 0, none⟩), undef, .string x.p, .string b, .func (.func 41) #[] #[.pointer (some ⟨w.heap.size + 1 + 1, 0, none⟩), .pointer (some ⟨w.heap.size + 1, 0, none⟩)], .int .i64 (x.i : Int), .string x.p, undef, undef, undef, undef, undef, undef, undef], defers := [] })
    (fun x a' _ X Y row hs hg hr => hs)
    ?assign ?body ?done ?stop
  case assign =>
    rintro l pre ⟨xi, xe, hxi, hxe⟩ W K hI hK
    gi_wp2
    exact hK _ _ (KeepsFrom.refl _ _) (KZ.refl _ _ _) hI rfl
  case body =>
    rintro l pre ⟨xi, xe, hxi, hxe⟩ a' W hl ⟨r, hr⟩ hI rfl hlt
    obtain ⟨⟨v, bv, hrow, -⟩, ⟨bS, bZ⟩, hB⟩ := hI
    have cV := bv.cell
    have hVl := bv.lt
    have hnum : Hid (∀ X : World, Calls Try.prog 28 #[.string xe] X fun r w' => r = .returned (.int .u64 (num xe)) ∧ w' = X) := fun X => get_any xe X (by unfold maxLen; omega)
    have n1 := (num_bounds xe).1
    have n2 := num_lt4 xe (by omega)
    obtain ⟨i0, hi0, hz0, hz1, hz2⟩ := info_parts Try.info3
    have f28 : Fence.wide.fn 28 := trivial
    have mixed : Try.prog.follows .mixedOrders = true := by kernel_rfl
    gi_wp2
    have hwr : IntKind.wrap .i64 (num xe) = num xe := wrap_small _ n1 (by omega)
    have hBs := hB.size
    have hR : w.heap.size + 1 + 1 + 1 ≤ W.heap.size := by have := (Array.getElem?_eq_some_iff.1 hr).1; omega
    obtain ⟨v', w1, hrun, r1, r2, r3⟩ := run_append_own (P := Try.prog) (W.drew.alloc (Obj.cells #[.int .i64 (num xe)] 3)) (w.heap.size + 1 + 1 + 1) 49 49 3 i0 _ 1 8 Try.underlying49 hi0 hz0 hz1 hz2 rfl (by decide) v _ _ ((hrow.drew).alloc _) ⟨W.heap.size, 0, none⟩ 1 1 [.int .i64 (num xe)] rfl
      (fun j u hu => by match j, hu with
                        | 0, hu => simp at hu; subst hu; simp [go_sem]
                        | j + 1, hu => simp at hu)
      (fun u hu => by simp at hu; subst hu; rfl) (by unfold maxLen; simp; omega) (by simp; omega) (by simp; omega)
    obtain ⟨g', cap', rfl⟩ := ownsRow_succ r1
    have bd : Boxed W.drew w.heap.size 49 v := bv
    obtain ⟨hv1, hv2, hr2, hk2, hb2⟩ := bd.appended (by decide) (hrow.drew.mono (base' := w.heap.size) (by omega)) hBs (Nat.le_refl _) (r1.mono (base' := w.heap.size) (by omega)) r2
    have hc1 := hv1.cell
    have hf1 := hv1.frozen
    have hr3 := ownsRow_setCell_below r1 (a := ⟨w.heap.size, 0, none⟩) (by simp; omega)
    have keep : ∀ B, w.heap.size < B → B < w.heap.size + 1 + 1 + 1 → ∀ u, (w1.setCell ⟨w.heap.size, 0, none⟩ u).heap[B]? = W.heap[B]? := by
      intro B h1 h2 u
      exact (Below.heap_setCell _ _ _ _ (by simp; omega)).trans ((r2.block B (by simp; omega) (fun hh => by have := (hrow.lt _ hh.symm).1; omega)).trans (Below.heap_alloc W.drew _ B (by simp; omega)))
    have e1 : (List.map Part.pl (pre ++ [⟨xi, xe, hxi, hxe⟩])).length = (List.map Part.pl pre).length + 1 := by simp
    have e2 : cellsI (List.map Part.pl (pre ++ [⟨xi, xe, hxi, hxe⟩])) = cellsI (List.map Part.pl pre) ++ [Value.int .i64 (num xe)] := by
      rw [List.map_append]
      exact cellsI_snoc _ _
    have FIN : ∀ u, u = Value.slice (some ⟨g', 0, none⟩) ((List.map Part.pl pre).length + 1) cap' → KeepsOthers W (w1.setCell ⟨w.heap.size, 0, none⟩ u) ∧ KZ (w.heap.size + 1 + 1) (w.heap.size + 1) W (w1.setCell ⟨w.heap.size, 0, none⟩ u) ∧ MI w b (List.map Part.pl (pre ++ [⟨xi, xe, hxi, hxe⟩])) (w1.setCell ⟨w.heap.size, 0, none⟩ u) := by
      rintro u rfl
      refine ⟨(keepsOthers_drewN W 1).trans hk2, ⟨keep _ (by omega) (by omega) _, keep _ (by omega) (by omega) _⟩, ⟨_, hv2, ?_, trivial⟩, ⟨?_, ?_⟩, hB.trans ((below_drewN (Below.refl _ W) 1).trans hb2)⟩
      · rw [e1, e2]; exact hr3 _
      · exact (keep _ (by omega) (by omega) _).trans bS
      · exact (keep _ (by omega) (by omega) _).trans bZ
    have HF : Hid (∀ u, u = Value.slice (some ⟨g', 0, none⟩) (pre.length + 1) cap' → KeepsOthers W (w1.setCell ⟨w.heap.size, 0, none⟩ u) ∧ KZ (w.heap.size + 1 + 1) (w.heap.size + 1) W (w1.setCell ⟨w.heap.size, 0, none⟩ u) ∧ MI w b (List.map Part.pl (pre ++ [⟨xi, xe, hxi, hxe⟩])) (w1.setCell ⟨w.heap.size, 0, none⟩ u)) := fun u hu => FIN u (by rw [hu]; simp)
    clear FIN keep hr3 e1 e2 hr2 hk2 hb2 hv2
    refine wpIn_region_any mixed ?_
    change wpAnyIn _ _ _ _ _ _ _ _ _ (World.drew _)
    · refine wpAnyIn_ready (rs := [0, 1]) (by kernel_rfl) (by simp) ?_
      refine AllReadyIn.cons rfl (fun K hK => ?_) ?_
      · go_simp
        try (refine hK _ _ ?_; clear hK K)
        · refine wpAnyIn_ready (rs := [1]) (by kernel_rfl) (by simp) ?_
          refine AllReadyIn.cons rfl (fun K hK => ?_) AllReadyIn.nil
          go_simp
          try (refine hK _ _ ?_; clear hK K)
          · refine wpAnyIn_ready (rs := [2]) (by kernel_rfl) (by simp) ?_
            refine AllReadyIn.cons rfl (fun K hK => ?_) AllReadyIn.nil
            go_simp
            gi_wp2_with (gi_at_call 28; refine (CallsIn.inRound l (callsIn_wide.2 (hnum.out _))).mono ?_; rintro e w' ⟨rfl, rfl⟩)
            try (refine hK _ _ ?_; clear hK K)
            · refine wpAnyIn_ready (rs := [3]) (by kernel_rfl) (by simp) ?_
              refine AllReadyIn.cons rfl (fun K hK => ?_) AllReadyIn.nil
              go_simp
              try (refine hK _ _ ?_; clear hK K)
              · refine wpAnyIn_ready (rs := [4]) (by kernel_rfl) (by simp) ?_
                refine AllReadyIn.cons rfl (fun K hK => ?_) AllReadyIn.nil
                go_simp
                try (refine hK _ _ ?_; clear hK K)
                · refine any_append 5 { dst := some 15, op := Op.call { callee := Callee.builtin Builtin.append, args := #[Operand.tmp 10, Operand.tmp 14], argTypes := #[49, 49] }, type := 49, pos := "vers.go:109", after := #[{ on := 0, ground := Ground.data }, { on := 4, ground := Ground.data }, { on := 2, ground := Ground.chain }], guard := none } (by kernel_rfl) rfl (.tmp 10) (.tmp 14) 49 rfl rfl v _ w1 ⟨W.heap.size, 0, none⟩ 1 1 rfl rfl hrun ?_
                  · refine wpAnyIn_ready (rs := [6]) (by kernel_rfl) (by simp) ?_
                    refine AllReadyIn.cons rfl (fun K hK => ?_) AllReadyIn.nil
                    go_simp
                    try (refine hK _ _ ?_; clear hK K)
                    · refine wpAnyIn_done (by kernel_rfl) ?_ _
                      gi_wp2
                      obtain ⟨x1, x2, x3⟩ := HF.out _ rfl
                      exact ⟨x1.from _, x2, x3⟩
      refine AllReadyIn.cons rfl (fun K hK => ?_) AllReadyIn.nil
      go_simp
      try (refine hK _ _ ?_; clear hK K)
      · refine wpAnyIn_ready (rs := [0, 2]) (by kernel_rfl) (by simp) ?_
        refine AllReadyIn.cons rfl (fun K hK => ?_) ?_
        · go_simp
          try (refine hK _ _ ?_; clear hK K)
          · refine wpAnyIn_ready (rs := [2]) (by kernel_rfl) (by simp) ?_
            refine AllReadyIn.cons rfl (fun K hK => ?_) AllReadyIn.nil
            go_simp
            gi_wp2_with (gi_at_call 28; refine (CallsIn.inRound l (callsIn_wide.2 (hnum.out _))).mono ?_; rintro e w' ⟨rfl, rfl⟩)
            try (refine hK _ _ ?_; clear hK K)
            · refine wpAnyIn_ready (rs := [3]) (by kernel_rfl) (by simp) ?_
              refine AllReadyIn.cons rfl (fun K hK => ?_) AllReadyIn.nil
              go_simp
              try (refine hK _ _ ?_; clear hK K)
              · refine wpAnyIn_ready (rs := [4]) (by kernel_rfl) (by simp) ?_
                refine AllReadyIn.cons rfl (fun K hK => ?_) AllReadyIn.nil
                go_simp
                try (refine hK _ _ ?_; clear hK K)
                · refine any_append 5 { dst := some 15, op := Op.call { callee := Callee.builtin Builtin.append, args := #[Operand.tmp 10, Operand.tmp 14], argTypes := #[49, 49] }, type := 49, pos := "vers.go:109", after := #[{ on := 0, ground := Ground.data }, { on := 4, ground := Ground.data }, { on := 2, ground := Ground.chain }], guard := none } (by kernel_rfl) rfl (.tmp 10) (.tmp 14) 49 rfl rfl v _ w1 ⟨W.heap.size, 0, none⟩ 1 1 rfl rfl hrun ?_
                  · refine wpAnyIn_ready (rs := [6]) (by kernel_rfl) (by simp) ?_
                    refine AllReadyIn.cons rfl (fun K hK => ?_) AllReadyIn.nil
                    go_simp
                    try (refine hK _ _ ?_; clear hK K)
                    · refine wpAnyIn_done (by kernel_rfl) ?_ _
                      gi_wp2
                      obtain ⟨x1, x2, x3⟩ := HF.out _ rfl
                      exact ⟨x1.from _, x2, x3⟩
        refine AllReadyIn.cons rfl (fun K hK => ?_) AllReadyIn.nil
        go_simp
        gi_wp2_with (gi_at_call 28; refine (CallsIn.inRound l (callsIn_wide.2 (hnum.out _))).mono ?_; rintro e w' ⟨rfl, rfl⟩)
        try (refine hK _ _ ?_; clear hK K)
        · refine wpAnyIn_ready (rs := [0, 3]) (by kernel_rfl) (by simp) ?_
          refine AllReadyIn.cons rfl (fun K hK => ?_) ?_
          · go_simp
            try (refine hK _ _ ?_; clear hK K)
            · refine wpAnyIn_ready (rs := [3]) (by kernel_rfl) (by simp) ?_
              refine AllReadyIn.cons rfl (fun K hK => ?_) AllReadyIn.nil
              go_simp
              try (refine hK _ _ ?_; clear hK K)
              · refine wpAnyIn_ready (rs := [4]) (by kernel_rfl) (by simp) ?_
                refine AllReadyIn.cons rfl (fun K hK => ?_) AllReadyIn.nil
                go_simp
                try (refine hK _ _ ?_; clear hK K)
                · refine any_append 5 { dst := some 15, op := Op.call { callee := Callee.builtin Builtin.append, args := #[Operand.tmp 10, Operand.tmp 14], argTypes := #[49, 49] }, type := 49, pos := "vers.go:109", after := #[{ on := 0, ground := Ground.data }, { on := 4, ground := Ground.data }, { on := 2, ground := Ground.chain }], guard := none } (by kernel_rfl) rfl (.tmp 10) (.tmp 14) 49 rfl rfl v _ w1 ⟨W.heap.size, 0, none⟩ 1 1 rfl rfl hrun ?_
                  · refine wpAnyIn_ready (rs := [6]) (by kernel_rfl) (by simp) ?_
                    refine AllReadyIn.cons rfl (fun K hK => ?_) AllReadyIn.nil
                    go_simp
                    try (refine hK _ _ ?_; clear hK K)
                    · refine wpAnyIn_done (by kernel_rfl) ?_ _
                      gi_wp2
                      obtain ⟨x1, x2, x3⟩ := HF.out _ rfl
                      exact ⟨x1.from _, x2, x3⟩
          refine AllReadyIn.cons rfl (fun K hK => ?_) AllReadyIn.nil
          go_simp
          try (refine hK _ _ ?_; clear hK K)
          · refine wpAnyIn_ready (rs := [0, 4]) (by kernel_rfl) (by simp) ?_
            refine AllReadyIn.cons rfl (fun K hK => ?_) ?_
            · go_simp
              try (refine hK _ _ ?_; clear hK K)
              · refine wpAnyIn_ready (rs := [4]) (by kernel_rfl) (by simp) ?_
                refine AllReadyIn.cons rfl (fun K hK => ?_) AllReadyIn.nil
                go_simp
                try (refine hK _ _ ?_; clear hK K)
                · refine any_append 5 { dst := some 15, op := Op.call { callee := Callee.builtin Builtin.append, args := #[Operand.tmp 10, Operand.tmp 14], argTypes := #[49, 49] }, type := 49, pos := "vers.go:109", after := #[{ on := 0, ground := Ground.data }, { on := 4, ground := Ground.data }, { on := 2, ground := Ground.chain }], guard := none } (by kernel_rfl) rfl (.tmp 10) (.tmp 14) 49 rfl rfl v _ w1 ⟨W.heap.size, 0, none⟩ 1 1 rfl rfl hrun ?_
                  · refine wpAnyIn_ready (rs := [6]) (by kernel_rfl) (by simp) ?_
                    refine AllReadyIn.cons rfl (fun K hK => ?_) AllReadyIn.nil
                    go_simp
                    try (refine hK _ _ ?_; clear hK K)
                    · refine wpAnyIn_done (by kernel_rfl) ?_ _
                      gi_wp2
                      obtain ⟨x1, x2, x3⟩ := HF.out _ rfl
                      exact ⟨x1.from _, x2, x3⟩
            refine AllReadyIn.cons rfl (fun K hK => ?_) AllReadyIn.nil
            go_simp
            try (refine hK _ _ ?_; clear hK K)
            · refine wpAnyIn_ready (rs := [0]) (by kernel_rfl) (by simp) ?_
              refine AllReadyIn.cons rfl (fun K hK => ?_) AllReadyIn.nil
              go_simp
              try (refine hK _ _ ?_; clear hK K)
              · refine any_append 5 { dst := some 15, op := Op.call { callee := Callee.builtin Builtin.append, args := #[Operand.tmp 10, Operand.tmp 14], argTypes := #[49, 49] }, type := 49, pos := "vers.go:109", after := #[{ on := 0, ground := Ground.data }, { on := 4, ground := Ground.data }, { on := 2, ground := Ground.chain }], guard := none } (by kernel_rfl) rfl (.tmp 10) (.tmp 14) 49 rfl rfl v _ w1 ⟨W.heap.size, 0, none⟩ 1 1 rfl rfl hrun ?_
                · refine wpAnyIn_ready (rs := [6]) (by kernel_rfl) (by simp) ?_
                  refine AllReadyIn.cons rfl (fun K hK => ?_) AllReadyIn.nil
                  go_simp
                  try (refine hK _ _ ?_; clear hK K)
                  · refine wpAnyIn_done (by kernel_rfl) ?_ _
                    gi_wp2
                    obtain ⟨x1, x2, x3⟩ := HF.out _ rfl
                    exact ⟨x1.from _, x2, x3⟩
  case done =>
    rintro D ys W hD rfl ⟨⟨v, bv, hrow, -⟩, ⟨bS, bZ⟩, hB⟩ hK
    obtain ⟨vb, vn, vc, rfl⟩ := ownsRow_slice hrow
    have cV := bv.cell
    have lV := bv.lt
    have HR : Hid (W.ownsRow (w.heap.size + 1 + 1 + 1) 3 1 (.slice vb vn vc) N (cellsI (eachL b 2 N))) := by
      rw [List.length_map, eachP_length, eachP_pl] at hrow
      exact hrow
    have HB : Hid (Below w.heap.size w W) := hB
    clear bv hrow bS bZ hB
    gi_wp2
    have hbz := belowK_b (n₀ := w.heap.size + 3) (w := W0) (by omega) W D _ (.deferred none) hD hK rfl rfl
    refine ⟨by simp, .inl ⟨_, _, rfl, run_takeDeferred hK, ?_⟩⟩
    refine ⟨.slice vb vn vc, by simp [results, go_sem], ⟨⟨_, rfl, ?_⟩, ?_⟩⟩
    · exact ownsRow_putObj (HR.out.mono (base' := w.heap.size) (by omega)) _ hK rfl
    · exact HB.out.trans (hbz.mono (by omega))
  case stop =>
    rintro D c pre W hD hSp hF
    exact hF.elim
end Go.Proofs.Ytnlpncgblegbkaa
