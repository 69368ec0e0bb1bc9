/- Parts: Field. -/
import Derived.Test.YtbmnloelimmgiaaFq22
import Derived.Laws.EntriesVeiled
set_option linter.unusedVariables false
set_option linter.unusedSimpArgs false

namespace Go.Proofs.Ytbmnloelimmgiaa
set_option maxRecDepth 100000
open Go.RowKit Go.Shelf


set_option maxHeartbeats 40000000 in
theorem field_core {a1 a2 a3 a4 b1 b2 b3 b4 c1 c2 c3 c4 : Value} {a b c : Rat} {w : World} (h1 : Qi w a1 a2 a3 a4 a 6) (h2 : Qi w b1 b2 b3 b4 b 6) (h3 : Qi w c1 c2 c3 c4 c 6)
    (hL : ∀ (V : World) (g : Nat), V.heap[g]? = some (.cells #[a1, a2, a3, a4, b1, b2, b3, b4, c1, c2, c3, c4] 26 (0, 0)) → Calls Try.prog 6 #[.slice (some ⟨g, 0, none⟩) 3 3] V fun e w' => e = .returned (.bool false) ∧ Below V.heap.size V w') :
    Calls Try.prog 3 #[.agg #[a1, a2, a3, a4], .agg #[b1, b2, b3, b4], .agg #[c1, c2, c3, c4]] w fun e w' => e = .returned (.bool true) ∧ Below w.heap.size w w' := by
  have mA : Qm 6 a := h1.qm (by decide)
  have mB : Qm 6 b := h2.qm (by decide)
  have mC : Qm 6 c := h3.qm (by decide)
  obtain ⟨W0, hW0⟩ : ∃ W0, W0 = (((w.alloc (.cells #[a1, a2, a3, a4] 26)).alloc (.cells #[b1, b2, b3, b4] 26)).alloc (.cells #[c1, c2, c3, c4] 26)).alloc (.cells #[a1, a2, a3, a4, b1, b2, b3, b4, c1, c2, c3, c4] 26) := ⟨_, rfl⟩
  have hb : Below w.heap.size w W0 := by rw [hW0]; exact ((((Below.refl _ _).alloc (Nat.le_refl _) _).alloc (by simp) _).alloc (by simp; omega) _).alloc (by simp; omega) _
  have VA : Qb W0 w.heap.size a1 a2 a3 a4 a 6 := ⟨by rw [hW0]; exact (((Four.new w _ _ _ _ _).alloc _).alloc _).alloc _, h1.to hb⟩
  have VB : Qb W0 (w.heap.size + 1) b1 b2 b3 b4 b 6 := ⟨by
    have h := Four.new (w.alloc (.cells #[a1, a2, a3, a4] 26)) b1 b2 b3 b4 26
    rw [World.size_alloc] at h
    rw [hW0]; exact (h.alloc _).alloc _, h2.to hb⟩
  have VC : Qb W0 (w.heap.size + 1 + 1) c1 c2 c3 c4 c 6 := ⟨by
    have h := Four.new ((w.alloc (.cells #[a1, a2, a3, a4] 26)).alloc (.cells #[b1, b2, b3, b4] 26)) c1 c2 c3 c4 26
    rw [World.size_alloc, World.size_alloc] at h
    rw [hW0]; exact h.alloc _, h3.to hb⟩
  have HL : Hid (Calls Try.prog 6 #[.slice (some ⟨w.heap.size + 1 + 1 + 1, 0, none⟩) 3 3] W0 fun e w' => e = .returned (.bool false) ∧ Below W0.heap.size W0 w') := by
    have h := World.alloc_heap_new (((w.alloc (.cells #[a1, a2, a3, a4] 26)).alloc (.cells #[b1, b2, b3, b4] 26)).alloc (.cells #[c1, c2, c3, c4] 26)) (.cells #[a1, a2, a3, a4, b1, b2, b3, b4, c1, c2, c3, c4] 26)
    rw [World.size_alloc, World.size_alloc, World.size_alloc, ← hW0] at h
    exact hL W0 (w.heap.size + 1 + 1 + 1) h
  have HW0 := Lib.hid hW0
  have HB0 := Lib.hid hb
  clear hL h1 h2 h3 hW0 hb
  go_enter Try.func3, Try.ntmps3
  go_wp2_with fail
  rw [← HW0.out]
  clear HW0
  refine HL.out.mono ?_
  rintro e W1 ⟨rfl, bb⟩
  clear HL
  replace VA := VA.to bb
  replace VB := VB.to bb
  replace VC := VC.to bb
  replace HB0 := Lib.hid (HB0.out.trans (bb.mono HB0.out.size))
  clear bb
  go_wp2_with fail
  have bsz := HB0.out.size
  clear bsz
  refine wp_cut (fun a' v' w' => ∃ (g1 g2 : Nat) (u10 u11 u12 u13 u20 u21 u22 u23 x0 x1 x2 x3 : Value), v' = ((((((((a'.put (some 20) x0).put (some 21) x1).put (some 23) x2).put (some 24) x3).put (some 22) (.agg #[u10, u11, u12, u13])).put (some 25) (.agg #[u20, u21, u22, u23])).put (some 8) (.pointer (some ⟨g1, 0, none⟩))).put (some 9) (.pointer (some ⟨g2, 0, none⟩))) ∧ Four w' g1 u10 u11 u12 u13 ∧ Four w' g2 u20 u21 u22 u23 ∧ Qc w' u10 u11 u12 u13 (a + b) ∧ Qc w' u20 u21 u22 u23 (b + c) ∧ Below W1.heap.size W1 w') ?_ ?_
  · refine wp_region_planTo (S := fun w' => Below W1.heap.size W1 w') [(0, true), (1, true), (3, true), (4, true)] #[true, true, false, true, true, false, false, false, false, false] 6 (by kernel_rfl) (by kernel_rfl) (Below.refl _ _).drew ?_
    refine plan_take rfl (by rfl) (fun w' hS => load_four (by rfl) (VA.four.to hS)) ?_; simp only [Act.put, List.setIfInBounds_toArray, List.set_cons_zero, List.set_cons_succ]
    refine plan_take rfl (by rfl) (fun w' hS => load_four (by rfl) (VB.four.to hS)) ?_; simp only [Act.put, List.setIfInBounds_toArray, List.set_cons_zero, List.set_cons_succ]
    refine plan_take rfl (by rfl) (fun w' hS => load_four (by rfl) (VB.four.to hS)) ?_; simp only [Act.put, List.setIfInBounds_toArray, List.set_cons_zero, List.set_cons_succ]
    refine plan_take rfl (by rfl) (fun w' hS => load_four (by rfl) (VC.four.to hS)) ?_; simp only [Act.put, List.setIfInBounds_toArray, List.set_cons_zero, List.set_cons_succ]
    intro HB
    refine wpAnyH_ready (rs := [2, 6, 7]) (by kernel_rfl) (by simp) (ready_cons rfl (by rfl) (fun K hK => ?_) (ready_cons rfl (by rfl) (fun K hK => ?_) (ready_cons rfl (by rfl) (fun K hK => ?_) AllReadyH.nil)))
    · go_simp
      refine (add_q (VA.qi.to HB) (VB.qi.to HB) (by decide) (by decide) (by decide)).mono ?_
      rintro e V ⟨u10, u11, u12, u13, rfl, r1, bb⟩
      replace HB := HB.trans (bb.mono HB.size)
      refine hK.out _ _ HB ?_
      clear hK K bb
      refine wpAnyH_ready (rs := [5, 6, 7]) (by kernel_rfl) (by simp) (ready_cons rfl (by rfl) (fun K hK => ?_) (ready_cons rfl (by rfl) (fun K hK => ?_) (ready_cons rfl (by rfl) (fun K hK => ?_) AllReadyH.nil)))
      · go_simp
        refine (add_q (VB.qi.to HB) (VC.qi.to HB) (by decide) (by decide) (by decide)).mono ?_
        rintro e V ⟨u20, u21, u22, u23, rfl, r2, bb⟩
        replace HB := HB.trans (bb.mono HB.size)
        replace r1 := r1.to bb
        refine hK.out _ _ HB ?_
        clear hK K bb
        refine wpAnyH_ready (rs := [6, 7]) (by kernel_rfl) (by simp) (ready_cons rfl (by rfl) (fun K hK => ?_) (ready_cons rfl (by rfl) (fun K hK => ?_) AllReadyH.nil))
        · refine wp_alloc_four (fun g1 V t1 bb hg => ?_)
          have b1 := Nat.le_trans HB.size hg
          replace HB := HB.trans (bb.mono HB.size)
          replace r1 := r1.to bb
          replace r2 := r2.to bb
          refine hK.out _ _ HB ?_
          clear hK K bb hg
          simp only [Act.put, List.setIfInBounds_toArray, List.set_cons_zero, List.set_cons_succ]
          refine wpAnyH_ready (rs := [7]) (by kernel_rfl) (by simp) (ready_cons rfl (by rfl) (fun K hK => ?_) AllReadyH.nil)
          · refine wp_alloc_four (fun g2 V t2 bb hg => ?_)
            have b2 := Nat.le_trans HB.size hg
            replace HB := HB.trans (bb.mono HB.size)
            have ne : g1 ≠ g2 := Nat.ne_of_lt (Nat.lt_of_lt_of_le t1.lt hg)
            replace t1 := t1.to bb
            replace r1 := r1.to bb
            replace r2 := r2.to bb
            refine hK.out _ _ HB ?_
            clear hK K bb hg
            simp only [Act.put, List.setIfInBounds_toArray, List.set_cons_zero, List.set_cons_succ]
            refine wpAnyH_ready (rs := [8]) (by kernel_rfl) (by simp) (ready_cons rfl (by rfl) (fun K hK => ?_) AllReadyH.nil)
            · refine wp_store_q (by rfl) (by rfl) t1 Fq.nil r1.fq (fun V u kp => ?_)
              replace t2 := kp.four (Ne.symm ne) t2
              replace r1 := kp.qc r1
              replace r2 := kp.qc r2
              replace HB := kp.bel _ _ HB b1
              clear t1
              have t1 := u
              refine hK.out _ _ HB ?_
              clear hK K kp u
              simp only [Act.put, List.setIfInBounds_toArray, List.set_cons_zero, List.set_cons_succ]
              refine wpAnyH_ready (rs := [9]) (by kernel_rfl) (by simp) (ready_cons rfl (by rfl) (fun K hK => ?_) AllReadyH.nil)
              · refine wp_store_q (by rfl) (by rfl) t2 Fq.nil r2.fq (fun V u kp => ?_)
                replace t1 := kp.four ne t1
                replace r1 := kp.qc r1
                replace r2 := kp.qc r2
                replace HB := kp.bel _ _ HB b2
                clear t2
                have t2 := u
                refine hK.out _ _ HB ?_
                clear hK K kp u
                simp only [Act.put, List.setIfInBounds_toArray, List.set_cons_zero, List.set_cons_succ]
                exact wpAnyH_done (by kernel_rfl) ⟨rfl, g1, g2, _, _, _, _, _, _, _, _, _, _, _, _,  by rfl, t1, t2, r1, r2, HB⟩ _
        · refine wp_alloc_four (fun g2 V t2 bb hg => ?_)
          have b2 := Nat.le_trans HB.size hg
          replace HB := HB.trans (bb.mono HB.size)
          replace r1 := r1.to bb
          replace r2 := r2.to bb
          refine hK.out _ _ HB ?_
          clear hK K bb hg
          simp only [Act.put, List.setIfInBounds_toArray, List.set_cons_zero, List.set_cons_succ]
          refine wpAnyH_ready (rs := [6]) (by kernel_rfl) (by simp) (ready_cons rfl (by rfl) (fun K hK => ?_) AllReadyH.nil)
          · refine wp_alloc_four (fun g1 V t1 bb hg => ?_)
            have b1 := Nat.le_trans HB.size hg
            replace HB := HB.trans (bb.mono HB.size)
            have ne : g1 ≠ g2 := Nat.ne_of_gt (Nat.lt_of_lt_of_le t2.lt hg)
            replace t2 := t2.to bb
            replace r1 := r1.to bb
            replace r2 := r2.to bb
            refine hK.out _ _ HB ?_
            clear hK K bb hg
            simp only [Act.put, List.setIfInBounds_toArray, List.set_cons_zero, List.set_cons_succ]
            refine wpAnyH_ready (rs := [8]) (by kernel_rfl) (by simp) (ready_cons rfl (by rfl) (fun K hK => ?_) AllReadyH.nil)
            · refine wp_store_q (by rfl) (by rfl) t1 Fq.nil r1.fq (fun V u kp => ?_)
              replace t2 := kp.four (Ne.symm ne) t2
              replace r1 := kp.qc r1
              replace r2 := kp.qc r2
              replace HB := kp.bel _ _ HB b1
              clear t1
              have t1 := u
              refine hK.out _ _ HB ?_
              clear hK K kp u
              simp only [Act.put, List.setIfInBounds_toArray, List.set_cons_zero, List.set_cons_succ]
              refine wpAnyH_ready (rs := [9]) (by kernel_rfl) (by simp) (ready_cons rfl (by rfl) (fun K hK => ?_) AllReadyH.nil)
              · refine wp_store_q (by rfl) (by rfl) t2 Fq.nil r2.fq (fun V u kp => ?_)
                replace t1 := kp.four ne t1
                replace r1 := kp.qc r1
                replace r2 := kp.qc r2
                replace HB := kp.bel _ _ HB b2
                clear t2
                have t2 := u
                refine hK.out _ _ HB ?_
                clear hK K kp u
                simp only [Act.put, List.setIfInBounds_toArray, List.set_cons_zero, List.set_cons_succ]
                exact wpAnyH_done (by kernel_rfl) ⟨rfl, g1, g2, _, _, _, _, _, _, _, _, _, _, _, _,  by rfl, t1, t2, r1, r2, HB⟩ _
      · refine wp_alloc_four (fun g1 V t1 bb hg => ?_)
        have b1 := Nat.le_trans HB.size hg
        replace HB := HB.trans (bb.mono HB.size)
        replace r1 := r1.to bb
        refine hK.out _ _ HB ?_
        clear hK K bb hg
        simp only [Act.put, List.setIfInBounds_toArray, List.set_cons_zero, List.set_cons_succ]
        refine wpAnyH_ready (rs := [5, 7]) (by kernel_rfl) (by simp) (ready_cons rfl (by rfl) (fun K hK => ?_) (ready_cons rfl (by rfl) (fun K hK => ?_) AllReadyH.nil))
        · go_simp
          refine (add_q (VB.qi.to HB) (VC.qi.to HB) (by decide) (by decide) (by decide)).mono ?_
          rintro e V ⟨u20, u21, u22, u23, rfl, r2, bb⟩
          replace HB := HB.trans (bb.mono HB.size)
          replace t1 := t1.to bb
          replace r1 := r1.to bb
          refine hK.out _ _ HB ?_
          clear hK K bb
          refine wpAnyH_ready (rs := [7]) (by kernel_rfl) (by simp) (ready_cons rfl (by rfl) (fun K hK => ?_) AllReadyH.nil)
          · refine wp_alloc_four (fun g2 V t2 bb hg => ?_)
            have b2 := Nat.le_trans HB.size hg
            replace HB := HB.trans (bb.mono HB.size)
            have ne : g1 ≠ g2 := Nat.ne_of_lt (Nat.lt_of_lt_of_le t1.lt hg)
            replace t1 := t1.to bb
            replace r1 := r1.to bb
            replace r2 := r2.to bb
            refine hK.out _ _ HB ?_
            clear hK K bb hg
            simp only [Act.put, List.setIfInBounds_toArray, List.set_cons_zero, List.set_cons_succ]
            refine wpAnyH_ready (rs := [8]) (by kernel_rfl) (by simp) (ready_cons rfl (by rfl) (fun K hK => ?_) AllReadyH.nil)
            · refine wp_store_q (by rfl) (by rfl) t1 Fq.nil r1.fq (fun V u kp => ?_)
              replace t2 := kp.four (Ne.symm ne) t2
              replace r1 := kp.qc r1
              replace r2 := kp.qc r2
              replace HB := kp.bel _ _ HB b1
              clear t1
              have t1 := u
              refine hK.out _ _ HB ?_
              clear hK K kp u
              simp only [Act.put, List.setIfInBounds_toArray, List.set_cons_zero, List.set_cons_succ]
              refine wpAnyH_ready (rs := [9]) (by kernel_rfl) (by simp) (ready_cons rfl (by rfl) (fun K hK => ?_) AllReadyH.nil)
              · refine wp_store_q (by rfl) (by rfl) t2 Fq.nil r2.fq (fun V u kp => ?_)
                replace t1 := kp.four ne t1
                replace r1 := kp.qc r1
                replace r2 := kp.qc r2
                replace HB := kp.bel _ _ HB b2
                clear t2
                have t2 := u
                refine hK.out _ _ HB ?_
                clear hK K kp u
                simp only [Act.put, List.setIfInBounds_toArray, List.set_cons_zero, List.set_cons_succ]
                exact wpAnyH_done (by kernel_rfl) ⟨rfl, g1, g2, _, _, _, _, _, _, _, _, _, _, _, _,  by rfl, t1, t2, r1, r2, HB⟩ _
        · refine wp_alloc_four (fun g2 V t2 bb hg => ?_)
          have b2 := Nat.le_trans HB.size hg
          replace HB := HB.trans (bb.mono HB.size)
          have ne : g1 ≠ g2 := Nat.ne_of_lt (Nat.lt_of_lt_of_le t1.lt hg)
          replace t1 := t1.to bb
          replace r1 := r1.to bb
          refine hK.out _ _ HB ?_
          clear hK K bb hg
          simp only [Act.put, List.setIfInBounds_toArray, List.set_cons_zero, List.set_cons_succ]
          refine wpAnyH_ready (rs := [5]) (by kernel_rfl) (by simp) (ready_cons rfl (by rfl) (fun K hK => ?_) AllReadyH.nil)
          · go_simp
            refine (add_q (VB.qi.to HB) (VC.qi.to HB) (by decide) (by decide) (by decide)).mono ?_
            rintro e V ⟨u20, u21, u22, u23, rfl, r2, bb⟩
            replace HB := HB.trans (bb.mono HB.size)
            replace t1 := t1.to bb
            replace t2 := t2.to bb
            replace r1 := r1.to bb
            refine hK.out _ _ HB ?_
            clear hK K bb
            refine wpAnyH_ready (rs := [8]) (by kernel_rfl) (by simp) (ready_cons rfl (by rfl) (fun K hK => ?_) AllReadyH.nil)
            · refine wp_store_q (by rfl) (by rfl) t1 Fq.nil r1.fq (fun V u kp => ?_)
              replace t2 := kp.four (Ne.symm ne) t2
              replace r1 := kp.qc r1
              replace r2 := kp.qc r2
              replace HB := kp.bel _ _ HB b1
              clear t1
              have t1 := u
              refine hK.out _ _ HB ?_
              clear hK K kp u
              simp only [Act.put, List.setIfInBounds_toArray, List.set_cons_zero, List.set_cons_succ]
              refine wpAnyH_ready (rs := [9]) (by kernel_rfl) (by simp) (ready_cons rfl (by rfl) (fun K hK => ?_) AllReadyH.nil)
              · refine wp_store_q (by rfl) (by rfl) t2 Fq.nil r2.fq (fun V u kp => ?_)
                replace t1 := kp.four ne t1
                replace r1 := kp.qc r1
                replace r2 := kp.qc r2
                replace HB := kp.bel _ _ HB b2
                clear t2
                have t2 := u
                refine hK.out _ _ HB ?_
                clear hK K kp u
                simp only [Act.put, List.setIfInBounds_toArray, List.set_cons_zero, List.set_cons_succ]
                exact wpAnyH_done (by kernel_rfl) ⟨rfl, g1, g2, _, _, _, _, _, _, _, _, _, _, _, _,  by rfl, t1, t2, r1, r2, HB⟩ _
      · refine wp_alloc_four (fun g2 V t2 bb hg => ?_)
        have b2 := Nat.le_trans HB.size hg
        replace HB := HB.trans (bb.mono HB.size)
        replace r1 := r1.to bb
        refine hK.out _ _ HB ?_
        clear hK K bb hg
        simp only [Act.put, List.setIfInBounds_toArray, List.set_cons_zero, List.set_cons_succ]
        refine wpAnyH_ready (rs := [5, 6]) (by kernel_rfl) (by simp) (ready_cons rfl (by rfl) (fun K hK => ?_) (ready_cons rfl (by rfl) (fun K hK => ?_) AllReadyH.nil))
        · go_simp
          refine (add_q (VB.qi.to HB) (VC.qi.to HB) (by decide) (by decide) (by decide)).mono ?_
          rintro e V ⟨u20, u21, u22, u23, rfl, r2, bb⟩
          replace HB := HB.trans (bb.mono HB.size)
          replace t2 := t2.to bb
          replace r1 := r1.to bb
          refine hK.out _ _ HB ?_
          clear hK K bb
          refine wpAnyH_ready (rs := [6]) (by kernel_rfl) (by simp) (ready_cons rfl (by rfl) (fun K hK => ?_) AllReadyH.nil)
          · refine wp_alloc_four (fun g1 V t1 bb hg => ?_)
            have b1 := Nat.le_trans HB.size hg
            replace HB := HB.trans (bb.mono HB.size)
            have ne : g1 ≠ g2 := Nat.ne_of_gt (Nat.lt_of_lt_of_le t2.lt hg)
            replace t2 := t2.to bb
            replace r1 := r1.to bb
            replace r2 := r2.to bb
            refine hK.out _ _ HB ?_
            clear hK K bb hg
            simp only [Act.put, List.setIfInBounds_toArray, List.set_cons_zero, List.set_cons_succ]
            refine wpAnyH_ready (rs := [8]) (by kernel_rfl) (by simp) (ready_cons rfl (by rfl) (fun K hK => ?_) AllReadyH.nil)
            · refine wp_store_q (by rfl) (by rfl) t1 Fq.nil r1.fq (fun V u kp => ?_)
              replace t2 := kp.four (Ne.symm ne) t2
              replace r1 := kp.qc r1
              replace r2 := kp.qc r2
              replace HB := kp.bel _ _ HB b1
              clear t1
              have t1 := u
              refine hK.out _ _ HB ?_
              clear hK K kp u
              simp only [Act.put, List.setIfInBounds_toArray, List.set_cons_zero, List.set_cons_succ]
              refine wpAnyH_ready (rs := [9]) (by kernel_rfl) (by simp) (ready_cons rfl (by rfl) (fun K hK => ?_) AllReadyH.nil)
              · refine wp_store_q (by rfl) (by rfl) t2 Fq.nil r2.fq (fun V u kp => ?_)
                replace t1 := kp.four ne t1
                replace r1 := kp.qc r1
                replace r2 := kp.qc r2
                replace HB := kp.bel _ _ HB b2
                clear t2
                have t2 := u
                refine hK.out _ _ HB ?_
                clear hK K kp u
                simp only [Act.put, List.setIfInBounds_toArray, List.set_cons_zero, List.set_cons_succ]
                exact wpAnyH_done (by kernel_rfl) ⟨rfl, g1, g2, _, _, _, _, _, _, _, _, _, _, _, _,  by rfl, t1, t2, r1, r2, HB⟩ _
        · refine wp_alloc_four (fun g1 V t1 bb hg => ?_)
          have b1 := Nat.le_trans HB.size hg
          replace HB := HB.trans (bb.mono HB.size)
          have ne : g1 ≠ g2 := Nat.ne_of_gt (Nat.lt_of_lt_of_le t2.lt hg)
          replace t2 := t2.to bb
          replace r1 := r1.to bb
          refine hK.out _ _ HB ?_
          clear hK K bb hg
          simp only [Act.put, List.setIfInBounds_toArray, List.set_cons_zero, List.set_cons_succ]
          refine wpAnyH_ready (rs := [5]) (by kernel_rfl) (by simp) (ready_cons rfl (by rfl) (fun K hK => ?_) AllReadyH.nil)
          · go_simp
            refine (add_q (VB.qi.to HB) (VC.qi.to HB) (by decide) (by decide) (by decide)).mono ?_
            rintro e V ⟨u20, u21, u22, u23, rfl, r2, bb⟩
            replace HB := HB.trans (bb.mono HB.size)
            replace t1 := t1.to bb
            replace t2 := t2.to bb
            replace r1 := r1.to bb
            refine hK.out _ _ HB ?_
            clear hK K bb
            refine wpAnyH_ready (rs := [8]) (by kernel_rfl) (by simp) (ready_cons rfl (by rfl) (fun K hK => ?_) AllReadyH.nil)
            · refine wp_store_q (by rfl) (by rfl) t1 Fq.nil r1.fq (fun V u kp => ?_)
              replace t2 := kp.four (Ne.symm ne) t2
              replace r1 := kp.qc r1
              replace r2 := kp.qc r2
              replace HB := kp.bel _ _ HB b1
              clear t1
              have t1 := u
              refine hK.out _ _ HB ?_
              clear hK K kp u
              simp only [Act.put, List.setIfInBounds_toArray, List.set_cons_zero, List.set_cons_succ]
              refine wpAnyH_ready (rs := [9]) (by kernel_rfl) (by simp) (ready_cons rfl (by rfl) (fun K hK => ?_) AllReadyH.nil)
              · refine wp_store_q (by rfl) (by rfl) t2 Fq.nil r2.fq (fun V u kp => ?_)
                replace t1 := kp.four ne t1
                replace r1 := kp.qc r1
                replace r2 := kp.qc r2
                replace HB := kp.bel _ _ HB b2
                clear t2
                have t2 := u
                refine hK.out _ _ HB ?_
                clear hK K kp u
                simp only [Act.put, List.setIfInBounds_toArray, List.set_cons_zero, List.set_cons_succ]
                exact wpAnyH_done (by kernel_rfl) ⟨rfl, g1, g2, _, _, _, _, _, _, _, _, _, _, _, _,  by rfl, t1, t2, r1, r2, HB⟩ _
    · refine wp_alloc_four (fun g1 V t1 bb hg => ?_)
      have b1 := Nat.le_trans HB.size hg
      replace HB := HB.trans (bb.mono HB.size)
      refine hK.out _ _ HB ?_
      clear hK K bb hg
      simp only [Act.put, List.setIfInBounds_toArray, List.set_cons_zero, List.set_cons_succ]
      refine wpAnyH_ready (rs := [2, 7]) (by kernel_rfl) (by simp) (ready_cons rfl (by rfl) (fun K hK => ?_) (ready_cons rfl (by rfl) (fun K hK => ?_) AllReadyH.nil))
      · go_simp
        refine (add_q (VA.qi.to HB) (VB.qi.to HB) (by decide) (by decide) (by decide)).mono ?_
        rintro e V ⟨u10, u11, u12, u13, rfl, r1, bb⟩
        replace HB := HB.trans (bb.mono HB.size)
        replace t1 := t1.to bb
        refine hK.out _ _ HB ?_
        clear hK K bb
        refine wpAnyH_ready (rs := [5, 7]) (by kernel_rfl) (by simp) (ready_cons rfl (by rfl) (fun K hK => ?_) (ready_cons rfl (by rfl) (fun K hK => ?_) AllReadyH.nil))
        · go_simp
          refine (add_q (VB.qi.to HB) (VC.qi.to HB) (by decide) (by decide) (by decide)).mono ?_
          rintro e V ⟨u20, u21, u22, u23, rfl, r2, bb⟩
          replace HB := HB.trans (bb.mono HB.size)
          replace t1 := t1.to bb
          replace r1 := r1.to bb
          refine hK.out _ _ HB ?_
          clear hK K bb
          refine wpAnyH_ready (rs := [7]) (by kernel_rfl) (by simp) (ready_cons rfl (by rfl) (fun K hK => ?_) AllReadyH.nil)
          · refine wp_alloc_four (fun g2 V t2 bb hg => ?_)
            have b2 := Nat.le_trans HB.size hg
            replace HB := HB.trans (bb.mono HB.size)
            have ne : g1 ≠ g2 := Nat.ne_of_lt (Nat.lt_of_lt_of_le t1.lt hg)
            replace t1 := t1.to bb
            replace r1 := r1.to bb
            replace r2 := r2.to bb
            refine hK.out _ _ HB ?_
            clear hK K bb hg
            simp only [Act.put, List.setIfInBounds_toArray, List.set_cons_zero, List.set_cons_succ]
            refine wpAnyH_ready (rs := [8]) (by kernel_rfl) (by simp) (ready_cons rfl (by rfl) (fun K hK => ?_) AllReadyH.nil)
            · refine wp_store_q (by rfl) (by rfl) t1 Fq.nil r1.fq (fun V u kp => ?_)
              replace t2 := kp.four (Ne.symm ne) t2
              replace r1 := kp.qc r1
              replace r2 := kp.qc r2
              replace HB := kp.bel _ _ HB b1
              clear t1
              have t1 := u
              refine hK.out _ _ HB ?_
              clear hK K kp u
              simp only [Act.put, List.setIfInBounds_toArray, List.set_cons_zero, List.set_cons_succ]
              refine wpAnyH_ready (rs := [9]) (by kernel_rfl) (by simp) (ready_cons rfl (by rfl) (fun K hK => ?_) AllReadyH.nil)
              · refine wp_store_q (by rfl) (by rfl) t2 Fq.nil r2.fq (fun V u kp => ?_)
                replace t1 := kp.four ne t1
                replace r1 := kp.qc r1
                replace r2 := kp.qc r2
                replace HB := kp.bel _ _ HB b2
                clear t2
                have t2 := u
                refine hK.out _ _ HB ?_
                clear hK K kp u
                simp only [Act.put, List.setIfInBounds_toArray, List.set_cons_zero, List.set_cons_succ]
                exact wpAnyH_done (by kernel_rfl) ⟨rfl, g1, g2, _, _, _, _, _, _, _, _, _, _, _, _,  by rfl, t1, t2, r1, r2, HB⟩ _
        · refine wp_alloc_four (fun g2 V t2 bb hg => ?_)
          have b2 := Nat.le_trans HB.size hg
          replace HB := HB.trans (bb.mono HB.size)
          have ne : g1 ≠ g2 := Nat.ne_of_lt (Nat.lt_of_lt_of_le t1.lt hg)
          replace t1 := t1.to bb
          replace r1 := r1.to bb
          refine hK.out _ _ HB ?_
          clear hK K bb hg
          simp only [Act.put, List.setIfInBounds_toArray, List.set_cons_zero, List.set_cons_succ]
          refine wpAnyH_ready (rs := [5]) (by kernel_rfl) (by simp) (ready_cons rfl (by rfl) (fun K hK => ?_) AllReadyH.nil)
          · go_simp
            refine (add_q (VB.qi.to HB) (VC.qi.to HB) (by decide) (by decide) (by decide)).mono ?_
            rintro e V ⟨u20, u21, u22, u23, rfl, r2, bb⟩
            replace HB := HB.trans (bb.mono HB.size)
            replace t1 := t1.to bb
            replace t2 := t2.to bb
            replace r1 := r1.to bb
            refine hK.out _ _ HB ?_
            clear hK K bb
            refine wpAnyH_ready (rs := [8]) (by kernel_rfl) (by simp) (ready_cons rfl (by rfl) (fun K hK => ?_) AllReadyH.nil)
            · refine wp_store_q (by rfl) (by rfl) t1 Fq.nil r1.fq (fun V u kp => ?_)
              replace t2 := kp.four (Ne.symm ne) t2
              replace r1 := kp.qc r1
              replace r2 := kp.qc r2
              replace HB := kp.bel _ _ HB b1
              clear t1
              have t1 := u
              refine hK.out _ _ HB ?_
              clear hK K kp u
              simp only [Act.put, List.setIfInBounds_toArray, List.set_cons_zero, List.set_cons_succ]
              refine wpAnyH_ready (rs := [9]) (by kernel_rfl) (by simp) (ready_cons rfl (by rfl) (fun K hK => ?_) AllReadyH.nil)
              · refine wp_store_q (by rfl) (by rfl) t2 Fq.nil r2.fq (fun V u kp => ?_)
                replace t1 := kp.four ne t1
                replace r1 := kp.qc r1
                replace r2 := kp.qc r2
                replace HB := kp.bel _ _ HB b2
                clear t2
                have t2 := u
                refine hK.out _ _ HB ?_
                clear hK K kp u
                simp only [Act.put, List.setIfInBounds_toArray, List.set_cons_zero, List.set_cons_succ]
                exact wpAnyH_done (by kernel_rfl) ⟨rfl, g1, g2, _, _, _, _, _, _, _, _, _, _, _, _,  by rfl, t1, t2, r1, r2, HB⟩ _
      · refine wp_alloc_four (fun g2 V t2 bb hg => ?_)
        have b2 := Nat.le_trans HB.size hg
        replace HB := HB.trans (bb.mono HB.size)
        have ne : g1 ≠ g2 := Nat.ne_of_lt (Nat.lt_of_lt_of_le t1.lt hg)
        replace t1 := t1.to bb
        refine hK.out _ _ HB ?_
        clear hK K bb hg
        simp only [Act.put, List.setIfInBounds_toArray, List.set_cons_zero, List.set_cons_succ]
        refine wpAnyH_ready (rs := [2]) (by kernel_rfl) (by simp) (ready_cons rfl (by rfl) (fun K hK => ?_) AllReadyH.nil)
        · go_simp
          refine (add_q (VA.qi.to HB) (VB.qi.to HB) (by decide) (by decide) (by decide)).mono ?_
          rintro e V ⟨u10, u11, u12, u13, rfl, r1, bb⟩
          replace HB := HB.trans (bb.mono HB.size)
          replace t1 := t1.to bb
          replace t2 := t2.to bb
          refine hK.out _ _ HB ?_
          clear hK K bb
          refine wpAnyH_ready (rs := [5]) (by kernel_rfl) (by simp) (ready_cons rfl (by rfl) (fun K hK => ?_) AllReadyH.nil)
          · go_simp
            refine (add_q (VB.qi.to HB) (VC.qi.to HB) (by decide) (by decide) (by decide)).mono ?_
            rintro e V ⟨u20, u21, u22, u23, rfl, r2, bb⟩
            replace HB := HB.trans (bb.mono HB.size)
            replace t1 := t1.to bb
            replace t2 := t2.to bb
            replace r1 := r1.to bb
            refine hK.out _ _ HB ?_
            clear hK K bb
            refine wpAnyH_ready (rs := [8]) (by kernel_rfl) (by simp) (ready_cons rfl (by rfl) (fun K hK => ?_) AllReadyH.nil)
            · refine wp_store_q (by rfl) (by rfl) t1 Fq.nil r1.fq (fun V u kp => ?_)
              replace t2 := kp.four (Ne.symm ne) t2
              replace r1 := kp.qc r1
              replace r2 := kp.qc r2
              replace HB := kp.bel _ _ HB b1
              clear t1
              have t1 := u
              refine hK.out _ _ HB ?_
              clear hK K kp u
              simp only [Act.put, List.setIfInBounds_toArray, List.set_cons_zero, List.set_cons_succ]
              refine wpAnyH_ready (rs := [9]) (by kernel_rfl) (by simp) (ready_cons rfl (by rfl) (fun K hK => ?_) AllReadyH.nil)
              · refine wp_store_q (by rfl) (by rfl) t2 Fq.nil r2.fq (fun V u kp => ?_)
                replace t1 := kp.four ne t1
                replace r1 := kp.qc r1
                replace r2 := kp.qc r2
                replace HB := kp.bel _ _ HB b2
                clear t2
                have t2 := u
                refine hK.out _ _ HB ?_
                clear hK K kp u
                simp only [Act.put, List.setIfInBounds_toArray, List.set_cons_zero, List.set_cons_succ]
                exact wpAnyH_done (by kernel_rfl) ⟨rfl, g1, g2, _, _, _, _, _, _, _, _, _, _, _, _,  by rfl, t1, t2, r1, r2, HB⟩ _
    · refine wp_alloc_four (fun g2 V t2 bb hg => ?_)
      have b2 := Nat.le_trans HB.size hg
      replace HB := HB.trans (bb.mono HB.size)
      refine hK.out _ _ HB ?_
      clear hK K bb hg
      simp only [Act.put, List.setIfInBounds_toArray, List.set_cons_zero, List.set_cons_succ]
      refine wpAnyH_ready (rs := [2, 6]) (by kernel_rfl) (by simp) (ready_cons rfl (by rfl) (fun K hK => ?_) (ready_cons rfl (by rfl) (fun K hK => ?_) AllReadyH.nil))
      · go_simp
        refine (add_q (VA.qi.to HB) (VB.qi.to HB) (by decide) (by decide) (by decide)).mono ?_
        rintro e V ⟨u10, u11, u12, u13, rfl, r1, bb⟩
        replace HB := HB.trans (bb.mono HB.size)
        replace t2 := t2.to bb
        refine hK.out _ _ HB ?_
        clear hK K bb
        refine wpAnyH_ready (rs := [5, 6]) (by kernel_rfl) (by simp) (ready_cons rfl (by rfl) (fun K hK => ?_) (ready_cons rfl (by rfl) (fun K hK => ?_) AllReadyH.nil))
        · go_simp
          refine (add_q (VB.qi.to HB) (VC.qi.to HB) (by decide) (by decide) (by decide)).mono ?_
          rintro e V ⟨u20, u21, u22, u23, rfl, r2, bb⟩
          replace HB := HB.trans (bb.mono HB.size)
          replace t2 := t2.to bb
          replace r1 := r1.to bb
          refine hK.out _ _ HB ?_
          clear hK K bb
          refine wpAnyH_ready (rs := [6]) (by kernel_rfl) (by simp) (ready_cons rfl (by rfl) (fun K hK => ?_) AllReadyH.nil)
          · refine wp_alloc_four (fun g1 V t1 bb hg => ?_)
            have b1 := Nat.le_trans HB.size hg
            replace HB := HB.trans (bb.mono HB.size)
            have ne : g1 ≠ g2 := Nat.ne_of_gt (Nat.lt_of_lt_of_le t2.lt hg)
            replace t2 := t2.to bb
            replace r1 := r1.to bb
            replace r2 := r2.to bb
            refine hK.out _ _ HB ?_
            clear hK K bb hg
            simp only [Act.put, List.setIfInBounds_toArray, List.set_cons_zero, List.set_cons_succ]
            refine wpAnyH_ready (rs := [8]) (by kernel_rfl) (by simp) (ready_cons rfl (by rfl) (fun K hK => ?_) AllReadyH.nil)
            · refine wp_store_q (by rfl) (by rfl) t1 Fq.nil r1.fq (fun V u kp => ?_)
              replace t2 := kp.four (Ne.symm ne) t2
              replace r1 := kp.qc r1
              replace r2 := kp.qc r2
              replace HB := kp.bel _ _ HB b1
              clear t1
              have t1 := u
              refine hK.out _ _ HB ?_
              clear hK K kp u
              simp only [Act.put, List.setIfInBounds_toArray, List.set_cons_zero, List.set_cons_succ]
              refine wpAnyH_ready (rs := [9]) (by kernel_rfl) (by simp) (ready_cons rfl (by rfl) (fun K hK => ?_) AllReadyH.nil)
              · refine wp_store_q (by rfl) (by rfl) t2 Fq.nil r2.fq (fun V u kp => ?_)
                replace t1 := kp.four ne t1
                replace r1 := kp.qc r1
                replace r2 := kp.qc r2
                replace HB := kp.bel _ _ HB b2
                clear t2
                have t2 := u
                refine hK.out _ _ HB ?_
                clear hK K kp u
                simp only [Act.put, List.setIfInBounds_toArray, List.set_cons_zero, List.set_cons_succ]
                exact wpAnyH_done (by kernel_rfl) ⟨rfl, g1, g2, _, _, _, _, _, _, _, _, _, _, _, _,  by rfl, t1, t2, r1, r2, HB⟩ _
        · refine wp_alloc_four (fun g1 V t1 bb hg => ?_)
          have b1 := Nat.le_trans HB.size hg
          replace HB := HB.trans (bb.mono HB.size)
          have ne : g1 ≠ g2 := Nat.ne_of_gt (Nat.lt_of_lt_of_le t2.lt hg)
          replace t2 := t2.to bb
          replace r1 := r1.to bb
          refine hK.out _ _ HB ?_
          clear hK K bb hg
          simp only [Act.put, List.setIfInBounds_toArray, List.set_cons_zero, List.set_cons_succ]
          refine wpAnyH_ready (rs := [5]) (by kernel_rfl) (by simp) (ready_cons rfl (by rfl) (fun K hK => ?_) AllReadyH.nil)
          · go_simp
            refine (add_q (VB.qi.to HB) (VC.qi.to HB) (by decide) (by decide) (by decide)).mono ?_
            rintro e V ⟨u20, u21, u22, u23, rfl, r2, bb⟩
            replace HB := HB.trans (bb.mono HB.size)
            replace t1 := t1.to bb
            replace t2 := t2.to bb
            replace r1 := r1.to bb
            refine hK.out _ _ HB ?_
            clear hK K bb
            refine wpAnyH_ready (rs := [8]) (by kernel_rfl) (by simp) (ready_cons rfl (by rfl) (fun K hK => ?_) AllReadyH.nil)
            · refine wp_store_q (by rfl) (by rfl) t1 Fq.nil r1.fq (fun V u kp => ?_)
              replace t2 := kp.four (Ne.symm ne) t2
              replace r1 := kp.qc r1
              replace r2 := kp.qc r2
              replace HB := kp.bel _ _ HB b1
              clear t1
              have t1 := u
              refine hK.out _ _ HB ?_
              clear hK K kp u
              simp only [Act.put, List.setIfInBounds_toArray, List.set_cons_zero, List.set_cons_succ]
              refine wpAnyH_ready (rs := [9]) (by kernel_rfl) (by simp) (ready_cons rfl (by rfl) (fun K hK => ?_) AllReadyH.nil)
              · refine wp_store_q (by rfl) (by rfl) t2 Fq.nil r2.fq (fun V u kp => ?_)
                replace t1 := kp.four ne t1
                replace r1 := kp.qc r1
                replace r2 := kp.qc r2
                replace HB := kp.bel _ _ HB b2
                clear t2
                have t2 := u
                refine hK.out _ _ HB ?_
                clear hK K kp u
                simp only [Act.put, List.setIfInBounds_toArray, List.set_cons_zero, List.set_cons_succ]
                exact wpAnyH_done (by kernel_rfl) ⟨rfl, g1, g2, _, _, _, _, _, _, _, _, _, _, _, _,  by rfl, t1, t2, r1, r2, HB⟩ _
      · refine wp_alloc_four (fun g1 V t1 bb hg => ?_)
        have b1 := Nat.le_trans HB.size hg
        replace HB := HB.trans (bb.mono HB.size)
        have ne : g1 ≠ g2 := Nat.ne_of_gt (Nat.lt_of_lt_of_le t2.lt hg)
        replace t2 := t2.to bb
        refine hK.out _ _ HB ?_
        clear hK K bb hg
        simp only [Act.put, List.setIfInBounds_toArray, List.set_cons_zero, List.set_cons_succ]
        refine wpAnyH_ready (rs := [2]) (by kernel_rfl) (by simp) (ready_cons rfl (by rfl) (fun K hK => ?_) AllReadyH.nil)
        · go_simp
          refine (add_q (VA.qi.to HB) (VB.qi.to HB) (by decide) (by decide) (by decide)).mono ?_
          rintro e V ⟨u10, u11, u12, u13, rfl, r1, bb⟩
          replace HB := HB.trans (bb.mono HB.size)
          replace t1 := t1.to bb
          replace t2 := t2.to bb
          refine hK.out _ _ HB ?_
          clear hK K bb
          refine wpAnyH_ready (rs := [5]) (by kernel_rfl) (by simp) (ready_cons rfl (by rfl) (fun K hK => ?_) AllReadyH.nil)
          · go_simp
            refine (add_q (VB.qi.to HB) (VC.qi.to HB) (by decide) (by decide) (by decide)).mono ?_
            rintro e V ⟨u20, u21, u22, u23, rfl, r2, bb⟩
            replace HB := HB.trans (bb.mono HB.size)
            replace t1 := t1.to bb
            replace t2 := t2.to bb
            replace r1 := r1.to bb
            refine hK.out _ _ HB ?_
            clear hK K bb
            refine wpAnyH_ready (rs := [8]) (by kernel_rfl) (by simp) (ready_cons rfl (by rfl) (fun K hK => ?_) AllReadyH.nil)
            · refine wp_store_q (by rfl) (by rfl) t1 Fq.nil r1.fq (fun V u kp => ?_)
              replace t2 := kp.four (Ne.symm ne) t2
              replace r1 := kp.qc r1
              replace r2 := kp.qc r2
              replace HB := kp.bel _ _ HB b1
              clear t1
              have t1 := u
              refine hK.out _ _ HB ?_
              clear hK K kp u
              simp only [Act.put, List.setIfInBounds_toArray, List.set_cons_zero, List.set_cons_succ]
              refine wpAnyH_ready (rs := [9]) (by kernel_rfl) (by simp) (ready_cons rfl (by rfl) (fun K hK => ?_) AllReadyH.nil)
              · refine wp_store_q (by rfl) (by rfl) t2 Fq.nil r2.fq (fun V u kp => ?_)
                replace t1 := kp.four ne t1
                replace r1 := kp.qc r1
                replace r2 := kp.qc r2
                replace HB := kp.bel _ _ HB b2
                clear t2
                have t2 := u
                refine hK.out _ _ HB ?_
                clear hK K kp u
                simp only [Act.put, List.setIfInBounds_toArray, List.set_cons_zero, List.set_cons_succ]
                exact wpAnyH_done (by kernel_rfl) ⟨rfl, g1, g2, _, _, _, _, _, _, _, _, _, _, _, _,  by rfl, t1, t2, r1, r2, HB⟩ _
  rintro v' W2 ⟨gS, gT, S0, S1, S2, S3, T0, T1, T2, T3, _, _, _, _,  rfl, t1, t2, cS, cT, HB⟩
  simp only [Act.put, List.setIfInBounds_toArray, List.set_cons_zero, List.set_cons_succ]
  have mS : Qm 13 (a + b) := by have h := mA.add mB; exact h
  have VS : Qb W2 gS S0 S1 S2 S3 (a + b) 13 := ⟨t1, cS.qi mS (by decide)⟩
  have mT : Qm 13 (b + c) := by have h := mB.add mC; exact h
  have VT : Qb W2 gT T0 T1 T2 T3 (b + c) 13 := ⟨t2, cT.qi mT (by decide)⟩
  replace VA := VA.to HB
  replace VB := VB.to HB
  replace VC := VC.to HB
  replace HB0 := Lib.hid (HB0.out.trans (HB.mono HB0.out.size))
  clear HB t1 t2
  go_wp2_with fail
  refine wp_cut (fun a' v' w' => ∃ (g1 g2 : Nat) (u10 u11 u12 u13 u20 u21 u22 u23 x0 x1 x2 x3 : Value), v' = ((((((((a'.put (some 26) x0).put (some 27) x1).put (some 29) x2).put (some 30) x3).put (some 28) (.agg #[u10, u11, u12, u13])).put (some 31) (.agg #[u20, u21, u22, u23])).put (some 10) (.pointer (some ⟨g1, 0, none⟩))).put (some 11) (.pointer (some ⟨g2, 0, none⟩))) ∧ Four w' g1 u10 u11 u12 u13 ∧ Four w' g2 u20 u21 u22 u23 ∧ Qc w' u10 u11 u12 u13 (a * b) ∧ Qc w' u20 u21 u22 u23 (b * c) ∧ Below W2.heap.size W2 w') ?_ ?_
  · refine wp_region_planTo (S := fun w' => Below W2.heap.size W2 w') [(0, true), (1, true), (3, true), (4, true)] #[true, true, false, true, true, false, false, false, false, false] 6 (by kernel_rfl) (by kernel_rfl) (Below.refl _ _).drew ?_
    refine plan_take rfl (by rfl) (fun w' hS => load_four (by rfl) (VA.four.to hS)) ?_; simp only [Act.put, List.setIfInBounds_toArray, List.set_cons_zero, List.set_cons_succ]
    refine plan_take rfl (by rfl) (fun w' hS => load_four (by rfl) (VB.four.to hS)) ?_; simp only [Act.put, List.setIfInBounds_toArray, List.set_cons_zero, List.set_cons_succ]
    refine plan_take rfl (by rfl) (fun w' hS => load_four (by rfl) (VB.four.to hS)) ?_; simp only [Act.put, List.setIfInBounds_toArray, List.set_cons_zero, List.set_cons_succ]
    refine plan_take rfl (by rfl) (fun w' hS => load_four (by rfl) (VC.four.to hS)) ?_; simp only [Act.put, List.setIfInBounds_toArray, List.set_cons_zero, List.set_cons_succ]
    intro HB
    refine wpAnyH_ready (rs := [2, 6, 7]) (by kernel_rfl) (by simp) (ready_cons rfl (by rfl) (fun K hK => ?_) (ready_cons rfl (by rfl) (fun K hK => ?_) (ready_cons rfl (by rfl) (fun K hK => ?_) AllReadyH.nil)))
    · go_simp
      refine (mul_q (VA.qi.to HB) (VB.qi.to HB) (by decide) (by decide) (by decide)).mono ?_
      rintro e V ⟨u10, u11, u12, u13, rfl, r1, bb⟩
      replace HB := HB.trans (bb.mono HB.size)
      refine hK.out _ _ HB ?_
      clear hK K bb
      refine wpAnyH_ready (rs := [5, 6, 7]) (by kernel_rfl) (by simp) (ready_cons rfl (by rfl) (fun K hK => ?_) (ready_cons rfl (by rfl) (fun K hK => ?_) (ready_cons rfl (by rfl) (fun K hK => ?_) AllReadyH.nil)))
      · go_simp
        refine (mul_q (VB.qi.to HB) (VC.qi.to HB) (by decide) (by decide) (by decide)).mono ?_
        rintro e V ⟨u20, u21, u22, u23, rfl, r2, bb⟩
        replace HB := HB.trans (bb.mono HB.size)
        replace r1 := r1.to bb
        refine hK.out _ _ HB ?_
        clear hK K bb
        refine wpAnyH_ready (rs := [6, 7]) (by kernel_rfl) (by simp) (ready_cons rfl (by rfl) (fun K hK => ?_) (ready_cons rfl (by rfl) (fun K hK => ?_) AllReadyH.nil))
        · refine wp_alloc_four (fun g1 V t1 bb hg => ?_)
          have b1 := Nat.le_trans HB.size hg
          replace HB := HB.trans (bb.mono HB.size)
          replace r1 := r1.to bb
          replace r2 := r2.to bb
          refine hK.out _ _ HB ?_
          clear hK K bb hg
          simp only [Act.put, List.setIfInBounds_toArray, List.set_cons_zero, List.set_cons_succ]
          refine wpAnyH_ready (rs := [7]) (by kernel_rfl) (by simp) (ready_cons rfl (by rfl) (fun K hK => ?_) AllReadyH.nil)
          · refine wp_alloc_four (fun g2 V t2 bb hg => ?_)
            have b2 := Nat.le_trans HB.size hg
            replace HB := HB.trans (bb.mono HB.size)
            have ne : g1 ≠ g2 := Nat.ne_of_lt (Nat.lt_of_lt_of_le t1.lt hg)
            replace t1 := t1.to bb
            replace r1 := r1.to bb
            replace r2 := r2.to bb
            refine hK.out _ _ HB ?_
            clear hK K bb hg
            simp only [Act.put, List.setIfInBounds_toArray, List.set_cons_zero, List.set_cons_succ]
            refine wpAnyH_ready (rs := [8]) (by kernel_rfl) (by simp) (ready_cons rfl (by rfl) (fun K hK => ?_) AllReadyH.nil)
            · refine wp_store_q (by rfl) (by rfl) t1 Fq.nil r1.fq (fun V u kp => ?_)
              replace t2 := kp.four (Ne.symm ne) t2
              replace r1 := kp.qc r1
              replace r2 := kp.qc r2
              replace HB := kp.bel _ _ HB b1
              clear t1
              have t1 := u
              refine hK.out _ _ HB ?_
              clear hK K kp u
              simp only [Act.put, List.setIfInBounds_toArray, List.set_cons_zero, List.set_cons_succ]
              refine wpAnyH_ready (rs := [9]) (by kernel_rfl) (by simp) (ready_cons rfl (by rfl) (fun K hK => ?_) AllReadyH.nil)
              · refine wp_store_q (by rfl) (by rfl) t2 Fq.nil r2.fq (fun V u kp => ?_)
                replace t1 := kp.four ne t1
                replace r1 := kp.qc r1
                replace r2 := kp.qc r2
                replace HB := kp.bel _ _ HB b2
                clear t2
                have t2 := u
                refine hK.out _ _ HB ?_
                clear hK K kp u
                simp only [Act.put, List.setIfInBounds_toArray, List.set_cons_zero, List.set_cons_succ]
                exact wpAnyH_done (by kernel_rfl) ⟨rfl, g1, g2, _, _, _, _, _, _, _, _, _, _, _, _,  by rfl, t1, t2, r1, r2, HB⟩ _
        · refine wp_alloc_four (fun g2 V t2 bb hg => ?_)
          have b2 := Nat.le_trans HB.size hg
          replace HB := HB.trans (bb.mono HB.size)
          replace r1 := r1.to bb
          replace r2 := r2.to bb
          refine hK.out _ _ HB ?_
          clear hK K bb hg
          simp only [Act.put, List.setIfInBounds_toArray, List.set_cons_zero, List.set_cons_succ]
          refine wpAnyH_ready (rs := [6]) (by kernel_rfl) (by simp) (ready_cons rfl (by rfl) (fun K hK => ?_) AllReadyH.nil)
          · refine wp_alloc_four (fun g1 V t1 bb hg => ?_)
            have b1 := Nat.le_trans HB.size hg
            replace HB := HB.trans (bb.mono HB.size)
            have ne : g1 ≠ g2 := Nat.ne_of_gt (Nat.lt_of_lt_of_le t2.lt hg)
            replace t2 := t2.to bb
            replace r1 := r1.to bb
            replace r2 := r2.to bb
            refine hK.out _ _ HB ?_
            clear hK K bb hg
            simp only [Act.put, List.setIfInBounds_toArray, List.set_cons_zero, List.set_cons_succ]
            refine wpAnyH_ready (rs := [8]) (by kernel_rfl) (by simp) (ready_cons rfl (by rfl) (fun K hK => ?_) AllReadyH.nil)
            · refine wp_store_q (by rfl) (by rfl) t1 Fq.nil r1.fq (fun V u kp => ?_)
              replace t2 := kp.four (Ne.symm ne) t2
              replace r1 := kp.qc r1
              replace r2 := kp.qc r2
              replace HB := kp.bel _ _ HB b1
              clear t1
              have t1 := u
              refine hK.out _ _ HB ?_
              clear hK K kp u
              simp only [Act.put, List.setIfInBounds_toArray, List.set_cons_zero, List.set_cons_succ]
              refine wpAnyH_ready (rs := [9]) (by kernel_rfl) (by simp) (ready_cons rfl (by rfl) (fun K hK => ?_) AllReadyH.nil)
              · refine wp_store_q (by rfl) (by rfl) t2 Fq.nil r2.fq (fun V u kp => ?_)
                replace t1 := kp.four ne t1
                replace r1 := kp.qc r1
                replace r2 := kp.qc r2
                replace HB := kp.bel _ _ HB b2
                clear t2
                have t2 := u
                refine hK.out _ _ HB ?_
                clear hK K kp u
                simp only [Act.put, List.setIfInBounds_toArray, List.set_cons_zero, List.set_cons_succ]
                exact wpAnyH_done (by kernel_rfl) ⟨rfl, g1, g2, _, _, _, _, _, _, _, _, _, _, _, _,  by rfl, t1, t2, r1, r2, HB⟩ _
      · refine wp_alloc_four (fun g1 V t1 bb hg => ?_)
        have b1 := Nat.le_trans HB.size hg
        replace HB := HB.trans (bb.mono HB.size)
        replace r1 := r1.to bb
        refine hK.out _ _ HB ?_
        clear hK K bb hg
        simp only [Act.put, List.setIfInBounds_toArray, List.set_cons_zero, List.set_cons_succ]
        refine wpAnyH_ready (rs := [5, 7]) (by kernel_rfl) (by simp) (ready_cons rfl (by rfl) (fun K hK => ?_) (ready_cons rfl (by rfl) (fun K hK => ?_) AllReadyH.nil))
        · go_simp
          refine (mul_q (VB.qi.to HB) (VC.qi.to HB) (by decide) (by decide) (by decide)).mono ?_
          rintro e V ⟨u20, u21, u22, u23, rfl, r2, bb⟩
          replace HB := HB.trans (bb.mono HB.size)
          replace t1 := t1.to bb
          replace r1 := r1.to bb
          refine hK.out _ _ HB ?_
          clear hK K bb
          refine wpAnyH_ready (rs := [7]) (by kernel_rfl) (by simp) (ready_cons rfl (by rfl) (fun K hK => ?_) AllReadyH.nil)
          · refine wp_alloc_four (fun g2 V t2 bb hg => ?_)
            have b2 := Nat.le_trans HB.size hg
            replace HB := HB.trans (bb.mono HB.size)
            have ne : g1 ≠ g2 := Nat.ne_of_lt (Nat.lt_of_lt_of_le t1.lt hg)
            replace t1 := t1.to bb
            replace r1 := r1.to bb
            replace r2 := r2.to bb
            refine hK.out _ _ HB ?_
            clear hK K bb hg
            simp only [Act.put, List.setIfInBounds_toArray, List.set_cons_zero, List.set_cons_succ]
            refine wpAnyH_ready (rs := [8]) (by kernel_rfl) (by simp) (ready_cons rfl (by rfl) (fun K hK => ?_) AllReadyH.nil)
            · refine wp_store_q (by rfl) (by rfl) t1 Fq.nil r1.fq (fun V u kp => ?_)
              replace t2 := kp.four (Ne.symm ne) t2
              replace r1 := kp.qc r1
              replace r2 := kp.qc r2
              replace HB := kp.bel _ _ HB b1
              clear t1
              have t1 := u
              refine hK.out _ _ HB ?_
              clear hK K kp u
              simp only [Act.put, List.setIfInBounds_toArray, List.set_cons_zero, List.set_cons_succ]
              refine wpAnyH_ready (rs := [9]) (by kernel_rfl) (by simp) (ready_cons rfl (by rfl) (fun K hK => ?_) AllReadyH.nil)
              · refine wp_store_q (by rfl) (by rfl) t2 Fq.nil r2.fq (fun V u kp => ?_)
                replace t1 := kp.four ne t1
                replace r1 := kp.qc r1
                replace r2 := kp.qc r2
                replace HB := kp.bel _ _ HB b2
                clear t2
                have t2 := u
                refine hK.out _ _ HB ?_
                clear hK K kp u
                simp only [Act.put, List.setIfInBounds_toArray, List.set_cons_zero, List.set_cons_succ]
                exact wpAnyH_done (by kernel_rfl) ⟨rfl, g1, g2, _, _, _, _, _, _, _, _, _, _, _, _,  by rfl, t1, t2, r1, r2, HB⟩ _
        · refine wp_alloc_four (fun g2 V t2 bb hg => ?_)
          have b2 := Nat.le_trans HB.size hg
          replace HB := HB.trans (bb.mono HB.size)
          have ne : g1 ≠ g2 := Nat.ne_of_lt (Nat.lt_of_lt_of_le t1.lt hg)
          replace t1 := t1.to bb
          replace r1 := r1.to bb
          refine hK.out _ _ HB ?_
          clear hK K bb hg
          simp only [Act.put, List.setIfInBounds_toArray, List.set_cons_zero, List.set_cons_succ]
          refine wpAnyH_ready (rs := [5]) (by kernel_rfl) (by simp) (ready_cons rfl (by rfl) (fun K hK => ?_) AllReadyH.nil)
          · go_simp
            refine (mul_q (VB.qi.to HB) (VC.qi.to HB) (by decide) (by decide) (by decide)).mono ?_
            rintro e V ⟨u20, u21, u22, u23, rfl, r2, bb⟩
            replace HB := HB.trans (bb.mono HB.size)
            replace t1 := t1.to bb
            replace t2 := t2.to bb
            replace r1 := r1.to bb
            refine hK.out _ _ HB ?_
            clear hK K bb
            refine wpAnyH_ready (rs := [8]) (by kernel_rfl) (by simp) (ready_cons rfl (by rfl) (fun K hK => ?_) AllReadyH.nil)
            · refine wp_store_q (by rfl) (by rfl) t1 Fq.nil r1.fq (fun V u kp => ?_)
              replace t2 := kp.four (Ne.symm ne) t2
              replace r1 := kp.qc r1
              replace r2 := kp.qc r2
              replace HB := kp.bel _ _ HB b1
              clear t1
              have t1 := u
              refine hK.out _ _ HB ?_
              clear hK K kp u
              simp only [Act.put, List.setIfInBounds_toArray, List.set_cons_zero, List.set_cons_succ]
              refine wpAnyH_ready (rs := [9]) (by kernel_rfl) (by simp) (ready_cons rfl (by rfl) (fun K hK => ?_) AllReadyH.nil)
              · refine wp_store_q (by rfl) (by rfl) t2 Fq.nil r2.fq (fun V u kp => ?_)
                replace t1 := kp.four ne t1
                replace r1 := kp.qc r1
                replace r2 := kp.qc r2
                replace HB := kp.bel _ _ HB b2
                clear t2
                have t2 := u
                refine hK.out _ _ HB ?_
                clear hK K kp u
                simp only [Act.put, List.setIfInBounds_toArray, List.set_cons_zero, List.set_cons_succ]
                exact wpAnyH_done (by kernel_rfl) ⟨rfl, g1, g2, _, _, _, _, _, _, _, _, _, _, _, _,  by rfl, t1, t2, r1, r2, HB⟩ _
      · refine wp_alloc_four (fun g2 V t2 bb hg => ?_)
        have b2 := Nat.le_trans HB.size hg
        replace HB := HB.trans (bb.mono HB.size)
        replace r1 := r1.to bb
        refine hK.out _ _ HB ?_
        clear hK K bb hg
        simp only [Act.put, List.setIfInBounds_toArray, List.set_cons_zero, List.set_cons_succ]
        refine wpAnyH_ready (rs := [5, 6]) (by kernel_rfl) (by simp) (ready_cons rfl (by rfl) (fun K hK => ?_) (ready_cons rfl (by rfl) (fun K hK => ?_) AllReadyH.nil))
        · go_simp
          refine (mul_q (VB.qi.to HB) (VC.qi.to HB) (by decide) (by decide) (by decide)).mono ?_
          rintro e V ⟨u20, u21, u22, u23, rfl, r2, bb⟩
          replace HB := HB.trans (bb.mono HB.size)
          replace t2 := t2.to bb
          replace r1 := r1.to bb
          refine hK.out _ _ HB ?_
          clear hK K bb
          refine wpAnyH_ready (rs := [6]) (by kernel_rfl) (by simp) (ready_cons rfl (by rfl) (fun K hK => ?_) AllReadyH.nil)
          · refine wp_alloc_four (fun g1 V t1 bb hg => ?_)
            have b1 := Nat.le_trans HB.size hg
            replace HB := HB.trans (bb.mono HB.size)
            have ne : g1 ≠ g2 := Nat.ne_of_gt (Nat.lt_of_lt_of_le t2.lt hg)
            replace t2 := t2.to bb
            replace r1 := r1.to bb
            replace r2 := r2.to bb
            refine hK.out _ _ HB ?_
            clear hK K bb hg
            simp only [Act.put, List.setIfInBounds_toArray, List.set_cons_zero, List.set_cons_succ]
            refine wpAnyH_ready (rs := [8]) (by kernel_rfl) (by simp) (ready_cons rfl (by rfl) (fun K hK => ?_) AllReadyH.nil)
            · refine wp_store_q (by rfl) (by rfl) t1 Fq.nil r1.fq (fun V u kp => ?_)
              replace t2 := kp.four (Ne.symm ne) t2
              replace r1 := kp.qc r1
              replace r2 := kp.qc r2
              replace HB := kp.bel _ _ HB b1
              clear t1
              have t1 := u
              refine hK.out _ _ HB ?_
              clear hK K kp u
              simp only [Act.put, List.setIfInBounds_toArray, List.set_cons_zero, List.set_cons_succ]
              refine wpAnyH_ready (rs := [9]) (by kernel_rfl) (by simp) (ready_cons rfl (by rfl) (fun K hK => ?_) AllReadyH.nil)
              · refine wp_store_q (by rfl) (by rfl) t2 Fq.nil r2.fq (fun V u kp => ?_)
                replace t1 := kp.four ne t1
                replace r1 := kp.qc r1
                replace r2 := kp.qc r2
                replace HB := kp.bel _ _ HB b2
                clear t2
                have t2 := u
                refine hK.out _ _ HB ?_
                clear hK K kp u
                simp only [Act.put, List.setIfInBounds_toArray, List.set_cons_zero, List.set_cons_succ]
                exact wpAnyH_done (by kernel_rfl) ⟨rfl, g1, g2, _, _, _, _, _, _, _, _, _, _, _, _,  by rfl, t1, t2, r1, r2, HB⟩ _
        · refine wp_alloc_four (fun g1 V t1 bb hg => ?_)
          have b1 := Nat.le_trans HB.size hg
          replace HB := HB.trans (bb.mono HB.size)
          have ne : g1 ≠ g2 := Nat.ne_of_gt (Nat.lt_of_lt_of_le t2.lt hg)
          replace t2 := t2.to bb
          replace r1 := r1.to bb
          refine hK.out _ _ HB ?_
          clear hK K bb hg
          simp only [Act.put, List.setIfInBounds_toArray, List.set_cons_zero, List.set_cons_succ]
          refine wpAnyH_ready (rs := [5]) (by kernel_rfl) (by simp) (ready_cons rfl (by rfl) (fun K hK => ?_) AllReadyH.nil)
          · go_simp
            refine (mul_q (VB.qi.to HB) (VC.qi.to HB) (by decide) (by decide) (by decide)).mono ?_
            rintro e V ⟨u20, u21, u22, u23, rfl, r2, bb⟩
            replace HB := HB.trans (bb.mono HB.size)
            replace t1 := t1.to bb
            replace t2 := t2.to bb
            replace r1 := r1.to bb
            refine hK.out _ _ HB ?_
            clear hK K bb
            refine wpAnyH_ready (rs := [8]) (by kernel_rfl) (by simp) (ready_cons rfl (by rfl) (fun K hK => ?_) AllReadyH.nil)
            · refine wp_store_q (by rfl) (by rfl) t1 Fq.nil r1.fq (fun V u kp => ?_)
              replace t2 := kp.four (Ne.symm ne) t2
              replace r1 := kp.qc r1
              replace r2 := kp.qc r2
              replace HB := kp.bel _ _ HB b1
              clear t1
              have t1 := u
              refine hK.out _ _ HB ?_
              clear hK K kp u
              simp only [Act.put, List.setIfInBounds_toArray, List.set_cons_zero, List.set_cons_succ]
              refine wpAnyH_ready (rs := [9]) (by kernel_rfl) (by simp) (ready_cons rfl (by rfl) (fun K hK => ?_) AllReadyH.nil)
              · refine wp_store_q (by rfl) (by rfl) t2 Fq.nil r2.fq (fun V u kp => ?_)
                replace t1 := kp.four ne t1
                replace r1 := kp.qc r1
                replace r2 := kp.qc r2
                replace HB := kp.bel _ _ HB b2
                clear t2
                have t2 := u
                refine hK.out _ _ HB ?_
                clear hK K kp u
                simp only [Act.put, List.setIfInBounds_toArray, List.set_cons_zero, List.set_cons_succ]
                exact wpAnyH_done (by kernel_rfl) ⟨rfl, g1, g2, _, _, _, _, _, _, _, _, _, _, _, _,  by rfl, t1, t2, r1, r2, HB⟩ _
    · refine wp_alloc_four (fun g1 V t1 bb hg => ?_)
      have b1 := Nat.le_trans HB.size hg
      replace HB := HB.trans (bb.mono HB.size)
      refine hK.out _ _ HB ?_
      clear hK K bb hg
      simp only [Act.put, List.setIfInBounds_toArray, List.set_cons_zero, List.set_cons_succ]
      refine wpAnyH_ready (rs := [2, 7]) (by kernel_rfl) (by simp) (ready_cons rfl (by rfl) (fun K hK => ?_) (ready_cons rfl (by rfl) (fun K hK => ?_) AllReadyH.nil))
      · go_simp
        refine (mul_q (VA.qi.to HB) (VB.qi.to HB) (by decide) (by decide) (by decide)).mono ?_
        rintro e V ⟨u10, u11, u12, u13, rfl, r1, bb⟩
        replace HB := HB.trans (bb.mono HB.size)
        replace t1 := t1.to bb
        refine hK.out _ _ HB ?_
        clear hK K bb
        refine wpAnyH_ready (rs := [5, 7]) (by kernel_rfl) (by simp) (ready_cons rfl (by rfl) (fun K hK => ?_) (ready_cons rfl (by rfl) (fun K hK => ?_) AllReadyH.nil))
        · go_simp
          refine (mul_q (VB.qi.to HB) (VC.qi.to HB) (by decide) (by decide) (by decide)).mono ?_
          rintro e V ⟨u20, u21, u22, u23, rfl, r2, bb⟩
          replace HB := HB.trans (bb.mono HB.size)
          replace t1 := t1.to bb
          replace r1 := r1.to bb
          refine hK.out _ _ HB ?_
          clear hK K bb
          refine wpAnyH_ready (rs := [7]) (by kernel_rfl) (by simp) (ready_cons rfl (by rfl) (fun K hK => ?_) AllReadyH.nil)
          · refine wp_alloc_four (fun g2 V t2 bb hg => ?_)
            have b2 := Nat.le_trans HB.size hg
            replace HB := HB.trans (bb.mono HB.size)
            have ne : g1 ≠ g2 := Nat.ne_of_lt (Nat.lt_of_lt_of_le t1.lt hg)
            replace t1 := t1.to bb
            replace r1 := r1.to bb
            replace r2 := r2.to bb
            refine hK.out _ _ HB ?_
            clear hK K bb hg
            simp only [Act.put, List.setIfInBounds_toArray, List.set_cons_zero, List.set_cons_succ]
            refine wpAnyH_ready (rs := [8]) (by kernel_rfl) (by simp) (ready_cons rfl (by rfl) (fun K hK => ?_) AllReadyH.nil)
            · refine wp_store_q (by rfl) (by rfl) t1 Fq.nil r1.fq (fun V u kp => ?_)
              replace t2 := kp.four (Ne.symm ne) t2
              replace r1 := kp.qc r1
              replace r2 := kp.qc r2
              replace HB := kp.bel _ _ HB b1
              clear t1
              have t1 := u
              refine hK.out _ _ HB ?_
              clear hK K kp u
              simp only [Act.put, List.setIfInBounds_toArray, List.set_cons_zero, List.set_cons_succ]
              refine wpAnyH_ready (rs := [9]) (by kernel_rfl) (by simp) (ready_cons rfl (by rfl) (fun K hK => ?_) AllReadyH.nil)
              · refine wp_store_q (by rfl) (by rfl) t2 Fq.nil r2.fq (fun V u kp => ?_)
                replace t1 := kp.four ne t1
                replace r1 := kp.qc r1
                replace r2 := kp.qc r2
                replace HB := kp.bel _ _ HB b2
                clear t2
                have t2 := u
                refine hK.out _ _ HB ?_
                clear hK K kp u
                simp only [Act.put, List.setIfInBounds_toArray, List.set_cons_zero, List.set_cons_succ]
                exact wpAnyH_done (by kernel_rfl) ⟨rfl, g1, g2, _, _, _, _, _, _, _, _, _, _, _, _,  by rfl, t1, t2, r1, r2, HB⟩ _
        · refine wp_alloc_four (fun g2 V t2 bb hg => ?_)
          have b2 := Nat.le_trans HB.size hg
          replace HB := HB.trans (bb.mono HB.size)
          have ne : g1 ≠ g2 := Nat.ne_of_lt (Nat.lt_of_lt_of_le t1.lt hg)
          replace t1 := t1.to bb
          replace r1 := r1.to bb
          refine hK.out _ _ HB ?_
          clear hK K bb hg
          simp only [Act.put, List.setIfInBounds_toArray, List.set_cons_zero, List.set_cons_succ]
          refine wpAnyH_ready (rs := [5]) (by kernel_rfl) (by simp) (ready_cons rfl (by rfl) (fun K hK => ?_) AllReadyH.nil)
          · go_simp
            refine (mul_q (VB.qi.to HB) (VC.qi.to HB) (by decide) (by decide) (by decide)).mono ?_
            rintro e V ⟨u20, u21, u22, u23, rfl, r2, bb⟩
            replace HB := HB.trans (bb.mono HB.size)
            replace t1 := t1.to bb
            replace t2 := t2.to bb
            replace r1 := r1.to bb
            refine hK.out _ _ HB ?_
            clear hK K bb
            refine wpAnyH_ready (rs := [8]) (by kernel_rfl) (by simp) (ready_cons rfl (by rfl) (fun K hK => ?_) AllReadyH.nil)
            · refine wp_store_q (by rfl) (by rfl) t1 Fq.nil r1.fq (fun V u kp => ?_)
              replace t2 := kp.four (Ne.symm ne) t2
              replace r1 := kp.qc r1
              replace r2 := kp.qc r2
              replace HB := kp.bel _ _ HB b1
              clear t1
              have t1 := u
              refine hK.out _ _ HB ?_
              clear hK K kp u
              simp only [Act.put, List.setIfInBounds_toArray, List.set_cons_zero, List.set_cons_succ]
              refine wpAnyH_ready (rs := [9]) (by kernel_rfl) (by simp) (ready_cons rfl (by rfl) (fun K hK => ?_) AllReadyH.nil)
              · refine wp_store_q (by rfl) (by rfl) t2 Fq.nil r2.fq (fun V u kp => ?_)
                replace t1 := kp.four ne t1
                replace r1 := kp.qc r1
                replace r2 := kp.qc r2
                replace HB := kp.bel _ _ HB b2
                clear t2
                have t2 := u
                refine hK.out _ _ HB ?_
                clear hK K kp u
                simp only [Act.put, List.setIfInBounds_toArray, List.set_cons_zero, List.set_cons_succ]
                exact wpAnyH_done (by kernel_rfl) ⟨rfl, g1, g2, _, _, _, _, _, _, _, _, _, _, _, _,  by rfl, t1, t2, r1, r2, HB⟩ _
      · refine wp_alloc_four (fun g2 V t2 bb hg => ?_)
        have b2 := Nat.le_trans HB.size hg
        replace HB := HB.trans (bb.mono HB.size)
        have ne : g1 ≠ g2 := Nat.ne_of_lt (Nat.lt_of_lt_of_le t1.lt hg)
        replace t1 := t1.to bb
        refine hK.out _ _ HB ?_
        clear hK K bb hg
        simp only [Act.put, List.setIfInBounds_toArray, List.set_cons_zero, List.set_cons_succ]
        refine wpAnyH_ready (rs := [2]) (by kernel_rfl) (by simp) (ready_cons rfl (by rfl) (fun K hK => ?_) AllReadyH.nil)
        · go_simp
          refine (mul_q (VA.qi.to HB) (VB.qi.to HB) (by decide) (by decide) (by decide)).mono ?_
          rintro e V ⟨u10, u11, u12, u13, rfl, r1, bb⟩
          replace HB := HB.trans (bb.mono HB.size)
          replace t1 := t1.to bb
          replace t2 := t2.to bb
          refine hK.out _ _ HB ?_
          clear hK K bb
          refine wpAnyH_ready (rs := [5]) (by kernel_rfl) (by simp) (ready_cons rfl (by rfl) (fun K hK => ?_) AllReadyH.nil)
          · go_simp
            refine (mul_q (VB.qi.to HB) (VC.qi.to HB) (by decide) (by decide) (by decide)).mono ?_
            rintro e V ⟨u20, u21, u22, u23, rfl, r2, bb⟩
            replace HB := HB.trans (bb.mono HB.size)
            replace t1 := t1.to bb
            replace t2 := t2.to bb
            replace r1 := r1.to bb
            refine hK.out _ _ HB ?_
            clear hK K bb
            refine wpAnyH_ready (rs := [8]) (by kernel_rfl) (by simp) (ready_cons rfl (by rfl) (fun K hK => ?_) AllReadyH.nil)
            · refine wp_store_q (by rfl) (by rfl) t1 Fq.nil r1.fq (fun V u kp => ?_)
              replace t2 := kp.four (Ne.symm ne) t2
              replace r1 := kp.qc r1
              replace r2 := kp.qc r2
              replace HB := kp.bel _ _ HB b1
              clear t1
              have t1 := u
              refine hK.out _ _ HB ?_
              clear hK K kp u
              simp only [Act.put, List.setIfInBounds_toArray, List.set_cons_zero, List.set_cons_succ]
              refine wpAnyH_ready (rs := [9]) (by kernel_rfl) (by simp) (ready_cons rfl (by rfl) (fun K hK => ?_) AllReadyH.nil)
              · refine wp_store_q (by rfl) (by rfl) t2 Fq.nil r2.fq (fun V u kp => ?_)
                replace t1 := kp.four ne t1
                replace r1 := kp.qc r1
                replace r2 := kp.qc r2
                replace HB := kp.bel _ _ HB b2
                clear t2
                have t2 := u
                refine hK.out _ _ HB ?_
                clear hK K kp u
                simp only [Act.put, List.setIfInBounds_toArray, List.set_cons_zero, List.set_cons_succ]
                exact wpAnyH_done (by kernel_rfl) ⟨rfl, g1, g2, _, _, _, _, _, _, _, _, _, _, _, _,  by rfl, t1, t2, r1, r2, HB⟩ _
    · refine wp_alloc_four (fun g2 V t2 bb hg => ?_)
      have b2 := Nat.le_trans HB.size hg
      replace HB := HB.trans (bb.mono HB.size)
      refine hK.out _ _ HB ?_
      clear hK K bb hg
      simp only [Act.put, List.setIfInBounds_toArray, List.set_cons_zero, List.set_cons_succ]
      refine wpAnyH_ready (rs := [2, 6]) (by kernel_rfl) (by simp) (ready_cons rfl (by rfl) (fun K hK => ?_) (ready_cons rfl (by rfl) (fun K hK => ?_) AllReadyH.nil))
      · go_simp
        refine (mul_q (VA.qi.to HB) (VB.qi.to HB) (by decide) (by decide) (by decide)).mono ?_
        rintro e V ⟨u10, u11, u12, u13, rfl, r1, bb⟩
        replace HB := HB.trans (bb.mono HB.size)
        replace t2 := t2.to bb
        refine hK.out _ _ HB ?_
        clear hK K bb
        refine wpAnyH_ready (rs := [5, 6]) (by kernel_rfl) (by simp) (ready_cons rfl (by rfl) (fun K hK => ?_) (ready_cons rfl (by rfl) (fun K hK => ?_) AllReadyH.nil))
        · go_simp
          refine (mul_q (VB.qi.to HB) (VC.qi.to HB) (by decide) (by decide) (by decide)).mono ?_
          rintro e V ⟨u20, u21, u22, u23, rfl, r2, bb⟩
          replace HB := HB.trans (bb.mono HB.size)
          replace t2 := t2.to bb
          replace r1 := r1.to bb
          refine hK.out _ _ HB ?_
          clear hK K bb
          refine wpAnyH_ready (rs := [6]) (by kernel_rfl) (by simp) (ready_cons rfl (by rfl) (fun K hK => ?_) AllReadyH.nil)
          · refine wp_alloc_four (fun g1 V t1 bb hg => ?_)
            have b1 := Nat.le_trans HB.size hg
            replace HB := HB.trans (bb.mono HB.size)
            have ne : g1 ≠ g2 := Nat.ne_of_gt (Nat.lt_of_lt_of_le t2.lt hg)
            replace t2 := t2.to bb
            replace r1 := r1.to bb
            replace r2 := r2.to bb
            refine hK.out _ _ HB ?_
            clear hK K bb hg
            simp only [Act.put, List.setIfInBounds_toArray, List.set_cons_zero, List.set_cons_succ]
            refine wpAnyH_ready (rs := [8]) (by kernel_rfl) (by simp) (ready_cons rfl (by rfl) (fun K hK => ?_) AllReadyH.nil)
            · refine wp_store_q (by rfl) (by rfl) t1 Fq.nil r1.fq (fun V u kp => ?_)
              replace t2 := kp.four (Ne.symm ne) t2
              replace r1 := kp.qc r1
              replace r2 := kp.qc r2
              replace HB := kp.bel _ _ HB b1
              clear t1
              have t1 := u
              refine hK.out _ _ HB ?_
              clear hK K kp u
              simp only [Act.put, List.setIfInBounds_toArray, List.set_cons_zero, List.set_cons_succ]
              refine wpAnyH_ready (rs := [9]) (by kernel_rfl) (by simp) (ready_cons rfl (by rfl) (fun K hK => ?_) AllReadyH.nil)
              · refine wp_store_q (by rfl) (by rfl) t2 Fq.nil r2.fq (fun V u kp => ?_)
                replace t1 := kp.four ne t1
                replace r1 := kp.qc r1
                replace r2 := kp.qc r2
                replace HB := kp.bel _ _ HB b2
                clear t2
                have t2 := u
                refine hK.out _ _ HB ?_
                clear hK K kp u
                simp only [Act.put, List.setIfInBounds_toArray, List.set_cons_zero, List.set_cons_succ]
                exact wpAnyH_done (by kernel_rfl) ⟨rfl, g1, g2, _, _, _, _, _, _, _, _, _, _, _, _,  by rfl, t1, t2, r1, r2, HB⟩ _
        · refine wp_alloc_four (fun g1 V t1 bb hg => ?_)
          have b1 := Nat.le_trans HB.size hg
          replace HB := HB.trans (bb.mono HB.size)
          have ne : g1 ≠ g2 := Nat.ne_of_gt (Nat.lt_of_lt_of_le t2.lt hg)
          replace t2 := t2.to bb
          replace r1 := r1.to bb
          refine hK.out _ _ HB ?_
          clear hK K bb hg
          simp only [Act.put, List.setIfInBounds_toArray, List.set_cons_zero, List.set_cons_succ]
          refine wpAnyH_ready (rs := [5]) (by kernel_rfl) (by simp) (ready_cons rfl (by rfl) (fun K hK => ?_) AllReadyH.nil)
          · go_simp
            refine (mul_q (VB.qi.to HB) (VC.qi.to HB) (by decide) (by decide) (by decide)).mono ?_
            rintro e V ⟨u20, u21, u22, u23, rfl, r2, bb⟩
            replace HB := HB.trans (bb.mono HB.size)
            replace t1 := t1.to bb
            replace t2 := t2.to bb
            replace r1 := r1.to bb
            refine hK.out _ _ HB ?_
            clear hK K bb
            refine wpAnyH_ready (rs := [8]) (by kernel_rfl) (by simp) (ready_cons rfl (by rfl) (fun K hK => ?_) AllReadyH.nil)
            · refine wp_store_q (by rfl) (by rfl) t1 Fq.nil r1.fq (fun V u kp => ?_)
              replace t2 := kp.four (Ne.symm ne) t2
              replace r1 := kp.qc r1
              replace r2 := kp.qc r2
              replace HB := kp.bel _ _ HB b1
              clear t1
              have t1 := u
              refine hK.out _ _ HB ?_
              clear hK K kp u
              simp only [Act.put, List.setIfInBounds_toArray, List.set_cons_zero, List.set_cons_succ]
              refine wpAnyH_ready (rs := [9]) (by kernel_rfl) (by simp) (ready_cons rfl (by rfl) (fun K hK => ?_) AllReadyH.nil)
              · refine wp_store_q (by rfl) (by rfl) t2 Fq.nil r2.fq (fun V u kp => ?_)
                replace t1 := kp.four ne t1
                replace r1 := kp.qc r1
                replace r2 := kp.qc r2
                replace HB := kp.bel _ _ HB b2
                clear t2
                have t2 := u
                refine hK.out _ _ HB ?_
                clear hK K kp u
                simp only [Act.put, List.setIfInBounds_toArray, List.set_cons_zero, List.set_cons_succ]
                exact wpAnyH_done (by kernel_rfl) ⟨rfl, g1, g2, _, _, _, _, _, _, _, _, _, _, _, _,  by rfl, t1, t2, r1, r2, HB⟩ _
      · refine wp_alloc_four (fun g1 V t1 bb hg => ?_)
        have b1 := Nat.le_trans HB.size hg
        replace HB := HB.trans (bb.mono HB.size)
        have ne : g1 ≠ g2 := Nat.ne_of_gt (Nat.lt_of_lt_of_le t2.lt hg)
        replace t2 := t2.to bb
        refine hK.out _ _ HB ?_
        clear hK K bb hg
        simp only [Act.put, List.setIfInBounds_toArray, List.set_cons_zero, List.set_cons_succ]
        refine wpAnyH_ready (rs := [2]) (by kernel_rfl) (by simp) (ready_cons rfl (by rfl) (fun K hK => ?_) AllReadyH.nil)
        · go_simp
          refine (mul_q (VA.qi.to HB) (VB.qi.to HB) (by decide) (by decide) (by decide)).mono ?_
          rintro e V ⟨u10, u11, u12, u13, rfl, r1, bb⟩
          replace HB := HB.trans (bb.mono HB.size)
          replace t1 := t1.to bb
          replace t2 := t2.to bb
          refine hK.out _ _ HB ?_
          clear hK K bb
          refine wpAnyH_ready (rs := [5]) (by kernel_rfl) (by simp) (ready_cons rfl (by rfl) (fun K hK => ?_) AllReadyH.nil)
          · go_simp
            refine (mul_q (VB.qi.to HB) (VC.qi.to HB) (by decide) (by decide) (by decide)).mono ?_
            rintro e V ⟨u20, u21, u22, u23, rfl, r2, bb⟩
            replace HB := HB.trans (bb.mono HB.size)
            replace t1 := t1.to bb
            replace t2 := t2.to bb
            replace r1 := r1.to bb
            refine hK.out _ _ HB ?_
            clear hK K bb
            refine wpAnyH_ready (rs := [8]) (by kernel_rfl) (by simp) (ready_cons rfl (by rfl) (fun K hK => ?_) AllReadyH.nil)
            · refine wp_store_q (by rfl) (by rfl) t1 Fq.nil r1.fq (fun V u kp => ?_)
              replace t2 := kp.four (Ne.symm ne) t2
              replace r1 := kp.qc r1
              replace r2 := kp.qc r2
              replace HB := kp.bel _ _ HB b1
              clear t1
              have t1 := u
              refine hK.out _ _ HB ?_
              clear hK K kp u
              simp only [Act.put, List.setIfInBounds_toArray, List.set_cons_zero, List.set_cons_succ]
              refine wpAnyH_ready (rs := [9]) (by kernel_rfl) (by simp) (ready_cons rfl (by rfl) (fun K hK => ?_) AllReadyH.nil)
              · refine wp_store_q (by rfl) (by rfl) t2 Fq.nil r2.fq (fun V u kp => ?_)
                replace t1 := kp.four ne t1
                replace r1 := kp.qc r1
                replace r2 := kp.qc r2
                replace HB := kp.bel _ _ HB b2
                clear t2
                have t2 := u
                refine hK.out _ _ HB ?_
                clear hK K kp u
                simp only [Act.put, List.setIfInBounds_toArray, List.set_cons_zero, List.set_cons_succ]
                exact wpAnyH_done (by kernel_rfl) ⟨rfl, g1, g2, _, _, _, _, _, _, _, _, _, _, _, _,  by rfl, t1, t2, r1, r2, HB⟩ _
  rintro v' W3 ⟨gP, gR, P0, P1, P2, P3, R0, R1, R2, R3, _, _, _, _,  rfl, t1, t2, cP, cR, HB⟩
  simp only [Act.put, List.setIfInBounds_toArray, List.set_cons_zero, List.set_cons_succ]
  have mP : Qm 12 (a * b) := by have h := mA.mul mB; exact h
  have VP : Qb W3 gP P0 P1 P2 P3 (a * b) 12 := ⟨t1, cP.qi mP (by decide)⟩
  have mR : Qm 12 (b * c) := by have h := mB.mul mC; exact h
  have VR : Qb W3 gR R0 R1 R2 R3 (b * c) 12 := ⟨t2, cR.qi mR (by decide)⟩
  replace VA := VA.to HB
  replace VB := VB.to HB
  replace VC := VC.to HB
  replace VS := VS.to HB
  replace VT := VT.to HB
  replace cS := cS.to HB
  replace cT := cT.to HB
  replace HB0 := Lib.hid (HB0.out.trans (HB.mono HB0.out.size))
  clear HB t1 t2
  go_wp2_with fail
  have mr1 : Qm 13 (b + a) := by have h := mB.add mA; exact h
  have mr2 : Qm 12 (b * a) := by have h := mB.mul mA; exact h
  have mr3 : Qm 20 ((a + b) + c) := by have h := mS.add mC; exact h
  have mr4 : Qm 20 (a + (b + c)) := by have h := mA.add mT; exact h
  have mr5 : Qm 18 ((a * b) * c) := by have h := mP.mul mC; exact h
  have mr6 : Qm 18 (a * (b * c)) := by have h := mA.mul mR; exact h
  have mr7 : Qm 19 (a * (b + c)) := by have h := mA.mul mT; exact h
  have mr8 : Qm 12 (a * c) := by have h := mA.mul mC; exact h
  have mr9 : Qm 25 ((a * b) + (a * c)) := by have h := mP.add mr8; exact h
  refine wp_region_plan (S := fun w' => Below W3.heap.size W3 w') [(0, true), (1, true), (2, true), (3, true), (4, false), (5, false), (6, true), (7, true), (8, true), (9, true), (10, true), (11, true), (12, false), (13, false), (14, true), (15, true), (16, true), (17, true), (18, true), (19, true), (21, true), (22, true), (20, false), (23, false), (24, false), (25, true), (26, true), (27, true), (28, true), (29, true), (30, true), (32, true), (33, true), (31, false), (34, false), (35, false), (36, true), (37, true), (38, true), (39, true), (40, true), (41, true), (43, true), (44, true), (45, true), (42, false), (46, false), (47, false), (48, false), (49, true), (50, true)] (by kernel_rfl) (by kernel_rfl) (Below.refl _ _).drew ?_
  have HB := (Below.refl W3.heap.size W3).drew
  refine plan_take (v := ?_) rfl (by rfl) ?_ ?_; rotate_left; (focus (intro w' _; go_simp; try with_reducible rfl)); simp only [Act.put, List.setIfInBounds_toArray, List.set_cons_zero, List.set_cons_succ]
  refine plan_take rfl (by rfl) (fun w' hS => load_four (by rfl) (VS.four.to hS)) ?_; simp only [Act.put, List.setIfInBounds_toArray, List.set_cons_zero, List.set_cons_succ]
  refine plan_take rfl (by rfl) (fun w' hS => load_four (by rfl) (VB.four.to hS)) ?_; simp only [Act.put, List.setIfInBounds_toArray, List.set_cons_zero, List.set_cons_succ]
  refine plan_take rfl (by rfl) (fun w' hS => load_four (by rfl) (VA.four.to hS)) ?_; simp only [Act.put, List.setIfInBounds_toArray, List.set_cons_zero, List.set_cons_succ]
  refine plan_call rfl (by rfl) (fun K hK => ?_)
  go_simp
  refine (add_q (VB.qi.to HB) (VA.qi.to HB) (by decide) (by decide) (by decide)).mono ?_
  rintro e V ⟨ur1, vr1, xr1, yr1, rfl, r1, bb⟩
  replace HB := HB.trans (bb.mono HB.size)
  refine hK.out _ _ HB ?_
  clear hK K bb
  refine plan_call rfl (by rfl) (fun K hK => ?_)
  go_simp
  refine (equal_q (VS.qi.to HB) (r1.qi mr1 (by decide)) (by decide) (by decide) (by decide) (v := true) (decide_eq_true (Rat.add_comm a b))).mono ?_
  rintro e V ⟨rfl, bb⟩
  replace HB := HB.trans (bb.mono HB.size)
  clear r1
  refine hK.out _ _ HB ?_
  clear hK K bb
  refine plan_take (v := ?_) rfl (by rfl) ?_ ?_; rotate_left; (focus (intro w' _; go_simp; try with_reducible rfl)); simp only [Act.put, List.setIfInBounds_toArray, List.set_cons_zero, List.set_cons_succ]
  refine plan_take (v := ?_) rfl (by rfl) ?_ ?_; rotate_left; (focus (intro w' _; go_simp; try with_reducible rfl)); simp only [Act.put, List.setIfInBounds_toArray, List.set_cons_zero, List.set_cons_succ]
  refine plan_take (v := ?_) rfl (by rfl) ?_ ?_; rotate_left; (focus (intro w' _; go_simp; try with_reducible rfl)); simp only [Act.put, List.setIfInBounds_toArray, List.set_cons_zero, List.set_cons_succ]
  refine plan_take rfl (by rfl) (fun w' hS => load_four (by rfl) (VP.four.to hS)) ?_; simp only [Act.put, List.setIfInBounds_toArray, List.set_cons_zero, List.set_cons_succ]
  refine plan_take rfl (by rfl) (fun w' hS => load_four (by rfl) (VB.four.to hS)) ?_; simp only [Act.put, List.setIfInBounds_toArray, List.set_cons_zero, List.set_cons_succ]
  refine plan_take rfl (by rfl) (fun w' hS => load_four (by rfl) (VA.four.to hS)) ?_; simp only [Act.put, List.setIfInBounds_toArray, List.set_cons_zero, List.set_cons_succ]
  refine plan_call rfl (by rfl) (fun K hK => ?_)
  go_simp
  refine (mul_q (VB.qi.to HB) (VA.qi.to HB) (by decide) (by decide) (by decide)).mono ?_
  rintro e V ⟨ur2, vr2, xr2, yr2, rfl, r2, bb⟩
  replace HB := HB.trans (bb.mono HB.size)
  refine hK.out _ _ HB ?_
  clear hK K bb
  refine plan_call rfl (by rfl) (fun K hK => ?_)
  go_simp
  refine (equal_q (VP.qi.to HB) (r2.qi mr2 (by decide)) (by decide) (by decide) (by decide) (v := true) (decide_eq_true (Rat.mul_comm a b))).mono ?_
  rintro e V ⟨rfl, bb⟩
  replace HB := HB.trans (bb.mono HB.size)
  clear r2
  refine hK.out _ _ HB ?_
  clear hK K bb
  refine plan_take (v := ?_) rfl (by rfl) ?_ ?_; rotate_left; (focus (intro w' _; go_simp; try with_reducible rfl)); simp only [Act.put, List.setIfInBounds_toArray, List.set_cons_zero, List.set_cons_succ]
  refine plan_take (v := ?_) rfl (by rfl) ?_ ?_; rotate_left; (focus (intro w' _; go_simp; try with_reducible rfl)); simp only [Act.put, List.setIfInBounds_toArray, List.set_cons_zero, List.set_cons_succ]
  refine plan_take (v := ?_) rfl (by rfl) ?_ ?_; rotate_left; (focus (intro w' _; go_simp; try with_reducible rfl)); simp only [Act.put, List.setIfInBounds_toArray, List.set_cons_zero, List.set_cons_succ]
  refine plan_take (v := ?_) rfl (by rfl) ?_ ?_; rotate_left; (focus (intro w' _; go_simp; try with_reducible rfl)); simp only [Act.put, List.setIfInBounds_toArray, List.set_cons_zero, List.set_cons_succ]
  refine plan_take rfl (by rfl) (fun w' hS => load_four (by rfl) (VS.four.to hS)) ?_; simp only [Act.put, List.setIfInBounds_toArray, List.set_cons_zero, List.set_cons_succ]
  refine plan_take rfl (by rfl) (fun w' hS => load_four (by rfl) (VC.four.to hS)) ?_; simp only [Act.put, List.setIfInBounds_toArray, List.set_cons_zero, List.set_cons_succ]
  refine plan_take rfl (by rfl) (fun w' hS => load_four (by rfl) (VA.four.to hS)) ?_; simp only [Act.put, List.setIfInBounds_toArray, List.set_cons_zero, List.set_cons_succ]
  refine plan_take rfl (by rfl) (fun w' hS => load_four (by rfl) (VT.four.to hS)) ?_; simp only [Act.put, List.setIfInBounds_toArray, List.set_cons_zero, List.set_cons_succ]
  refine plan_call rfl (by rfl) (fun K hK => ?_)
  go_simp
  refine (add_q (VS.qi.to HB) (VC.qi.to HB) (by decide) (by decide) (by decide)).mono ?_
  rintro e V ⟨ur3, vr3, xr3, yr3, rfl, r3, bb⟩
  replace HB := HB.trans (bb.mono HB.size)
  refine hK.out _ _ HB ?_
  clear hK K bb
  refine plan_call rfl (by rfl) (fun K hK => ?_)
  go_simp
  refine (add_q (VA.qi.to HB) (VT.qi.to HB) (by decide) (by decide) (by decide)).mono ?_
  rintro e V ⟨ur4, vr4, xr4, yr4, rfl, r4, bb⟩
  replace HB := HB.trans (bb.mono HB.size)
  replace r3 := r3.to bb
  refine hK.out _ _ HB ?_
  clear hK K bb
  refine plan_call rfl (by rfl) (fun K hK => ?_)
  go_simp
  refine (equal_q (r3.qi mr3 (by decide)) (r4.qi mr4 (by decide)) (by decide) (by decide) (by decide) (v := true) (decide_eq_true (Rat.add_assoc a b c))).mono ?_
  rintro e V ⟨rfl, bb⟩
  replace HB := HB.trans (bb.mono HB.size)
  clear r3
  clear r4
  refine hK.out _ _ HB ?_
  clear hK K bb
  refine plan_take (v := ?_) rfl (by rfl) ?_ ?_; rotate_left; (focus (intro w' _; go_simp; try with_reducible rfl)); simp only [Act.put, List.setIfInBounds_toArray, List.set_cons_zero, List.set_cons_succ]
  refine plan_take (v := ?_) rfl (by rfl) ?_ ?_; rotate_left; (focus (intro w' _; go_simp; try with_reducible rfl)); simp only [Act.put, List.setIfInBounds_toArray, List.set_cons_zero, List.set_cons_succ]
  refine plan_take (v := ?_) rfl (by rfl) ?_ ?_; rotate_left; (focus (intro w' _; go_simp; try with_reducible rfl)); simp only [Act.put, List.setIfInBounds_toArray, List.set_cons_zero, List.set_cons_succ]
  refine plan_take (v := ?_) rfl (by rfl) ?_ ?_; rotate_left; (focus (intro w' _; go_simp; try with_reducible rfl)); simp only [Act.put, List.setIfInBounds_toArray, List.set_cons_zero, List.set_cons_succ]
  refine plan_take rfl (by rfl) (fun w' hS => load_four (by rfl) (VP.four.to hS)) ?_; simp only [Act.put, List.setIfInBounds_toArray, List.set_cons_zero, List.set_cons_succ]
  refine plan_take rfl (by rfl) (fun w' hS => load_four (by rfl) (VC.four.to hS)) ?_; simp only [Act.put, List.setIfInBounds_toArray, List.set_cons_zero, List.set_cons_succ]
  refine plan_take rfl (by rfl) (fun w' hS => load_four (by rfl) (VA.four.to hS)) ?_; simp only [Act.put, List.setIfInBounds_toArray, List.set_cons_zero, List.set_cons_succ]
  refine plan_take rfl (by rfl) (fun w' hS => load_four (by rfl) (VR.four.to hS)) ?_; simp only [Act.put, List.setIfInBounds_toArray, List.set_cons_zero, List.set_cons_succ]
  refine plan_call rfl (by rfl) (fun K hK => ?_)
  go_simp
  refine (mul_q (VP.qi.to HB) (VC.qi.to HB) (by decide) (by decide) (by decide)).mono ?_
  rintro e V ⟨ur5, vr5, xr5, yr5, rfl, r5, bb⟩
  replace HB := HB.trans (bb.mono HB.size)
  refine hK.out _ _ HB ?_
  clear hK K bb
  refine plan_call rfl (by rfl) (fun K hK => ?_)
  go_simp
  refine (mul_q (VA.qi.to HB) (VR.qi.to HB) (by decide) (by decide) (by decide)).mono ?_
  rintro e V ⟨ur6, vr6, xr6, yr6, rfl, r6, bb⟩
  replace HB := HB.trans (bb.mono HB.size)
  replace r5 := r5.to bb
  refine hK.out _ _ HB ?_
  clear hK K bb
  refine plan_call rfl (by rfl) (fun K hK => ?_)
  go_simp
  refine (equal_q (r5.qi mr5 (by decide)) (r6.qi mr6 (by decide)) (by decide) (by decide) (by decide) (v := true) (decide_eq_true (Rat.mul_assoc a b c))).mono ?_
  rintro e V ⟨rfl, bb⟩
  replace HB := HB.trans (bb.mono HB.size)
  clear r5
  clear r6
  refine hK.out _ _ HB ?_
  clear hK K bb
  refine plan_take (v := ?_) rfl (by rfl) ?_ ?_; rotate_left; (focus (intro w' _; go_simp; try with_reducible rfl)); simp only [Act.put, List.setIfInBounds_toArray, List.set_cons_zero, List.set_cons_succ]
  refine plan_take (v := ?_) rfl (by rfl) ?_ ?_; rotate_left; (focus (intro w' _; go_simp; try with_reducible rfl)); simp only [Act.put, List.setIfInBounds_toArray, List.set_cons_zero, List.set_cons_succ]
  refine plan_take (v := ?_) rfl (by rfl) ?_ ?_; rotate_left; (focus (intro w' _; go_simp; try with_reducible rfl)); simp only [Act.put, List.setIfInBounds_toArray, List.set_cons_zero, List.set_cons_succ]
  refine plan_take (v := ?_) rfl (by rfl) ?_ ?_; rotate_left; (focus (intro w' _; go_simp; try with_reducible rfl)); simp only [Act.put, List.setIfInBounds_toArray, List.set_cons_zero, List.set_cons_succ]
  refine plan_take rfl (by rfl) (fun w' hS => load_four (by rfl) (VA.four.to hS)) ?_; simp only [Act.put, List.setIfInBounds_toArray, List.set_cons_zero, List.set_cons_succ]
  refine plan_take rfl (by rfl) (fun w' hS => load_four (by rfl) (VT.four.to hS)) ?_; simp only [Act.put, List.setIfInBounds_toArray, List.set_cons_zero, List.set_cons_succ]
  refine plan_take rfl (by rfl) (fun w' hS => load_four (by rfl) (VP.four.to hS)) ?_; simp only [Act.put, List.setIfInBounds_toArray, List.set_cons_zero, List.set_cons_succ]
  refine plan_take rfl (by rfl) (fun w' hS => load_four (by rfl) (VA.four.to hS)) ?_; simp only [Act.put, List.setIfInBounds_toArray, List.set_cons_zero, List.set_cons_succ]
  refine plan_take rfl (by rfl) (fun w' hS => load_four (by rfl) (VC.four.to hS)) ?_; simp only [Act.put, List.setIfInBounds_toArray, List.set_cons_zero, List.set_cons_succ]
  refine plan_call rfl (by rfl) (fun K hK => ?_)
  go_simp
  refine (mul_q (VA.qi.to HB) (VT.qi.to HB) (by decide) (by decide) (by decide)).mono ?_
  rintro e V ⟨ur7, vr7, xr7, yr7, rfl, r7, bb⟩
  replace HB := HB.trans (bb.mono HB.size)
  refine hK.out _ _ HB ?_
  clear hK K bb
  refine plan_call rfl (by rfl) (fun K hK => ?_)
  go_simp
  refine (mul_q (VA.qi.to HB) (VC.qi.to HB) (by decide) (by decide) (by decide)).mono ?_
  rintro e V ⟨ur8, vr8, xr8, yr8, rfl, r8, bb⟩
  replace HB := HB.trans (bb.mono HB.size)
  replace r7 := r7.to bb
  refine hK.out _ _ HB ?_
  clear hK K bb
  refine plan_call rfl (by rfl) (fun K hK => ?_)
  go_simp
  refine (add_q (VP.qi.to HB) (r8.qi mr8 (by decide)) (by decide) (by decide) (by decide)).mono ?_
  rintro e V ⟨ur9, vr9, xr9, yr9, rfl, r9, bb⟩
  replace HB := HB.trans (bb.mono HB.size)
  clear r8
  replace r7 := r7.to bb
  refine hK.out _ _ HB ?_
  clear hK K bb
  refine plan_call rfl (by rfl) (fun K hK => ?_)
  go_simp
  refine (equal_q (r7.qi mr7 (by decide)) (r9.qi mr9 (by decide)) (by decide) (by decide) (by decide) (v := true) (decide_eq_true (Rat.mul_add a b c))).mono ?_
  rintro e V ⟨rfl, bb⟩
  replace HB := HB.trans (bb.mono HB.size)
  clear r7
  clear r9
  refine hK.out _ _ HB ?_
  clear hK K bb
  refine plan_take (v := ?_) rfl (by rfl) ?_ ?_; rotate_left; (focus (intro w' _; go_simp; try with_reducible rfl)); simp only [Act.put, List.setIfInBounds_toArray, List.set_cons_zero, List.set_cons_succ]
  refine plan_take (v := ?_) rfl (by rfl) ?_ ?_; rotate_left; (focus (intro w' _; go_simp; try with_reducible rfl)); simp only [Act.put, List.setIfInBounds_toArray, List.set_cons_zero, List.set_cons_succ]
  refine plan_done ?_
  replace VA := VA.to HB
  replace VB := VB.to HB
  replace VC := VC.to HB
  replace VS := VS.to HB
  replace VT := VT.to HB
  replace VP := VP.to HB
  replace VR := VR.to HB
  replace cS := cS.to HB
  replace cT := cT.to HB
  replace cP := cP.to HB
  replace cR := cR.to HB
  replace HB0 := Lib.hid (HB0.out.trans (HB.mono HB0.out.size))
  clear HB
  have k0 := VA.four.c0
  have k1 := VA.four.c1
  have k2 := VA.four.c2
  have k3 := VA.four.c3
  have l0 := VB.four.c0
  have l1 := VB.four.c1
  have l2 := VB.four.c2
  have l3 := VB.four.c3
  go_wp2_with fail
  by_cases hb0 : b = 0
  · refine (div_0 VB.qi hb0).mono ?_
    rintro e V ⟨rfl, bb⟩
    replace VB := VB.to bb
    replace HB0 := Lib.hid (HB0.out.trans (bb.mono HB0.out.size))
    clear k0 k1 k2 k3 l0 l1 l2 l3 VA VC VS VT VP VR cS cT cP cR bb
    have hv : Hid (sgnQ b = 0) := sgnQ_zero.2 hb0
    have b2 := (Below.refl V.heap.size V).alloc (Nat.le_refl _) (.cells #[.bool false, .slice none 0 0, .bool false, .slice none 0 0] 26)
    replace VB := VB.to b2
    replace HB0 := Lib.hid (HB0.out.trans (b2.mono HB0.out.size))
    clear b2
    have l0 := VB.four.c0
    have l1 := VB.four.c1
    have l2 := VB.four.c2
    have l3 := VB.four.c3
    go_wp2_with fail
    refine (sign_q VB.qi hv.out).mono ?_
    rintro e V2 ⟨rfl, bb⟩
    replace HB0 := Lib.hid (HB0.out.trans (bb.mono HB0.out.size))
    clear l0 l1 l2 l3 VB bb
    go_wp2_with fail
    refine (falive_any _).mono ?_
    rintro e V3 ⟨rfl, bb⟩
    have HE := Lib.hid (HB0.out.trans (bb.mono HB0.out.size))
    clear HB0 bb
    go_wp2
    go_ret
    exact ⟨rfl, HE.out⟩
  · refine (div_q VA.qi VB.qi (by decide) (by decide) (by decide) hb0).mono ?_
    rintro e V ⟨_, _, _, _, rfl, cD, bb⟩
    clear k0 k1 k2 k3 l0 l1 l2 l3
    replace VA := VA.to bb
    replace VB := VB.to bb
    replace VC := VC.to bb
    replace VS := VS.to bb
    replace VT := VT.to bb
    replace VP := VP.to bb
    replace VR := VR.to bb
    replace cS := cS.to bb
    replace cT := cT.to bb
    replace cP := cP.to bb
    replace cR := cR.to bb
    replace HB0 := Lib.hid (HB0.out.trans (bb.mono HB0.out.size))
    clear bb
    have mD : Qm 12 (a / b) := mA.div mB
    obtain ⟨⟨n1, A1, j1, m1, rfl, rfl⟩, ⟨n2, A2, j2, m2, rfl, rfl⟩⟩ := cD.fq
    have tD := Four.new V (.bool n1) (.slice A1 j1 m1) (.bool n2) (.slice A2 j2 m2) 26
    have bb := (Below.refl V.heap.size V).alloc (Nat.le_refl _) (.cells #[.bool n1, .slice A1 j1 m1, .bool n2, .slice A2 j2 m2] 26)
    replace cD := cD.to bb
    replace VA := VA.to bb
    replace VB := VB.to bb
    replace VC := VC.to bb
    replace VS := VS.to bb
    replace VT := VT.to bb
    replace VP := VP.to bb
    replace VR := VR.to bb
    replace cS := cS.to bb
    replace cT := cT.to bb
    replace cP := cP.to bb
    replace cR := cR.to bb
    replace HB0 := Lib.hid (HB0.out.trans (bb.mono HB0.out.size))
    clear bb
    obtain ⟨v, hv⟩ : ∃ v, sgnQ b = v := ⟨_, rfl⟩
    have hv0 : (v == 0) = false := by rw [beq_eq_false_iff_ne, ← hv]; exact fun h => hb0 (sgnQ_zero.1 h)
    have HV := Lib.hid hv
    clear hv
    have l0 := VB.four.c0
    have l1 := VB.four.c1
    have l2 := VB.four.c2
    have l3 := VB.four.c3
    go_wp2_with fail
    obtain ⟨W4, hW4⟩ : ∃ W, W = V.alloc (.cells #[.bool n1, .slice A1 j1 m1, .bool n2, .slice A2 j2 m2] 26) := ⟨_, rfl⟩
    obtain ⟨gD, hgD⟩ : ∃ g, g = V.heap.size := ⟨_, rfl⟩
    rw [← hW4, ← hgD] at tD
    rw [← hW4, ← hgD]
    rw [← hW4] at cD HB0 VA VB VC VS VT VP VR cS cT cP cR
    clear hW4 hgD
    have VD : Qb W4 gD _ _ _ _ (a / b) 12 := ⟨tD, cD.qi mD (by decide)⟩
    refine (sign_q VB.qi HV.out).mono ?_
    rintro e W5 ⟨rfl, bb⟩
    clear l0 l1 l2 l3 tD
    replace VA := VA.to bb
    replace VB := VB.to bb
    replace VC := VC.to bb
    replace VS := VS.to bb
    replace VT := VT.to bb
    replace VP := VP.to bb
    replace VR := VR.to bb
    replace VD := VD.to bb
    replace cS := cS.to bb
    replace cT := cT.to bb
    replace cP := cP.to bb
    replace cR := cR.to bb
    replace cD := cD.to bb
    replace HB0 := Lib.hid (HB0.out.trans (bb.mono HB0.out.size))
    clear bb
    go_wp2_with fail
    have mr10 : Qm 18 ((a / b) * b) := by have h := mD.mul mB; exact h
    have mr11 : Qm 13 (a - c) := by have h := mA.sub mC; exact h
    have mr12 : Qm 20 ((a - c) + c) := by have h := mr11.add mC; exact h
    refine wp_region_plan (S := fun w' => Below W5.heap.size W5 w') [(0, true), (1, true), (2, true), (3, true), (4, true), (5, true), (7, true), (6, false), (8, false), (9, true), (10, true), (11, true), (12, true), (13, true), (15, true), (17, true), (14, false), (16, false), (18, false), (19, true), (20, true), (21, true), (22, false), (23, true), (24, true), (25, true), (26, false), (27, true), (28, true), (29, true), (30, false), (31, true), (32, true), (33, false), (34, true), (35, true)] (by kernel_rfl) (by kernel_rfl) (Below.refl _ _).drew ?_
    have HB := (Below.refl W5.heap.size W5).drew
    refine plan_take (v := ?_) rfl (by rfl) ?_ ?_; rotate_left; (focus (intro w' _; go_simp; try with_reducible rfl)); simp only [Act.put, List.setIfInBounds_toArray, List.set_cons_zero, List.set_cons_succ]
    refine plan_take (v := ?_) rfl (by rfl) ?_ ?_; rotate_left; (focus (intro w' _; go_simp; try with_reducible rfl)); simp only [Act.put, List.setIfInBounds_toArray, List.set_cons_zero, List.set_cons_succ]
    refine plan_take (v := ?_) rfl (by rfl) ?_ ?_; rotate_left; (focus (intro w' _; go_simp; try with_reducible rfl)); simp only [Act.put, List.setIfInBounds_toArray, List.set_cons_zero, List.set_cons_succ]
    refine plan_take (v := ?_) rfl (by rfl) ?_ ?_; rotate_left; (focus (intro w' _; go_simp; try with_reducible rfl)); simp only [Act.put, List.setIfInBounds_toArray, List.set_cons_zero, List.set_cons_succ]
    refine plan_take rfl (by rfl) (fun w' hS => load_four (by rfl) (VD.four.to hS)) ?_; simp only [Act.put, List.setIfInBounds_toArray, List.set_cons_zero, List.set_cons_succ]
    refine plan_take rfl (by rfl) (fun w' hS => load_four (by rfl) (VB.four.to hS)) ?_; simp only [Act.put, List.setIfInBounds_toArray, List.set_cons_zero, List.set_cons_succ]
    refine plan_take rfl (by rfl) (fun w' hS => load_four (by rfl) (VA.four.to hS)) ?_; simp only [Act.put, List.setIfInBounds_toArray, List.set_cons_zero, List.set_cons_succ]
    refine plan_call rfl (by rfl) (fun K hK => ?_)
    go_simp
    refine (mul_q (VD.qi.to HB) (VB.qi.to HB) (by decide) (by decide) (by decide)).mono ?_
    rintro e V ⟨ur10, vr10, xr10, yr10, rfl, r10, bb⟩
    replace HB := HB.trans (bb.mono HB.size)
    refine hK.out _ _ HB ?_
    clear hK K bb
    refine plan_call rfl (by rfl) (fun K hK => ?_)
    go_simp
    refine (equal_q (r10.qi mr10 (by decide)) (VA.qi.to HB) (by decide) (by decide) (by decide) (v := true) (decide_eq_true (Rat.div_mul_cancel hb0))).mono ?_
    rintro e V ⟨rfl, bb⟩
    replace HB := HB.trans (bb.mono HB.size)
    clear r10
    refine hK.out _ _ HB ?_
    clear hK K bb
    refine plan_take (v := ?_) rfl (by rfl) ?_ ?_; rotate_left; (focus (intro w' _; go_simp; try with_reducible rfl)); simp only [Act.put, List.setIfInBounds_toArray, List.set_cons_zero, List.set_cons_succ]
    refine plan_take (v := ?_) rfl (by rfl) ?_ ?_; rotate_left; (focus (intro w' _; go_simp; try with_reducible rfl)); simp only [Act.put, List.setIfInBounds_toArray, List.set_cons_zero, List.set_cons_succ]
    refine plan_take (v := ?_) rfl (by rfl) ?_ ?_; rotate_left; (focus (intro w' _; go_simp; try with_reducible rfl)); simp only [Act.put, List.setIfInBounds_toArray, List.set_cons_zero, List.set_cons_succ]
    refine plan_take rfl (by rfl) (fun w' hS => load_four (by rfl) (VA.four.to hS)) ?_; simp only [Act.put, List.setIfInBounds_toArray, List.set_cons_zero, List.set_cons_succ]
    refine plan_take rfl (by rfl) (fun w' hS => load_four (by rfl) (VC.four.to hS)) ?_; simp only [Act.put, List.setIfInBounds_toArray, List.set_cons_zero, List.set_cons_succ]
    refine plan_take rfl (by rfl) (fun w' hS => load_four (by rfl) (VC.four.to hS)) ?_; simp only [Act.put, List.setIfInBounds_toArray, List.set_cons_zero, List.set_cons_succ]
    refine plan_take rfl (by rfl) (fun w' hS => load_four (by rfl) (VA.four.to hS)) ?_; simp only [Act.put, List.setIfInBounds_toArray, List.set_cons_zero, List.set_cons_succ]
    refine plan_call rfl (by rfl) (fun K hK => ?_)
    go_simp
    refine (sub_q (VA.qi.to HB) (VC.qi.to HB) (by decide) (by decide) (by decide)).mono ?_
    rintro e V ⟨ur11, vr11, xr11, yr11, rfl, r11, bb⟩
    replace HB := HB.trans (bb.mono HB.size)
    refine hK.out _ _ HB ?_
    clear hK K bb
    refine plan_call rfl (by rfl) (fun K hK => ?_)
    go_simp
    refine (add_q (r11.qi mr11 (by decide)) (VC.qi.to HB) (by decide) (by decide) (by decide)).mono ?_
    rintro e V ⟨ur12, vr12, xr12, yr12, rfl, r12, bb⟩
    replace HB := HB.trans (bb.mono HB.size)
    clear r11
    refine hK.out _ _ HB ?_
    clear hK K bb
    refine plan_call rfl (by rfl) (fun K hK => ?_)
    go_simp
    refine (equal_q (r12.qi mr12 (by decide)) (VA.qi.to HB) (by decide) (by decide) (by decide) (v := true) (decide_eq_true (Rat.sub_add_cancel))).mono ?_
    rintro e V ⟨rfl, bb⟩
    replace HB := HB.trans (bb.mono HB.size)
    clear r12
    refine hK.out _ _ HB ?_
    clear hK K bb
    refine plan_take (v := ?_) rfl (by rfl) ?_ ?_; rotate_left; (focus (intro w' _; go_simp; try with_reducible rfl)); simp only [Act.put, List.setIfInBounds_toArray, List.set_cons_zero, List.set_cons_succ]
    refine plan_take (v := ?_) rfl (by rfl) ?_ ?_; rotate_left; (focus (intro w' _; go_simp; try with_reducible rfl)); simp only [Act.put, List.setIfInBounds_toArray, List.set_cons_zero, List.set_cons_succ]
    refine plan_take rfl (by rfl) (fun w' hS => load_four (by rfl) (VS.four.to hS)) ?_; simp only [Act.put, List.setIfInBounds_toArray, List.set_cons_zero, List.set_cons_succ]
    refine plan_call rfl (by rfl) (fun K hK => ?_)
    go_simp
    refine (isCan_q (cS.to HB) mS (by decide)).mono ?_
    rintro e V ⟨rfl, bb⟩
    replace HB := HB.trans (bb.mono HB.size)
    refine hK.out _ _ HB ?_
    clear hK K bb
    refine plan_take (v := ?_) rfl (by rfl) ?_ ?_; rotate_left; (focus (intro w' _; go_simp; try with_reducible rfl)); simp only [Act.put, List.setIfInBounds_toArray, List.set_cons_zero, List.set_cons_succ]
    refine plan_take (v := ?_) rfl (by rfl) ?_ ?_; rotate_left; (focus (intro w' _; go_simp; try with_reducible rfl)); simp only [Act.put, List.setIfInBounds_toArray, List.set_cons_zero, List.set_cons_succ]
    refine plan_take rfl (by rfl) (fun w' hS => load_four (by rfl) (VP.four.to hS)) ?_; simp only [Act.put, List.setIfInBounds_toArray, List.set_cons_zero, List.set_cons_succ]
    refine plan_call rfl (by rfl) (fun K hK => ?_)
    go_simp
    refine (isCan_q (cP.to HB) mP (by decide)).mono ?_
    rintro e V ⟨rfl, bb⟩
    replace HB := HB.trans (bb.mono HB.size)
    refine hK.out _ _ HB ?_
    clear hK K bb
    refine plan_take (v := ?_) rfl (by rfl) ?_ ?_; rotate_left; (focus (intro w' _; go_simp; try with_reducible rfl)); simp only [Act.put, List.setIfInBounds_toArray, List.set_cons_zero, List.set_cons_succ]
    refine plan_take (v := ?_) rfl (by rfl) ?_ ?_; rotate_left; (focus (intro w' _; go_simp; try with_reducible rfl)); simp only [Act.put, List.setIfInBounds_toArray, List.set_cons_zero, List.set_cons_succ]
    refine plan_take rfl (by rfl) (fun w' hS => load_four (by rfl) (VD.four.to hS)) ?_; simp only [Act.put, List.setIfInBounds_toArray, List.set_cons_zero, List.set_cons_succ]
    refine plan_call rfl (by rfl) (fun K hK => ?_)
    go_simp
    refine (isCan_q (cD.to HB) mD (by decide)).mono ?_
    rintro e V ⟨rfl, bb⟩
    replace HB := HB.trans (bb.mono HB.size)
    refine hK.out _ _ HB ?_
    clear hK K bb
    refine plan_take (v := ?_) rfl (by rfl) ?_ ?_; rotate_left; (focus (intro w' _; go_simp; try with_reducible rfl)); simp only [Act.put, List.setIfInBounds_toArray, List.set_cons_zero, List.set_cons_succ]
    refine plan_take (v := ?_) rfl (by rfl) ?_ ?_; rotate_left; (focus (intro w' _; go_simp; try with_reducible rfl)); simp only [Act.put, List.setIfInBounds_toArray, List.set_cons_zero, List.set_cons_succ]
    refine plan_call rfl (by rfl) (fun K hK => ?_)
    go_simp
    refine (falive_any _).mono ?_
    rintro e V ⟨rfl, bb⟩
    replace HB := HB.trans (bb.mono HB.size)
    refine hK.out _ _ HB ?_
    clear hK K bb
    refine plan_take (v := ?_) rfl (by rfl) ?_ ?_; rotate_left; (focus (intro w' _; go_simp; try with_reducible rfl)); simp only [Act.put, List.setIfInBounds_toArray, List.set_cons_zero, List.set_cons_succ]
    refine plan_take (v := ?_) rfl (by rfl) ?_ ?_; rotate_left; (focus (intro w' _; go_simp; try with_reducible rfl)); simp only [Act.put, List.setIfInBounds_toArray, List.set_cons_zero, List.set_cons_succ]
    refine plan_done ?_
    have HE := Lib.hid (HB0.out.trans (HB.mono HB0.out.size))
    clear HB
    go_wp2
    go_ret
    exact ⟨rfl, HE.out⟩

set_option maxHeartbeats 2000000 in
theorem field_long {a1 a2 a3 a4 b1 b2 b3 b4 c1 c2 c3 c4 : Value} {w : World}
    (hL : ∀ (V : World) (g : Nat), V.heap[g]? = some (.cells #[a1, a2, a3, a4, b1, b2, b3, b4, c1, c2, c3, c4] 26 (0, 0)) → Calls Try.prog 6 #[.slice (some ⟨g, 0, none⟩) 3 3] V fun e w' => e = .returned (.bool true) ∧ Below V.heap.size V w') :
    Calls Try.prog 3 #[.agg #[a1, a2, a3, a4], .agg #[b1, b2, b3, b4], .agg #[c1, c2, c3, c4]] w fun e w' => e = .returned (.bool true) ∧ Below w.heap.size w w' := by
  obtain ⟨W0, hW0⟩ : ∃ W0, W0 = (((w.alloc (.cells #[a1, a2, a3, a4] 26)).alloc (.cells #[b1, b2, b3, b4] 26)).alloc (.cells #[c1, c2, c3, c4] 26)).alloc (.cells #[a1, a2, a3, a4, b1, b2, b3, b4, c1, c2, c3, c4] 26) := ⟨_, rfl⟩
  have hb : Below w.heap.size w W0 := by rw [hW0]; exact ((((Below.refl _ _).alloc (Nat.le_refl _) _).alloc (by simp) _).alloc (by simp; omega) _).alloc (by simp; omega) _
  have HL : Hid (Calls Try.prog 6 #[.slice (some ⟨w.heap.size + 1 + 1 + 1, 0, none⟩) 3 3] W0 fun e w' => e = .returned (.bool true) ∧ Below W0.heap.size W0 w') := by
    have h := World.alloc_heap_new (((w.alloc (.cells #[a1, a2, a3, a4] 26)).alloc (.cells #[b1, b2, b3, b4] 26)).alloc (.cells #[c1, c2, c3, c4] 26)) (.cells #[a1, a2, a3, a4, b1, b2, b3, b4, c1, c2, c3, c4] 26)
    rw [World.size_alloc, World.size_alloc, World.size_alloc, ← hW0] at h
    exact hL W0 (w.heap.size + 1 + 1 + 1) h
  have HW0 := Lib.hid hW0
  have HB0 := Lib.hid hb
  clear hL hW0 hb
  go_enter Try.func3, Try.ntmps3
  go_wp2_with fail
  rw [← HW0.out]
  refine HL.out.mono ?_
  rintro e W1 ⟨rfl, bb⟩
  replace HB0 := Lib.hid (HB0.out.trans (bb.mono HB0.out.size))
  clear HL HW0 bb
  go_wp2_with fail
  refine (falive_any _).mono ?_
  rintro e w' ⟨rfl, b⟩
  have HE := Lib.hid (HB0.out.trans (b.mono HB0.out.size))
  clear b HB0
  go_wp2
  go_ret
  exact ⟨rfl, HE.out⟩

end Go.Proofs.Ytbmnloelimmgiaa
