/- Parts: 1. -/
import Derived.Test.YtgkfbhdaheoecaaGreatFo21
set_option linter.unusedVariables false
set_option linter.unusedSimpArgs false
set_option maxRecDepth 100000
set_option maxHeartbeats 40000000

namespace Go.Proofs.YtgkfbhdaheoecaaGreat
open Go.RowKit Go.Shelf


set_option maxRecDepth 100000 in
theorem rfloor_q {w : World} {a1 a2 a3 a4 : Value} {r : Rat} {k : Nat} (hA : Qi w a1 a2 a3 a4 r k) (hk : 0 < k) (hk2 : k <= 10000) :
    Calls Tryz.prog 20 #[.agg #[a1, a2, a3, a4]] w (ZR w r.floor) := by
  obtain ⟨p, q, h1, h2, rfl, s1, s2⟩ := hA
  have sN : Hid (Sg (upN p q)) := (s1.upN q).sg hk2
  have sD : Hid (Sg (upD q)) := (s2.upD hk).sg hk2
  have pD : Hid (0 < upD q) := upD_pos q
  have pD0 : Hid (upD q ≠ 0) := by show _ ≠ _; have := pD.out; omega
  have eF : Hid (upN p q / upD q = (rv p q).floor) := by show _ = _; rw [floor_div pD.out, <- rv_up]
  obtain ⟨F, eX⟩ : ∃ F, (rv p q).floor = F := ⟨_, rfl⟩
  rw [eX] at eF ⊢
  clear s1 s2 hk hk2 eX
  obtain ⟨W0, hW0⟩ : ∃ W0, W0 = (w.alloc (.cells #[a1, a2, a3, a4] 26)).alloc (.cells #[.bool false, .slice none 0 0] 24) := ⟨_, rfl⟩
  have hbw : Below w.heap.size w W0 := by rw [hW0]; exact (((Below.refl _ _).alloc (Nat.le_refl _) _).alloc (by simp) _)
  have tA : Four W0 (w.heap.size) a1 a2 a3 a4 := by
    have h := Four.new w a1 a2 a3 a4 26
    rw [hW0]; exact (h.alloc _)
  have tR : Two W0 (w.heap.size + 1) (.bool false) (.slice none 0 0) := by
    have h := Two.new (w.alloc (.cells #[a1, a2, a3, a4] 26)) (.bool false) (.slice none 0 0) 24
    rw [World.size_alloc] at h
    rw [hW0]; exact h
  replace h1 := h1.to hbw
  replace h2 := h2.to hbw
  have HW0 := Lib.hid hW0
  have HB := Lib.hid hbw
  clear hW0 hbw
  go_enter Tryz.func20, Tryz.ntmps20
  go_wp2_with fail
  rw [<- HW0.out]
  clear HW0
  obtain ⟨Y1, eY1⟩ : ∃ W, W = W0 := ⟨_, rfl⟩
  rw [<- eY1]
  rw [<- eY1] at HB tA tR h1 h2
  clear eY1
  refine wp_cut (fun a' v' w' => ∃ (g1 g2 : Nat) (c10 c11 c20 c21 w7 w8 w9 w10 w11 w6 w12 w13 w14 w5 : Value), v' = ((((((((((((a'.put (some 7) w7).put (some 8) w8).put (some 9) w9).put (some 10) w10).put (some 11) w11).put (some 6) w6).put (some 12) w12).put (some 13) w13).put (some 14) w14).put (some 5) w5).put (some 3) (.pointer (some ⟨g1, 0, none⟩))).put (some 4) (.pointer (some ⟨g2, 0, none⟩))) /\ Two w' g1 c10 c11 /\ Zc w' c10 c11 F /\ Two w' g2 c20 c21 /\ Zc w' c20 c21 (upN p q % upD q) /\ (Y1.heap.size <= g1 /\ Y1.heap.size <= g2) /\ Below Y1.heap.size Y1 w') ?_ ?_
  · refine wp_region_planTo (S := fun w' => Below Y1.heap.size Y1 w') [(0, true), (2, true)] #[true, false, true, false, false, false, false, false, false, false, false, false, false, false] 12 (by kernel_rfl) (by kernel_rfl) (Below.refl _ _).drew ?_
    refine plan_take rfl (by rfl) (fun w' hS => load_four (by rfl) (tA.to hS)) ?_; simp only [Act.put, List.setIfInBounds_toArray, List.set_cons_zero, List.set_cons_succ]
    refine plan_take rfl (by rfl) (fun w' hS => load_four (by rfl) (tA.to hS)) ?_; simp only [Act.put, List.setIfInBounds_toArray, List.set_cons_zero, List.set_cons_succ]
    intro HB
    refine wpAnyH_ready (rs := [1, 9, 10]) (by kernel_rfl) (by simp) (ready_cons rfl (by rfl) (fun K hK => ?_) (ready_cons rfl (by rfl) (fun K hK => ?_) (ready_cons rfl (by rfl) (fun K hK => ?_) AllReadyH.nil)))
    · go_simp
      refine (rnum_z (h1.to HB) (h2.to HB)).mono ?_
      rintro e V ⟨x1, y1, rfl, z1, bb⟩
      replace HB := HB.trans (bb.mono HB.size)
      refine hK.out _ _ HB ?_
      clear hK K bb
      refine wpAnyH_ready (rs := [3, 9, 10]) (by kernel_rfl) (by simp) (ready_cons rfl (by rfl) (fun K hK => ?_) (ready_cons rfl (by rfl) (fun K hK => ?_) (ready_cons rfl (by rfl) (fun K hK => ?_) AllReadyH.nil)))
      · go_simp
        refine (rden_z (h2.to HB)).mono ?_
        rintro e V ⟨x2, y2, rfl, z2, bb⟩
        replace HB := HB.trans (bb.mono HB.size)
        replace z1 := z1.to bb
        refine hK.out _ _ HB ?_
        clear hK K bb
        refine wpAnyH_ready (rs := [4, 9, 10]) (by kernel_rfl) (by simp) (ready_cons rfl (by rfl) (fun K hK => ?_) (ready_cons rfl (by rfl) (fun K hK => ?_) (ready_cons rfl (by rfl) (fun K hK => ?_) AllReadyH.nil)))
        · go_simp
          refine (rd_v (z1.zs sN.out) (z2.zs sD.out) pD0.out eF.out).mono ?_
          rintro e V ⟨x3, y3, x4, y4, rfl, z3, z4, bb⟩
          replace HB := HB.trans (bb.mono HB.size)
          refine hK.out _ _ HB ?_
          clear hK K bb
          refine ready_take (i := 5) (v := ?_) rfl (by kernel_rfl) (by kernel_rfl) (by kernel_rfl) (by rfl) ?_ HB ?_; rotate_left; (focus (intro w' _; go_simp; try with_reducible rfl)); simp only [Act.put, List.setIfInBounds_toArray, List.set_cons_zero, List.set_cons_succ]
          refine ready_take (i := 6) (v := ?_) rfl (by kernel_rfl) (by kernel_rfl) (by kernel_rfl) (by rfl) ?_ HB ?_; rotate_left; (focus (intro w' _; go_simp; try with_reducible rfl)); simp only [Act.put, List.setIfInBounds_toArray, List.set_cons_zero, List.set_cons_succ]
          refine ready_take (i := 7) (v := ?_) rfl (by kernel_rfl) (by kernel_rfl) (by kernel_rfl) (by rfl) ?_ HB ?_; rotate_left; (focus (intro w' _; go_simp; try with_reducible rfl)); simp only [Act.put, List.setIfInBounds_toArray, List.set_cons_zero, List.set_cons_succ]
          refine ready_take (i := 8) (v := ?_) rfl (by kernel_rfl) (by kernel_rfl) (by kernel_rfl) (by rfl) ?_ HB ?_; rotate_left; (focus (intro w' _; go_simp; try with_reducible rfl)); simp only [Act.put, List.setIfInBounds_toArray, List.set_cons_zero, List.set_cons_succ]
          refine wpAnyH_ready (rs := [9, 10]) (by kernel_rfl) (by simp) (ready_cons rfl (by rfl) (fun K hK => ?_) (ready_cons rfl (by rfl) (fun K hK => ?_) AllReadyH.nil))
          · refine wp_alloc_two (fun g1 V t1 bb hg => ?_)
            have b1 := Nat.le_trans HB.size hg
            replace HB := HB.trans (bb.mono HB.size)
            replace z3 := z3.to bb
            replace z4 := z4.to bb
            refine hK.out _ _ HB ?_
            clear hK K bb hg
            simp only [Act.put, List.setIfInBounds_toArray, List.set_cons_zero, List.set_cons_succ]
            refine wpAnyH_ready (rs := [10]) (by kernel_rfl) (by simp) (ready_cons rfl (by rfl) (fun K hK => ?_) AllReadyH.nil)
            · refine wp_alloc_two (fun g2 V t2 bb hg => ?_)
              have b2 := Nat.le_trans HB.size hg
              replace HB := HB.trans (bb.mono HB.size)
              have ne : g1 ≠ g2 := Nat.ne_of_lt (Nat.lt_of_lt_of_le t1.lt hg)
              replace t1 := t1.to bb
              replace z3 := z3.to bb
              replace z4 := z4.to bb
              refine hK.out _ _ HB ?_
              clear hK K bb hg
              simp only [Act.put, List.setIfInBounds_toArray, List.set_cons_zero, List.set_cons_succ]
              refine wpAnyH_ready (rs := [11]) (by kernel_rfl) (by simp) (ready_cons rfl (by rfl) (fun K hK => ?_) AllReadyH.nil)
              · refine wp_store_z (by rfl) (by rfl) t1 Fs.nil z3.fs (fun V u kp => ?_)
                replace t2 := kp.two (Ne.symm ne) t2
                replace z3 := kp.zc _ _ _ z3
                replace z4 := kp.zc _ _ _ z4
                replace HB := kp.bel _ _ HB b1
                clear t1
                have t1 := u
                refine hK.out _ _ HB ?_
                clear hK K kp u
                simp only [Act.put, List.setIfInBounds_toArray, List.set_cons_zero, List.set_cons_succ]
                refine wpAnyH_ready (rs := [12]) (by kernel_rfl) (by simp) (ready_cons rfl (by rfl) (fun K hK => ?_) AllReadyH.nil)
                · refine wp_store_z (by rfl) (by rfl) t2 Fs.nil z4.fs (fun V u kp => ?_)
                  replace t1 := kp.two ne t1
                  replace z3 := kp.zc _ _ _ z3
                  replace z4 := kp.zc _ _ _ z4
                  replace HB := kp.bel _ _ HB b2
                  clear t2
                  have t2 := u
                  refine hK.out _ _ HB ?_
                  clear hK K kp u
                  simp only [Act.put, List.setIfInBounds_toArray, List.set_cons_zero, List.set_cons_succ]
                  refine ready_take (i := 13) (v := ?_) rfl (by kernel_rfl) (by kernel_rfl) (by kernel_rfl) (by rfl) ?_ HB ?_; rotate_left; (focus (intro w' _; go_simp; try with_reducible rfl)); simp only [Act.put, List.setIfInBounds_toArray, List.set_cons_zero, List.set_cons_succ]
                  exact wpAnyH_done (by kernel_rfl) ⟨rfl, g1, g2, _, _, _, _, _, _, _, _, _, _, _, _, _, _, by rfl, t1, z3, t2, z4, ⟨b1, b2⟩, HB⟩ _
          · refine wp_alloc_two (fun g2 V t2 bb hg => ?_)
            have b2 := Nat.le_trans HB.size hg
            replace HB := HB.trans (bb.mono HB.size)
            replace z3 := z3.to bb
            replace z4 := z4.to bb
            refine hK.out _ _ HB ?_
            clear hK K bb hg
            simp only [Act.put, List.setIfInBounds_toArray, List.set_cons_zero, List.set_cons_succ]
            refine wpAnyH_ready (rs := [9]) (by kernel_rfl) (by simp) (ready_cons rfl (by rfl) (fun K hK => ?_) AllReadyH.nil)
            · refine wp_alloc_two (fun g1 V t1 bb hg => ?_)
              have b1 := Nat.le_trans HB.size hg
              replace HB := HB.trans (bb.mono HB.size)
              have ne : g1 ≠ g2 := Nat.ne_of_gt (Nat.lt_of_lt_of_le t2.lt hg)
              replace t2 := t2.to bb
              replace z3 := z3.to bb
              replace z4 := z4.to bb
              refine hK.out _ _ HB ?_
              clear hK K bb hg
              simp only [Act.put, List.setIfInBounds_toArray, List.set_cons_zero, List.set_cons_succ]
              refine wpAnyH_ready (rs := [11]) (by kernel_rfl) (by simp) (ready_cons rfl (by rfl) (fun K hK => ?_) AllReadyH.nil)
              · refine wp_store_z (by rfl) (by rfl) t1 Fs.nil z3.fs (fun V u kp => ?_)
                replace t2 := kp.two (Ne.symm ne) t2
                replace z3 := kp.zc _ _ _ z3
                replace z4 := kp.zc _ _ _ z4
                replace HB := kp.bel _ _ HB b1
                clear t1
                have t1 := u
                refine hK.out _ _ HB ?_
                clear hK K kp u
                simp only [Act.put, List.setIfInBounds_toArray, List.set_cons_zero, List.set_cons_succ]
                refine wpAnyH_ready (rs := [12]) (by kernel_rfl) (by simp) (ready_cons rfl (by rfl) (fun K hK => ?_) AllReadyH.nil)
                · refine wp_store_z (by rfl) (by rfl) t2 Fs.nil z4.fs (fun V u kp => ?_)
                  replace t1 := kp.two ne t1
                  replace z3 := kp.zc _ _ _ z3
                  replace z4 := kp.zc _ _ _ z4
                  replace HB := kp.bel _ _ HB b2
                  clear t2
                  have t2 := u
                  refine hK.out _ _ HB ?_
                  clear hK K kp u
                  simp only [Act.put, List.setIfInBounds_toArray, List.set_cons_zero, List.set_cons_succ]
                  refine ready_take (i := 13) (v := ?_) rfl (by kernel_rfl) (by kernel_rfl) (by kernel_rfl) (by rfl) ?_ HB ?_; rotate_left; (focus (intro w' _; go_simp; try with_reducible rfl)); simp only [Act.put, List.setIfInBounds_toArray, List.set_cons_zero, List.set_cons_succ]
                  exact wpAnyH_done (by kernel_rfl) ⟨rfl, g1, g2, _, _, _, _, _, _, _, _, _, _, _, _, _, _, by rfl, t1, z3, t2, z4, ⟨b1, b2⟩, HB⟩ _
        · refine wp_alloc_two (fun g1 V t1 bb hg => ?_)
          have b1 := Nat.le_trans HB.size hg
          replace HB := HB.trans (bb.mono HB.size)
          replace z1 := z1.to bb
          replace z2 := z2.to bb
          refine hK.out _ _ HB ?_
          clear hK K bb hg
          simp only [Act.put, List.setIfInBounds_toArray, List.set_cons_zero, List.set_cons_succ]
          refine wpAnyH_ready (rs := [4, 10]) (by kernel_rfl) (by simp) (ready_cons rfl (by rfl) (fun K hK => ?_) (ready_cons rfl (by rfl) (fun K hK => ?_) AllReadyH.nil))
          · go_simp
            refine (rd_v (z1.zs sN.out) (z2.zs sD.out) pD0.out eF.out).mono ?_
            rintro e V ⟨x3, y3, x4, y4, rfl, z3, z4, bb⟩
            replace HB := HB.trans (bb.mono HB.size)
            replace t1 := t1.to bb
            refine hK.out _ _ HB ?_
            clear hK K bb
            refine ready_take (i := 5) (v := ?_) rfl (by kernel_rfl) (by kernel_rfl) (by kernel_rfl) (by rfl) ?_ HB ?_; rotate_left; (focus (intro w' _; go_simp; try with_reducible rfl)); simp only [Act.put, List.setIfInBounds_toArray, List.set_cons_zero, List.set_cons_succ]
            refine ready_take (i := 6) (v := ?_) rfl (by kernel_rfl) (by kernel_rfl) (by kernel_rfl) (by rfl) ?_ HB ?_; rotate_left; (focus (intro w' _; go_simp; try with_reducible rfl)); simp only [Act.put, List.setIfInBounds_toArray, List.set_cons_zero, List.set_cons_succ]
            refine ready_take (i := 7) (v := ?_) rfl (by kernel_rfl) (by kernel_rfl) (by kernel_rfl) (by rfl) ?_ HB ?_; rotate_left; (focus (intro w' _; go_simp; try with_reducible rfl)); simp only [Act.put, List.setIfInBounds_toArray, List.set_cons_zero, List.set_cons_succ]
            refine ready_take (i := 8) (v := ?_) rfl (by kernel_rfl) (by kernel_rfl) (by kernel_rfl) (by rfl) ?_ HB ?_; rotate_left; (focus (intro w' _; go_simp; try with_reducible rfl)); simp only [Act.put, List.setIfInBounds_toArray, List.set_cons_zero, List.set_cons_succ]
            refine wpAnyH_ready (rs := [10]) (by kernel_rfl) (by simp) (ready_cons rfl (by rfl) (fun K hK => ?_) AllReadyH.nil)
            · refine wp_alloc_two (fun g2 V t2 bb hg => ?_)
              have b2 := Nat.le_trans HB.size hg
              replace HB := HB.trans (bb.mono HB.size)
              have ne : g1 ≠ g2 := Nat.ne_of_lt (Nat.lt_of_lt_of_le t1.lt hg)
              replace t1 := t1.to bb
              replace z3 := z3.to bb
              replace z4 := z4.to bb
              refine hK.out _ _ HB ?_
              clear hK K bb hg
              simp only [Act.put, List.setIfInBounds_toArray, List.set_cons_zero, List.set_cons_succ]
              refine wpAnyH_ready (rs := [11]) (by kernel_rfl) (by simp) (ready_cons rfl (by rfl) (fun K hK => ?_) AllReadyH.nil)
              · refine wp_store_z (by rfl) (by rfl) t1 Fs.nil z3.fs (fun V u kp => ?_)
                replace t2 := kp.two (Ne.symm ne) t2
                replace z3 := kp.zc _ _ _ z3
                replace z4 := kp.zc _ _ _ z4
                replace HB := kp.bel _ _ HB b1
                clear t1
                have t1 := u
                refine hK.out _ _ HB ?_
                clear hK K kp u
                simp only [Act.put, List.setIfInBounds_toArray, List.set_cons_zero, List.set_cons_succ]
                refine wpAnyH_ready (rs := [12]) (by kernel_rfl) (by simp) (ready_cons rfl (by rfl) (fun K hK => ?_) AllReadyH.nil)
                · refine wp_store_z (by rfl) (by rfl) t2 Fs.nil z4.fs (fun V u kp => ?_)
                  replace t1 := kp.two ne t1
                  replace z3 := kp.zc _ _ _ z3
                  replace z4 := kp.zc _ _ _ z4
                  replace HB := kp.bel _ _ HB b2
                  clear t2
                  have t2 := u
                  refine hK.out _ _ HB ?_
                  clear hK K kp u
                  simp only [Act.put, List.setIfInBounds_toArray, List.set_cons_zero, List.set_cons_succ]
                  refine ready_take (i := 13) (v := ?_) rfl (by kernel_rfl) (by kernel_rfl) (by kernel_rfl) (by rfl) ?_ HB ?_; rotate_left; (focus (intro w' _; go_simp; try with_reducible rfl)); simp only [Act.put, List.setIfInBounds_toArray, List.set_cons_zero, List.set_cons_succ]
                  exact wpAnyH_done (by kernel_rfl) ⟨rfl, g1, g2, _, _, _, _, _, _, _, _, _, _, _, _, _, _, by rfl, t1, z3, t2, z4, ⟨b1, b2⟩, HB⟩ _
          · refine wp_alloc_two (fun g2 V t2 bb hg => ?_)
            have b2 := Nat.le_trans HB.size hg
            replace HB := HB.trans (bb.mono HB.size)
            have ne : g1 ≠ g2 := Nat.ne_of_lt (Nat.lt_of_lt_of_le t1.lt hg)
            replace t1 := t1.to bb
            replace z1 := z1.to bb
            replace z2 := z2.to bb
            refine hK.out _ _ HB ?_
            clear hK K bb hg
            simp only [Act.put, List.setIfInBounds_toArray, List.set_cons_zero, List.set_cons_succ]
            refine wpAnyH_ready (rs := [4]) (by kernel_rfl) (by simp) (ready_cons rfl (by rfl) (fun K hK => ?_) AllReadyH.nil)
            · go_simp
              refine (rd_v (z1.zs sN.out) (z2.zs sD.out) pD0.out eF.out).mono ?_
              rintro e V ⟨x3, y3, x4, y4, rfl, z3, z4, bb⟩
              replace HB := HB.trans (bb.mono HB.size)
              replace t1 := t1.to bb
              replace t2 := t2.to bb
              refine hK.out _ _ HB ?_
              clear hK K bb
              refine ready_take (i := 5) (v := ?_) rfl (by kernel_rfl) (by kernel_rfl) (by kernel_rfl) (by rfl) ?_ HB ?_; rotate_left; (focus (intro w' _; go_simp; try with_reducible rfl)); simp only [Act.put, List.setIfInBounds_toArray, List.set_cons_zero, List.set_cons_succ]
              refine ready_take (i := 6) (v := ?_) rfl (by kernel_rfl) (by kernel_rfl) (by kernel_rfl) (by rfl) ?_ HB ?_; rotate_left; (focus (intro w' _; go_simp; try with_reducible rfl)); simp only [Act.put, List.setIfInBounds_toArray, List.set_cons_zero, List.set_cons_succ]
              refine ready_take (i := 7) (v := ?_) rfl (by kernel_rfl) (by kernel_rfl) (by kernel_rfl) (by rfl) ?_ HB ?_; rotate_left; (focus (intro w' _; go_simp; try with_reducible rfl)); simp only [Act.put, List.setIfInBounds_toArray, List.set_cons_zero, List.set_cons_succ]
              refine ready_take (i := 8) (v := ?_) rfl (by kernel_rfl) (by kernel_rfl) (by kernel_rfl) (by rfl) ?_ HB ?_; rotate_left; (focus (intro w' _; go_simp; try with_reducible rfl)); simp only [Act.put, List.setIfInBounds_toArray, List.set_cons_zero, List.set_cons_succ]
              refine wpAnyH_ready (rs := [11]) (by kernel_rfl) (by simp) (ready_cons rfl (by rfl) (fun K hK => ?_) AllReadyH.nil)
              · refine wp_store_z (by rfl) (by rfl) t1 Fs.nil z3.fs (fun V u kp => ?_)
                replace t2 := kp.two (Ne.symm ne) t2
                replace z3 := kp.zc _ _ _ z3
                replace z4 := kp.zc _ _ _ z4
                replace HB := kp.bel _ _ HB b1
                clear t1
                have t1 := u
                refine hK.out _ _ HB ?_
                clear hK K kp u
                simp only [Act.put, List.setIfInBounds_toArray, List.set_cons_zero, List.set_cons_succ]
                refine wpAnyH_ready (rs := [12]) (by kernel_rfl) (by simp) (ready_cons rfl (by rfl) (fun K hK => ?_) AllReadyH.nil)
                · refine wp_store_z (by rfl) (by rfl) t2 Fs.nil z4.fs (fun V u kp => ?_)
                  replace t1 := kp.two ne t1
                  replace z3 := kp.zc _ _ _ z3
                  replace z4 := kp.zc _ _ _ z4
                  replace HB := kp.bel _ _ HB b2
                  clear t2
                  have t2 := u
                  refine hK.out _ _ HB ?_
                  clear hK K kp u
                  simp only [Act.put, List.setIfInBounds_toArray, List.set_cons_zero, List.set_cons_succ]
                  refine ready_take (i := 13) (v := ?_) rfl (by kernel_rfl) (by kernel_rfl) (by kernel_rfl) (by rfl) ?_ HB ?_; rotate_left; (focus (intro w' _; go_simp; try with_reducible rfl)); simp only [Act.put, List.setIfInBounds_toArray, List.set_cons_zero, List.set_cons_succ]
                  exact wpAnyH_done (by kernel_rfl) ⟨rfl, g1, g2, _, _, _, _, _, _, _, _, _, _, _, _, _, _, by rfl, t1, z3, t2, z4, ⟨b1, b2⟩, HB⟩ _
        · refine wp_alloc_two (fun g2 V t2 bb hg => ?_)
          have b2 := Nat.le_trans HB.size hg
          replace HB := HB.trans (bb.mono HB.size)
          replace z1 := z1.to bb
          replace z2 := z2.to bb
          refine hK.out _ _ HB ?_
          clear hK K bb hg
          simp only [Act.put, List.setIfInBounds_toArray, List.set_cons_zero, List.set_cons_succ]
          refine wpAnyH_ready (rs := [4, 9]) (by kernel_rfl) (by simp) (ready_cons rfl (by rfl) (fun K hK => ?_) (ready_cons rfl (by rfl) (fun K hK => ?_) AllReadyH.nil))
          · go_simp
            refine (rd_v (z1.zs sN.out) (z2.zs sD.out) pD0.out eF.out).mono ?_
            rintro e V ⟨x3, y3, x4, y4, rfl, z3, z4, bb⟩
            replace HB := HB.trans (bb.mono HB.size)
            replace t2 := t2.to bb
            refine hK.out _ _ HB ?_
            clear hK K bb
            refine ready_take (i := 5) (v := ?_) rfl (by kernel_rfl) (by kernel_rfl) (by kernel_rfl) (by rfl) ?_ HB ?_; rotate_left; (focus (intro w' _; go_simp; try with_reducible rfl)); simp only [Act.put, List.setIfInBounds_toArray, List.set_cons_zero, List.set_cons_succ]
            refine ready_take (i := 6) (v := ?_) rfl (by kernel_rfl) (by kernel_rfl) (by kernel_rfl) (by rfl) ?_ HB ?_; rotate_left; (focus (intro w' _; go_simp; try with_reducible rfl)); simp only [Act.put, List.setIfInBounds_toArray, List.set_cons_zero, List.set_cons_succ]
            refine ready_take (i := 7) (v := ?_) rfl (by kernel_rfl) (by kernel_rfl) (by kernel_rfl) (by rfl) ?_ HB ?_; rotate_left; (focus (intro w' _; go_simp; try with_reducible rfl)); simp only [Act.put, List.setIfInBounds_toArray, List.set_cons_zero, List.set_cons_succ]
            refine ready_take (i := 8) (v := ?_) rfl (by kernel_rfl) (by kernel_rfl) (by kernel_rfl) (by rfl) ?_ HB ?_; rotate_left; (focus (intro w' _; go_simp; try with_reducible rfl)); simp only [Act.put, List.setIfInBounds_toArray, List.set_cons_zero, List.set_cons_succ]
            refine wpAnyH_ready (rs := [9]) (by kernel_rfl) (by simp) (ready_cons rfl (by rfl) (fun K hK => ?_) AllReadyH.nil)
            · refine wp_alloc_two (fun g1 V t1 bb hg => ?_)
              have b1 := Nat.le_trans HB.size hg
              replace HB := HB.trans (bb.mono HB.size)
              have ne : g1 ≠ g2 := Nat.ne_of_gt (Nat.lt_of_lt_of_le t2.lt hg)
              replace t2 := t2.to bb
              replace z3 := z3.to bb
              replace z4 := z4.to bb
              refine hK.out _ _ HB ?_
              clear hK K bb hg
              simp only [Act.put, List.setIfInBounds_toArray, List.set_cons_zero, List.set_cons_succ]
              refine wpAnyH_ready (rs := [11]) (by kernel_rfl) (by simp) (ready_cons rfl (by rfl) (fun K hK => ?_) AllReadyH.nil)
              · refine wp_store_z (by rfl) (by rfl) t1 Fs.nil z3.fs (fun V u kp => ?_)
                replace t2 := kp.two (Ne.symm ne) t2
                replace z3 := kp.zc _ _ _ z3
                replace z4 := kp.zc _ _ _ z4
                replace HB := kp.bel _ _ HB b1
                clear t1
                have t1 := u
                refine hK.out _ _ HB ?_
                clear hK K kp u
                simp only [Act.put, List.setIfInBounds_toArray, List.set_cons_zero, List.set_cons_succ]
                refine wpAnyH_ready (rs := [12]) (by kernel_rfl) (by simp) (ready_cons rfl (by rfl) (fun K hK => ?_) AllReadyH.nil)
                · refine wp_store_z (by rfl) (by rfl) t2 Fs.nil z4.fs (fun V u kp => ?_)
                  replace t1 := kp.two ne t1
                  replace z3 := kp.zc _ _ _ z3
                  replace z4 := kp.zc _ _ _ z4
                  replace HB := kp.bel _ _ HB b2
                  clear t2
                  have t2 := u
                  refine hK.out _ _ HB ?_
                  clear hK K kp u
                  simp only [Act.put, List.setIfInBounds_toArray, List.set_cons_zero, List.set_cons_succ]
                  refine ready_take (i := 13) (v := ?_) rfl (by kernel_rfl) (by kernel_rfl) (by kernel_rfl) (by rfl) ?_ HB ?_; rotate_left; (focus (intro w' _; go_simp; try with_reducible rfl)); simp only [Act.put, List.setIfInBounds_toArray, List.set_cons_zero, List.set_cons_succ]
                  exact wpAnyH_done (by kernel_rfl) ⟨rfl, g1, g2, _, _, _, _, _, _, _, _, _, _, _, _, _, _, by rfl, t1, z3, t2, z4, ⟨b1, b2⟩, HB⟩ _
          · refine wp_alloc_two (fun g1 V t1 bb hg => ?_)
            have b1 := Nat.le_trans HB.size hg
            replace HB := HB.trans (bb.mono HB.size)
            have ne : g1 ≠ g2 := Nat.ne_of_gt (Nat.lt_of_lt_of_le t2.lt hg)
            replace t2 := t2.to bb
            replace z1 := z1.to bb
            replace z2 := z2.to bb
            refine hK.out _ _ HB ?_
            clear hK K bb hg
            simp only [Act.put, List.setIfInBounds_toArray, List.set_cons_zero, List.set_cons_succ]
            refine wpAnyH_ready (rs := [4]) (by kernel_rfl) (by simp) (ready_cons rfl (by rfl) (fun K hK => ?_) AllReadyH.nil)
            · go_simp
              refine (rd_v (z1.zs sN.out) (z2.zs sD.out) pD0.out eF.out).mono ?_
              rintro e V ⟨x3, y3, x4, y4, rfl, z3, z4, bb⟩
              replace HB := HB.trans (bb.mono HB.size)
              replace t1 := t1.to bb
              replace t2 := t2.to bb
              refine hK.out _ _ HB ?_
              clear hK K bb
              refine ready_take (i := 5) (v := ?_) rfl (by kernel_rfl) (by kernel_rfl) (by kernel_rfl) (by rfl) ?_ HB ?_; rotate_left; (focus (intro w' _; go_simp; try with_reducible rfl)); simp only [Act.put, List.setIfInBounds_toArray, List.set_cons_zero, List.set_cons_succ]
              refine ready_take (i := 6) (v := ?_) rfl (by kernel_rfl) (by kernel_rfl) (by kernel_rfl) (by rfl) ?_ HB ?_; rotate_left; (focus (intro w' _; go_simp; try with_reducible rfl)); simp only [Act.put, List.setIfInBounds_toArray, List.set_cons_zero, List.set_cons_succ]
              refine ready_take (i := 7) (v := ?_) rfl (by kernel_rfl) (by kernel_rfl) (by kernel_rfl) (by rfl) ?_ HB ?_; rotate_left; (focus (intro w' _; go_simp; try with_reducible rfl)); simp only [Act.put, List.setIfInBounds_toArray, List.set_cons_zero, List.set_cons_succ]
              refine ready_take (i := 8) (v := ?_) rfl (by kernel_rfl) (by kernel_rfl) (by kernel_rfl) (by rfl) ?_ HB ?_; rotate_left; (focus (intro w' _; go_simp; try with_reducible rfl)); simp only [Act.put, List.setIfInBounds_toArray, List.set_cons_zero, List.set_cons_succ]
              refine wpAnyH_ready (rs := [11]) (by kernel_rfl) (by simp) (ready_cons rfl (by rfl) (fun K hK => ?_) AllReadyH.nil)
              · refine wp_store_z (by rfl) (by rfl) t1 Fs.nil z3.fs (fun V u kp => ?_)
                replace t2 := kp.two (Ne.symm ne) t2
                replace z3 := kp.zc _ _ _ z3
                replace z4 := kp.zc _ _ _ z4
                replace HB := kp.bel _ _ HB b1
                clear t1
                have t1 := u
                refine hK.out _ _ HB ?_
                clear hK K kp u
                simp only [Act.put, List.setIfInBounds_toArray, List.set_cons_zero, List.set_cons_succ]
                refine wpAnyH_ready (rs := [12]) (by kernel_rfl) (by simp) (ready_cons rfl (by rfl) (fun K hK => ?_) AllReadyH.nil)
                · refine wp_store_z (by rfl) (by rfl) t2 Fs.nil z4.fs (fun V u kp => ?_)
                  replace t1 := kp.two ne t1
                  replace z3 := kp.zc _ _ _ z3
                  replace z4 := kp.zc _ _ _ z4
                  replace HB := kp.bel _ _ HB b2
                  clear t2
                  have t2 := u
                  refine hK.out _ _ HB ?_
                  clear hK K kp u
                  simp only [Act.put, List.setIfInBounds_toArray, List.set_cons_zero, List.set_cons_succ]
                  refine ready_take (i := 13) (v := ?_) rfl (by kernel_rfl) (by kernel_rfl) (by kernel_rfl) (by rfl) ?_ HB ?_; rotate_left; (focus (intro w' _; go_simp; try with_reducible rfl)); simp only [Act.put, List.setIfInBounds_toArray, List.set_cons_zero, List.set_cons_succ]
                  exact wpAnyH_done (by kernel_rfl) ⟨rfl, g1, g2, _, _, _, _, _, _, _, _, _, _, _, _, _, _, by rfl, t1, z3, t2, z4, ⟨b1, b2⟩, HB⟩ _
      · refine wp_alloc_two (fun g1 V t1 bb hg => ?_)
        have b1 := Nat.le_trans HB.size hg
        replace HB := HB.trans (bb.mono HB.size)
        replace z1 := z1.to bb
        refine hK.out _ _ HB ?_
        clear hK K bb hg
        simp only [Act.put, List.setIfInBounds_toArray, List.set_cons_zero, List.set_cons_succ]
        refine wpAnyH_ready (rs := [3, 10]) (by kernel_rfl) (by simp) (ready_cons rfl (by rfl) (fun K hK => ?_) (ready_cons rfl (by rfl) (fun K hK => ?_) AllReadyH.nil))
        · go_simp
          refine (rden_z (h2.to HB)).mono ?_
          rintro e V ⟨x2, y2, rfl, z2, bb⟩
          replace HB := HB.trans (bb.mono HB.size)
          replace t1 := t1.to bb
          replace z1 := z1.to bb
          refine hK.out _ _ HB ?_
          clear hK K bb
          refine wpAnyH_ready (rs := [4, 10]) (by kernel_rfl) (by simp) (ready_cons rfl (by rfl) (fun K hK => ?_) (ready_cons rfl (by rfl) (fun K hK => ?_) AllReadyH.nil))
          · go_simp
            refine (rd_v (z1.zs sN.out) (z2.zs sD.out) pD0.out eF.out).mono ?_
            rintro e V ⟨x3, y3, x4, y4, rfl, z3, z4, bb⟩
            replace HB := HB.trans (bb.mono HB.size)
            replace t1 := t1.to bb
            refine hK.out _ _ HB ?_
            clear hK K bb
            refine ready_take (i := 5) (v := ?_) rfl (by kernel_rfl) (by kernel_rfl) (by kernel_rfl) (by rfl) ?_ HB ?_; rotate_left; (focus (intro w' _; go_simp; try with_reducible rfl)); simp only [Act.put, List.setIfInBounds_toArray, List.set_cons_zero, List.set_cons_succ]
            refine ready_take (i := 6) (v := ?_) rfl (by kernel_rfl) (by kernel_rfl) (by kernel_rfl) (by rfl) ?_ HB ?_; rotate_left; (focus (intro w' _; go_simp; try with_reducible rfl)); simp only [Act.put, List.setIfInBounds_toArray, List.set_cons_zero, List.set_cons_succ]
            refine ready_take (i := 7) (v := ?_) rfl (by kernel_rfl) (by kernel_rfl) (by kernel_rfl) (by rfl) ?_ HB ?_; rotate_left; (focus (intro w' _; go_simp; try with_reducible rfl)); simp only [Act.put, List.setIfInBounds_toArray, List.set_cons_zero, List.set_cons_succ]
            refine ready_take (i := 8) (v := ?_) rfl (by kernel_rfl) (by kernel_rfl) (by kernel_rfl) (by rfl) ?_ HB ?_; rotate_left; (focus (intro w' _; go_simp; try with_reducible rfl)); simp only [Act.put, List.setIfInBounds_toArray, List.set_cons_zero, List.set_cons_succ]
            refine wpAnyH_ready (rs := [10]) (by kernel_rfl) (by simp) (ready_cons rfl (by rfl) (fun K hK => ?_) AllReadyH.nil)
            · refine wp_alloc_two (fun g2 V t2 bb hg => ?_)
              have b2 := Nat.le_trans HB.size hg
              replace HB := HB.trans (bb.mono HB.size)
              have ne : g1 ≠ g2 := Nat.ne_of_lt (Nat.lt_of_lt_of_le t1.lt hg)
              replace t1 := t1.to bb
              replace z3 := z3.to bb
              replace z4 := z4.to bb
              refine hK.out _ _ HB ?_
              clear hK K bb hg
              simp only [Act.put, List.setIfInBounds_toArray, List.set_cons_zero, List.set_cons_succ]
              refine wpAnyH_ready (rs := [11]) (by kernel_rfl) (by simp) (ready_cons rfl (by rfl) (fun K hK => ?_) AllReadyH.nil)
              · refine wp_store_z (by rfl) (by rfl) t1 Fs.nil z3.fs (fun V u kp => ?_)
                replace t2 := kp.two (Ne.symm ne) t2
                replace z3 := kp.zc _ _ _ z3
                replace z4 := kp.zc _ _ _ z4
                replace HB := kp.bel _ _ HB b1
                clear t1
                have t1 := u
                refine hK.out _ _ HB ?_
                clear hK K kp u
                simp only [Act.put, List.setIfInBounds_toArray, List.set_cons_zero, List.set_cons_succ]
                refine wpAnyH_ready (rs := [12]) (by kernel_rfl) (by simp) (ready_cons rfl (by rfl) (fun K hK => ?_) AllReadyH.nil)
                · refine wp_store_z (by rfl) (by rfl) t2 Fs.nil z4.fs (fun V u kp => ?_)
                  replace t1 := kp.two ne t1
                  replace z3 := kp.zc _ _ _ z3
                  replace z4 := kp.zc _ _ _ z4
                  replace HB := kp.bel _ _ HB b2
                  clear t2
                  have t2 := u
                  refine hK.out _ _ HB ?_
                  clear hK K kp u
                  simp only [Act.put, List.setIfInBounds_toArray, List.set_cons_zero, List.set_cons_succ]
                  refine ready_take (i := 13) (v := ?_) rfl (by kernel_rfl) (by kernel_rfl) (by kernel_rfl) (by rfl) ?_ HB ?_; rotate_left; (focus (intro w' _; go_simp; try with_reducible rfl)); simp only [Act.put, List.setIfInBounds_toArray, List.set_cons_zero, List.set_cons_succ]
                  exact wpAnyH_done (by kernel_rfl) ⟨rfl, g1, g2, _, _, _, _, _, _, _, _, _, _, _, _, _, _, by rfl, t1, z3, t2, z4, ⟨b1, b2⟩, HB⟩ _
          · refine wp_alloc_two (fun g2 V t2 bb hg => ?_)
            have b2 := Nat.le_trans HB.size hg
            replace HB := HB.trans (bb.mono HB.size)
            have ne : g1 ≠ g2 := Nat.ne_of_lt (Nat.lt_of_lt_of_le t1.lt hg)
            replace t1 := t1.to bb
            replace z1 := z1.to bb
            replace z2 := z2.to bb
            refine hK.out _ _ HB ?_
            clear hK K bb hg
            simp only [Act.put, List.setIfInBounds_toArray, List.set_cons_zero, List.set_cons_succ]
            refine wpAnyH_ready (rs := [4]) (by kernel_rfl) (by simp) (ready_cons rfl (by rfl) (fun K hK => ?_) AllReadyH.nil)
            · go_simp
              refine (rd_v (z1.zs sN.out) (z2.zs sD.out) pD0.out eF.out).mono ?_
              rintro e V ⟨x3, y3, x4, y4, rfl, z3, z4, bb⟩
              replace HB := HB.trans (bb.mono HB.size)
              replace t1 := t1.to bb
              replace t2 := t2.to bb
              refine hK.out _ _ HB ?_
              clear hK K bb
              refine ready_take (i := 5) (v := ?_) rfl (by kernel_rfl) (by kernel_rfl) (by kernel_rfl) (by rfl) ?_ HB ?_; rotate_left; (focus (intro w' _; go_simp; try with_reducible rfl)); simp only [Act.put, List.setIfInBounds_toArray, List.set_cons_zero, List.set_cons_succ]
              refine ready_take (i := 6) (v := ?_) rfl (by kernel_rfl) (by kernel_rfl) (by kernel_rfl) (by rfl) ?_ HB ?_; rotate_left; (focus (intro w' _; go_simp; try with_reducible rfl)); simp only [Act.put, List.setIfInBounds_toArray, List.set_cons_zero, List.set_cons_succ]
              refine ready_take (i := 7) (v := ?_) rfl (by kernel_rfl) (by kernel_rfl) (by kernel_rfl) (by rfl) ?_ HB ?_; rotate_left; (focus (intro w' _; go_simp; try with_reducible rfl)); simp only [Act.put, List.setIfInBounds_toArray, List.set_cons_zero, List.set_cons_succ]
              refine ready_take (i := 8) (v := ?_) rfl (by kernel_rfl) (by kernel_rfl) (by kernel_rfl) (by rfl) ?_ HB ?_; rotate_left; (focus (intro w' _; go_simp; try with_reducible rfl)); simp only [Act.put, List.setIfInBounds_toArray, List.set_cons_zero, List.set_cons_succ]
              refine wpAnyH_ready (rs := [11]) (by kernel_rfl) (by simp) (ready_cons rfl (by rfl) (fun K hK => ?_) AllReadyH.nil)
              · refine wp_store_z (by rfl) (by rfl) t1 Fs.nil z3.fs (fun V u kp => ?_)
                replace t2 := kp.two (Ne.symm ne) t2
                replace z3 := kp.zc _ _ _ z3
                replace z4 := kp.zc _ _ _ z4
                replace HB := kp.bel _ _ HB b1
                clear t1
                have t1 := u
                refine hK.out _ _ HB ?_
                clear hK K kp u
                simp only [Act.put, List.setIfInBounds_toArray, List.set_cons_zero, List.set_cons_succ]
                refine wpAnyH_ready (rs := [12]) (by kernel_rfl) (by simp) (ready_cons rfl (by rfl) (fun K hK => ?_) AllReadyH.nil)
                · refine wp_store_z (by rfl) (by rfl) t2 Fs.nil z4.fs (fun V u kp => ?_)
                  replace t1 := kp.two ne t1
                  replace z3 := kp.zc _ _ _ z3
                  replace z4 := kp.zc _ _ _ z4
                  replace HB := kp.bel _ _ HB b2
                  clear t2
                  have t2 := u
                  refine hK.out _ _ HB ?_
                  clear hK K kp u
                  simp only [Act.put, List.setIfInBounds_toArray, List.set_cons_zero, List.set_cons_succ]
                  refine ready_take (i := 13) (v := ?_) rfl (by kernel_rfl) (by kernel_rfl) (by kernel_rfl) (by rfl) ?_ HB ?_; rotate_left; (focus (intro w' _; go_simp; try with_reducible rfl)); simp only [Act.put, List.setIfInBounds_toArray, List.set_cons_zero, List.set_cons_succ]
                  exact wpAnyH_done (by kernel_rfl) ⟨rfl, g1, g2, _, _, _, _, _, _, _, _, _, _, _, _, _, _, by rfl, t1, z3, t2, z4, ⟨b1, b2⟩, HB⟩ _
        · refine wp_alloc_two (fun g2 V t2 bb hg => ?_)
          have b2 := Nat.le_trans HB.size hg
          replace HB := HB.trans (bb.mono HB.size)
          have ne : g1 ≠ g2 := Nat.ne_of_lt (Nat.lt_of_lt_of_le t1.lt hg)
          replace t1 := t1.to bb
          replace z1 := z1.to bb
          refine hK.out _ _ HB ?_
          clear hK K bb hg
          simp only [Act.put, List.setIfInBounds_toArray, List.set_cons_zero, List.set_cons_succ]
          refine wpAnyH_ready (rs := [3]) (by kernel_rfl) (by simp) (ready_cons rfl (by rfl) (fun K hK => ?_) AllReadyH.nil)
          · go_simp
            refine (rden_z (h2.to HB)).mono ?_
            rintro e V ⟨x2, y2, rfl, z2, bb⟩
            replace HB := HB.trans (bb.mono HB.size)
            replace t1 := t1.to bb
            replace t2 := t2.to bb
            replace z1 := z1.to bb
            refine hK.out _ _ HB ?_
            clear hK K bb
            refine wpAnyH_ready (rs := [4]) (by kernel_rfl) (by simp) (ready_cons rfl (by rfl) (fun K hK => ?_) AllReadyH.nil)
            · go_simp
              refine (rd_v (z1.zs sN.out) (z2.zs sD.out) pD0.out eF.out).mono ?_
              rintro e V ⟨x3, y3, x4, y4, rfl, z3, z4, bb⟩
              replace HB := HB.trans (bb.mono HB.size)
              replace t1 := t1.to bb
              replace t2 := t2.to bb
              refine hK.out _ _ HB ?_
              clear hK K bb
              refine ready_take (i := 5) (v := ?_) rfl (by kernel_rfl) (by kernel_rfl) (by kernel_rfl) (by rfl) ?_ HB ?_; rotate_left; (focus (intro w' _; go_simp; try with_reducible rfl)); simp only [Act.put, List.setIfInBounds_toArray, List.set_cons_zero, List.set_cons_succ]
              refine ready_take (i := 6) (v := ?_) rfl (by kernel_rfl) (by kernel_rfl) (by kernel_rfl) (by rfl) ?_ HB ?_; rotate_left; (focus (intro w' _; go_simp; try with_reducible rfl)); simp only [Act.put, List.setIfInBounds_toArray, List.set_cons_zero, List.set_cons_succ]
              refine ready_take (i := 7) (v := ?_) rfl (by kernel_rfl) (by kernel_rfl) (by kernel_rfl) (by rfl) ?_ HB ?_; rotate_left; (focus (intro w' _; go_simp; try with_reducible rfl)); simp only [Act.put, List.setIfInBounds_toArray, List.set_cons_zero, List.set_cons_succ]
              refine ready_take (i := 8) (v := ?_) rfl (by kernel_rfl) (by kernel_rfl) (by kernel_rfl) (by rfl) ?_ HB ?_; rotate_left; (focus (intro w' _; go_simp; try with_reducible rfl)); simp only [Act.put, List.setIfInBounds_toArray, List.set_cons_zero, List.set_cons_succ]
              refine wpAnyH_ready (rs := [11]) (by kernel_rfl) (by simp) (ready_cons rfl (by rfl) (fun K hK => ?_) AllReadyH.nil)
              · refine wp_store_z (by rfl) (by rfl) t1 Fs.nil z3.fs (fun V u kp => ?_)
                replace t2 := kp.two (Ne.symm ne) t2
                replace z3 := kp.zc _ _ _ z3
                replace z4 := kp.zc _ _ _ z4
                replace HB := kp.bel _ _ HB b1
                clear t1
                have t1 := u
                refine hK.out _ _ HB ?_
                clear hK K kp u
                simp only [Act.put, List.setIfInBounds_toArray, List.set_cons_zero, List.set_cons_succ]
                refine wpAnyH_ready (rs := [12]) (by kernel_rfl) (by simp) (ready_cons rfl (by rfl) (fun K hK => ?_) AllReadyH.nil)
                · refine wp_store_z (by rfl) (by rfl) t2 Fs.nil z4.fs (fun V u kp => ?_)
                  replace t1 := kp.two ne t1
                  replace z3 := kp.zc _ _ _ z3
                  replace z4 := kp.zc _ _ _ z4
                  replace HB := kp.bel _ _ HB b2
                  clear t2
                  have t2 := u
                  refine hK.out _ _ HB ?_
                  clear hK K kp u
                  simp only [Act.put, List.setIfInBounds_toArray, List.set_cons_zero, List.set_cons_succ]
                  refine ready_take (i := 13) (v := ?_) rfl (by kernel_rfl) (by kernel_rfl) (by kernel_rfl) (by rfl) ?_ HB ?_; rotate_left; (focus (intro w' _; go_simp; try with_reducible rfl)); simp only [Act.put, List.setIfInBounds_toArray, List.set_cons_zero, List.set_cons_succ]
                  exact wpAnyH_done (by kernel_rfl) ⟨rfl, g1, g2, _, _, _, _, _, _, _, _, _, _, _, _, _, _, by rfl, t1, z3, t2, z4, ⟨b1, b2⟩, HB⟩ _
      · refine wp_alloc_two (fun g2 V t2 bb hg => ?_)
        have b2 := Nat.le_trans HB.size hg
        replace HB := HB.trans (bb.mono HB.size)
        replace z1 := z1.to bb
        refine hK.out _ _ HB ?_
        clear hK K bb hg
        simp only [Act.put, List.setIfInBounds_toArray, List.set_cons_zero, List.set_cons_succ]
        refine wpAnyH_ready (rs := [3, 9]) (by kernel_rfl) (by simp) (ready_cons rfl (by rfl) (fun K hK => ?_) (ready_cons rfl (by rfl) (fun K hK => ?_) AllReadyH.nil))
        · go_simp
          refine (rden_z (h2.to HB)).mono ?_
          rintro e V ⟨x2, y2, rfl, z2, bb⟩
          replace HB := HB.trans (bb.mono HB.size)
          replace t2 := t2.to bb
          replace z1 := z1.to bb
          refine hK.out _ _ HB ?_
          clear hK K bb
          refine wpAnyH_ready (rs := [4, 9]) (by kernel_rfl) (by simp) (ready_cons rfl (by rfl) (fun K hK => ?_) (ready_cons rfl (by rfl) (fun K hK => ?_) AllReadyH.nil))
          · go_simp
            refine (rd_v (z1.zs sN.out) (z2.zs sD.out) pD0.out eF.out).mono ?_
            rintro e V ⟨x3, y3, x4, y4, rfl, z3, z4, bb⟩
            replace HB := HB.trans (bb.mono HB.size)
            replace t2 := t2.to bb
            refine hK.out _ _ HB ?_
            clear hK K bb
            refine ready_take (i := 5) (v := ?_) rfl (by kernel_rfl) (by kernel_rfl) (by kernel_rfl) (by rfl) ?_ HB ?_; rotate_left; (focus (intro w' _; go_simp; try with_reducible rfl)); simp only [Act.put, List.setIfInBounds_toArray, List.set_cons_zero, List.set_cons_succ]
            refine ready_take (i := 6) (v := ?_) rfl (by kernel_rfl) (by kernel_rfl) (by kernel_rfl) (by rfl) ?_ HB ?_; rotate_left; (focus (intro w' _; go_simp; try with_reducible rfl)); simp only [Act.put, List.setIfInBounds_toArray, List.set_cons_zero, List.set_cons_succ]
            refine ready_take (i := 7) (v := ?_) rfl (by kernel_rfl) (by kernel_rfl) (by kernel_rfl) (by rfl) ?_ HB ?_; rotate_left; (focus (intro w' _; go_simp; try with_reducible rfl)); simp only [Act.put, List.setIfInBounds_toArray, List.set_cons_zero, List.set_cons_succ]
            refine ready_take (i := 8) (v := ?_) rfl (by kernel_rfl) (by kernel_rfl) (by kernel_rfl) (by rfl) ?_ HB ?_; rotate_left; (focus (intro w' _; go_simp; try with_reducible rfl)); simp only [Act.put, List.setIfInBounds_toArray, List.set_cons_zero, List.set_cons_succ]
            refine wpAnyH_ready (rs := [9]) (by kernel_rfl) (by simp) (ready_cons rfl (by rfl) (fun K hK => ?_) AllReadyH.nil)
            · refine wp_alloc_two (fun g1 V t1 bb hg => ?_)
              have b1 := Nat.le_trans HB.size hg
              replace HB := HB.trans (bb.mono HB.size)
              have ne : g1 ≠ g2 := Nat.ne_of_gt (Nat.lt_of_lt_of_le t2.lt hg)
              replace t2 := t2.to bb
              replace z3 := z3.to bb
              replace z4 := z4.to bb
              refine hK.out _ _ HB ?_
              clear hK K bb hg
              simp only [Act.put, List.setIfInBounds_toArray, List.set_cons_zero, List.set_cons_succ]
              refine wpAnyH_ready (rs := [11]) (by kernel_rfl) (by simp) (ready_cons rfl (by rfl) (fun K hK => ?_) AllReadyH.nil)
              · refine wp_store_z (by rfl) (by rfl) t1 Fs.nil z3.fs (fun V u kp => ?_)
                replace t2 := kp.two (Ne.symm ne) t2
                replace z3 := kp.zc _ _ _ z3
                replace z4 := kp.zc _ _ _ z4
                replace HB := kp.bel _ _ HB b1
                clear t1
                have t1 := u
                refine hK.out _ _ HB ?_
                clear hK K kp u
                simp only [Act.put, List.setIfInBounds_toArray, List.set_cons_zero, List.set_cons_succ]
                refine wpAnyH_ready (rs := [12]) (by kernel_rfl) (by simp) (ready_cons rfl (by rfl) (fun K hK => ?_) AllReadyH.nil)
                · refine wp_store_z (by rfl) (by rfl) t2 Fs.nil z4.fs (fun V u kp => ?_)
                  replace t1 := kp.two ne t1
                  replace z3 := kp.zc _ _ _ z3
                  replace z4 := kp.zc _ _ _ z4
                  replace HB := kp.bel _ _ HB b2
                  clear t2
                  have t2 := u
                  refine hK.out _ _ HB ?_
                  clear hK K kp u
                  simp only [Act.put, List.setIfInBounds_toArray, List.set_cons_zero, List.set_cons_succ]
                  refine ready_take (i := 13) (v := ?_) rfl (by kernel_rfl) (by kernel_rfl) (by kernel_rfl) (by rfl) ?_ HB ?_; rotate_left; (focus (intro w' _; go_simp; try with_reducible rfl)); simp only [Act.put, List.setIfInBounds_toArray, List.set_cons_zero, List.set_cons_succ]
                  exact wpAnyH_done (by kernel_rfl) ⟨rfl, g1, g2, _, _, _, _, _, _, _, _, _, _, _, _, _, _, by rfl, t1, z3, t2, z4, ⟨b1, b2⟩, HB⟩ _
          · refine wp_alloc_two (fun g1 V t1 bb hg => ?_)
            have b1 := Nat.le_trans HB.size hg
            replace HB := HB.trans (bb.mono HB.size)
            have ne : g1 ≠ g2 := Nat.ne_of_gt (Nat.lt_of_lt_of_le t2.lt hg)
            replace t2 := t2.to bb
            replace z1 := z1.to bb
            replace z2 := z2.to bb
            refine hK.out _ _ HB ?_
            clear hK K bb hg
            simp only [Act.put, List.setIfInBounds_toArray, List.set_cons_zero, List.set_cons_succ]
            refine wpAnyH_ready (rs := [4]) (by kernel_rfl) (by simp) (ready_cons rfl (by rfl) (fun K hK => ?_) AllReadyH.nil)
            · go_simp
              refine (rd_v (z1.zs sN.out) (z2.zs sD.out) pD0.out eF.out).mono ?_
              rintro e V ⟨x3, y3, x4, y4, rfl, z3, z4, bb⟩
              replace HB := HB.trans (bb.mono HB.size)
              replace t1 := t1.to bb
              replace t2 := t2.to bb
              refine hK.out _ _ HB ?_
              clear hK K bb
              refine ready_take (i := 5) (v := ?_) rfl (by kernel_rfl) (by kernel_rfl) (by kernel_rfl) (by rfl) ?_ HB ?_; rotate_left; (focus (intro w' _; go_simp; try with_reducible rfl)); simp only [Act.put, List.setIfInBounds_toArray, List.set_cons_zero, List.set_cons_succ]
              refine ready_take (i := 6) (v := ?_) rfl (by kernel_rfl) (by kernel_rfl) (by kernel_rfl) (by rfl) ?_ HB ?_; rotate_left; (focus (intro w' _; go_simp; try with_reducible rfl)); simp only [Act.put, List.setIfInBounds_toArray, List.set_cons_zero, List.set_cons_succ]
              refine ready_take (i := 7) (v := ?_) rfl (by kernel_rfl) (by kernel_rfl) (by kernel_rfl) (by rfl) ?_ HB ?_; rotate_left; (focus (intro w' _; go_simp; try with_reducible rfl)); simp only [Act.put, List.setIfInBounds_toArray, List.set_cons_zero, List.set_cons_succ]
              refine ready_take (i := 8) (v := ?_) rfl (by kernel_rfl) (by kernel_rfl) (by kernel_rfl) (by rfl) ?_ HB ?_; rotate_left; (focus (intro w' _; go_simp; try with_reducible rfl)); simp only [Act.put, List.setIfInBounds_toArray, List.set_cons_zero, List.set_cons_succ]
              refine wpAnyH_ready (rs := [11]) (by kernel_rfl) (by simp) (ready_cons rfl (by rfl) (fun K hK => ?_) AllReadyH.nil)
              · refine wp_store_z (by rfl) (by rfl) t1 Fs.nil z3.fs (fun V u kp => ?_)
                replace t2 := kp.two (Ne.symm ne) t2
                replace z3 := kp.zc _ _ _ z3
                replace z4 := kp.zc _ _ _ z4
                replace HB := kp.bel _ _ HB b1
                clear t1
                have t1 := u
                refine hK.out _ _ HB ?_
                clear hK K kp u
                simp only [Act.put, List.setIfInBounds_toArray, List.set_cons_zero, List.set_cons_succ]
                refine wpAnyH_ready (rs := [12]) (by kernel_rfl) (by simp) (ready_cons rfl (by rfl) (fun K hK => ?_) AllReadyH.nil)
                · refine wp_store_z (by rfl) (by rfl) t2 Fs.nil z4.fs (fun V u kp => ?_)
                  replace t1 := kp.two ne t1
                  replace z3 := kp.zc _ _ _ z3
                  replace z4 := kp.zc _ _ _ z4
                  replace HB := kp.bel _ _ HB b2
                  clear t2
                  have t2 := u
                  refine hK.out _ _ HB ?_
                  clear hK K kp u
                  simp only [Act.put, List.setIfInBounds_toArray, List.set_cons_zero, List.set_cons_succ]
                  refine ready_take (i := 13) (v := ?_) rfl (by kernel_rfl) (by kernel_rfl) (by kernel_rfl) (by rfl) ?_ HB ?_; rotate_left; (focus (intro w' _; go_simp; try with_reducible rfl)); simp only [Act.put, List.setIfInBounds_toArray, List.set_cons_zero, List.set_cons_succ]
                  exact wpAnyH_done (by kernel_rfl) ⟨rfl, g1, g2, _, _, _, _, _, _, _, _, _, _, _, _, _, _, by rfl, t1, z3, t2, z4, ⟨b1, b2⟩, HB⟩ _
        · refine wp_alloc_two (fun g1 V t1 bb hg => ?_)
          have b1 := Nat.le_trans HB.size hg
          replace HB := HB.trans (bb.mono HB.size)
          have ne : g1 ≠ g2 := Nat.ne_of_gt (Nat.lt_of_lt_of_le t2.lt hg)
          replace t2 := t2.to bb
          replace z1 := z1.to bb
          refine hK.out _ _ HB ?_
          clear hK K bb hg
          simp only [Act.put, List.setIfInBounds_toArray, List.set_cons_zero, List.set_cons_succ]
          refine wpAnyH_ready (rs := [3]) (by kernel_rfl) (by simp) (ready_cons rfl (by rfl) (fun K hK => ?_) AllReadyH.nil)
          · go_simp
            refine (rden_z (h2.to HB)).mono ?_
            rintro e V ⟨x2, y2, rfl, z2, bb⟩
            replace HB := HB.trans (bb.mono HB.size)
            replace t1 := t1.to bb
            replace t2 := t2.to bb
            replace z1 := z1.to bb
            refine hK.out _ _ HB ?_
            clear hK K bb
            refine wpAnyH_ready (rs := [4]) (by kernel_rfl) (by simp) (ready_cons rfl (by rfl) (fun K hK => ?_) AllReadyH.nil)
            · go_simp
              refine (rd_v (z1.zs sN.out) (z2.zs sD.out) pD0.out eF.out).mono ?_
              rintro e V ⟨x3, y3, x4, y4, rfl, z3, z4, bb⟩
              replace HB := HB.trans (bb.mono HB.size)
              replace t1 := t1.to bb
              replace t2 := t2.to bb
              refine hK.out _ _ HB ?_
              clear hK K bb
              refine ready_take (i := 5) (v := ?_) rfl (by kernel_rfl) (by kernel_rfl) (by kernel_rfl) (by rfl) ?_ HB ?_; rotate_left; (focus (intro w' _; go_simp; try with_reducible rfl)); simp only [Act.put, List.setIfInBounds_toArray, List.set_cons_zero, List.set_cons_succ]
              refine ready_take (i := 6) (v := ?_) rfl (by kernel_rfl) (by kernel_rfl) (by kernel_rfl) (by rfl) ?_ HB ?_; rotate_left; (focus (intro w' _; go_simp; try with_reducible rfl)); simp only [Act.put, List.setIfInBounds_toArray, List.set_cons_zero, List.set_cons_succ]
              refine ready_take (i := 7) (v := ?_) rfl (by kernel_rfl) (by kernel_rfl) (by kernel_rfl) (by rfl) ?_ HB ?_; rotate_left; (focus (intro w' _; go_simp; try with_reducible rfl)); simp only [Act.put, List.setIfInBounds_toArray, List.set_cons_zero, List.set_cons_succ]
              refine ready_take (i := 8) (v := ?_) rfl (by kernel_rfl) (by kernel_rfl) (by kernel_rfl) (by rfl) ?_ HB ?_; rotate_left; (focus (intro w' _; go_simp; try with_reducible rfl)); simp only [Act.put, List.setIfInBounds_toArray, List.set_cons_zero, List.set_cons_succ]
              refine wpAnyH_ready (rs := [11]) (by kernel_rfl) (by simp) (ready_cons rfl (by rfl) (fun K hK => ?_) AllReadyH.nil)
              · refine wp_store_z (by rfl) (by rfl) t1 Fs.nil z3.fs (fun V u kp => ?_)
                replace t2 := kp.two (Ne.symm ne) t2
                replace z3 := kp.zc _ _ _ z3
                replace z4 := kp.zc _ _ _ z4
                replace HB := kp.bel _ _ HB b1
                clear t1
                have t1 := u
                refine hK.out _ _ HB ?_
                clear hK K kp u
                simp only [Act.put, List.setIfInBounds_toArray, List.set_cons_zero, List.set_cons_succ]
                refine wpAnyH_ready (rs := [12]) (by kernel_rfl) (by simp) (ready_cons rfl (by rfl) (fun K hK => ?_) AllReadyH.nil)
                · refine wp_store_z (by rfl) (by rfl) t2 Fs.nil z4.fs (fun V u kp => ?_)
                  replace t1 := kp.two ne t1
                  replace z3 := kp.zc _ _ _ z3
                  replace z4 := kp.zc _ _ _ z4
                  replace HB := kp.bel _ _ HB b2
                  clear t2
                  have t2 := u
                  refine hK.out _ _ HB ?_
                  clear hK K kp u
                  simp only [Act.put, List.setIfInBounds_toArray, List.set_cons_zero, List.set_cons_succ]
                  refine ready_take (i := 13) (v := ?_) rfl (by kernel_rfl) (by kernel_rfl) (by kernel_rfl) (by rfl) ?_ HB ?_; rotate_left; (focus (intro w' _; go_simp; try with_reducible rfl)); simp only [Act.put, List.setIfInBounds_toArray, List.set_cons_zero, List.set_cons_succ]
                  exact wpAnyH_done (by kernel_rfl) ⟨rfl, g1, g2, _, _, _, _, _, _, _, _, _, _, _, _, _, _, by rfl, t1, z3, t2, z4, ⟨b1, b2⟩, HB⟩ _
    · refine wp_alloc_two (fun g1 V t1 bb hg => ?_)
      have b1 := Nat.le_trans HB.size hg
      replace HB := HB.trans (bb.mono HB.size)
      refine hK.out _ _ HB ?_
      clear hK K bb hg
      simp only [Act.put, List.setIfInBounds_toArray, List.set_cons_zero, List.set_cons_succ]
      refine wpAnyH_ready (rs := [1, 10]) (by kernel_rfl) (by simp) (ready_cons rfl (by rfl) (fun K hK => ?_) (ready_cons rfl (by rfl) (fun K hK => ?_) AllReadyH.nil))
      · go_simp
        refine (rnum_z (h1.to HB) (h2.to HB)).mono ?_
        rintro e V ⟨x1, y1, rfl, z1, bb⟩
        replace HB := HB.trans (bb.mono HB.size)
        replace t1 := t1.to bb
        refine hK.out _ _ HB ?_
        clear hK K bb
        refine wpAnyH_ready (rs := [3, 10]) (by kernel_rfl) (by simp) (ready_cons rfl (by rfl) (fun K hK => ?_) (ready_cons rfl (by rfl) (fun K hK => ?_) AllReadyH.nil))
        · go_simp
          refine (rden_z (h2.to HB)).mono ?_
          rintro e V ⟨x2, y2, rfl, z2, bb⟩
          replace HB := HB.trans (bb.mono HB.size)
          replace t1 := t1.to bb
          replace z1 := z1.to bb
          refine hK.out _ _ HB ?_
          clear hK K bb
          refine wpAnyH_ready (rs := [4, 10]) (by kernel_rfl) (by simp) (ready_cons rfl (by rfl) (fun K hK => ?_) (ready_cons rfl (by rfl) (fun K hK => ?_) AllReadyH.nil))
          · go_simp
            refine (rd_v (z1.zs sN.out) (z2.zs sD.out) pD0.out eF.out).mono ?_
            rintro e V ⟨x3, y3, x4, y4, rfl, z3, z4, bb⟩
            replace HB := HB.trans (bb.mono HB.size)
            replace t1 := t1.to bb
            refine hK.out _ _ HB ?_
            clear hK K bb
            refine ready_take (i := 5) (v := ?_) rfl (by kernel_rfl) (by kernel_rfl) (by kernel_rfl) (by rfl) ?_ HB ?_; rotate_left; (focus (intro w' _; go_simp; try with_reducible rfl)); simp only [Act.put, List.setIfInBounds_toArray, List.set_cons_zero, List.set_cons_succ]
            refine ready_take (i := 6) (v := ?_) rfl (by kernel_rfl) (by kernel_rfl) (by kernel_rfl) (by rfl) ?_ HB ?_; rotate_left; (focus (intro w' _; go_simp; try with_reducible rfl)); simp only [Act.put, List.setIfInBounds_toArray, List.set_cons_zero, List.set_cons_succ]
            refine ready_take (i := 7) (v := ?_) rfl (by kernel_rfl) (by kernel_rfl) (by kernel_rfl) (by rfl) ?_ HB ?_; rotate_left; (focus (intro w' _; go_simp; try with_reducible rfl)); simp only [Act.put, List.setIfInBounds_toArray, List.set_cons_zero, List.set_cons_succ]
            refine ready_take (i := 8) (v := ?_) rfl (by kernel_rfl) (by kernel_rfl) (by kernel_rfl) (by rfl) ?_ HB ?_; rotate_left; (focus (intro w' _; go_simp; try with_reducible rfl)); simp only [Act.put, List.setIfInBounds_toArray, List.set_cons_zero, List.set_cons_succ]
            refine wpAnyH_ready (rs := [10]) (by kernel_rfl) (by simp) (ready_cons rfl (by rfl) (fun K hK => ?_) AllReadyH.nil)
            · refine wp_alloc_two (fun g2 V t2 bb hg => ?_)
              have b2 := Nat.le_trans HB.size hg
              replace HB := HB.trans (bb.mono HB.size)
              have ne : g1 ≠ g2 := Nat.ne_of_lt (Nat.lt_of_lt_of_le t1.lt hg)
              replace t1 := t1.to bb
              replace z3 := z3.to bb
              replace z4 := z4.to bb
              refine hK.out _ _ HB ?_
              clear hK K bb hg
              simp only [Act.put, List.setIfInBounds_toArray, List.set_cons_zero, List.set_cons_succ]
              refine wpAnyH_ready (rs := [11]) (by kernel_rfl) (by simp) (ready_cons rfl (by rfl) (fun K hK => ?_) AllReadyH.nil)
              · refine wp_store_z (by rfl) (by rfl) t1 Fs.nil z3.fs (fun V u kp => ?_)
                replace t2 := kp.two (Ne.symm ne) t2
                replace z3 := kp.zc _ _ _ z3
                replace z4 := kp.zc _ _ _ z4
                replace HB := kp.bel _ _ HB b1
                clear t1
                have t1 := u
                refine hK.out _ _ HB ?_
                clear hK K kp u
                simp only [Act.put, List.setIfInBounds_toArray, List.set_cons_zero, List.set_cons_succ]
                refine wpAnyH_ready (rs := [12]) (by kernel_rfl) (by simp) (ready_cons rfl (by rfl) (fun K hK => ?_) AllReadyH.nil)
                · refine wp_store_z (by rfl) (by rfl) t2 Fs.nil z4.fs (fun V u kp => ?_)
                  replace t1 := kp.two ne t1
                  replace z3 := kp.zc _ _ _ z3
                  replace z4 := kp.zc _ _ _ z4
                  replace HB := kp.bel _ _ HB b2
                  clear t2
                  have t2 := u
                  refine hK.out _ _ HB ?_
                  clear hK K kp u
                  simp only [Act.put, List.setIfInBounds_toArray, List.set_cons_zero, List.set_cons_succ]
                  refine ready_take (i := 13) (v := ?_) rfl (by kernel_rfl) (by kernel_rfl) (by kernel_rfl) (by rfl) ?_ HB ?_; rotate_left; (focus (intro w' _; go_simp; try with_reducible rfl)); simp only [Act.put, List.setIfInBounds_toArray, List.set_cons_zero, List.set_cons_succ]
                  exact wpAnyH_done (by kernel_rfl) ⟨rfl, g1, g2, _, _, _, _, _, _, _, _, _, _, _, _, _, _, by rfl, t1, z3, t2, z4, ⟨b1, b2⟩, HB⟩ _
          · refine wp_alloc_two (fun g2 V t2 bb hg => ?_)
            have b2 := Nat.le_trans HB.size hg
            replace HB := HB.trans (bb.mono HB.size)
            have ne : g1 ≠ g2 := Nat.ne_of_lt (Nat.lt_of_lt_of_le t1.lt hg)
            replace t1 := t1.to bb
            replace z1 := z1.to bb
            replace z2 := z2.to bb
            refine hK.out _ _ HB ?_
            clear hK K bb hg
            simp only [Act.put, List.setIfInBounds_toArray, List.set_cons_zero, List.set_cons_succ]
            refine wpAnyH_ready (rs := [4]) (by kernel_rfl) (by simp) (ready_cons rfl (by rfl) (fun K hK => ?_) AllReadyH.nil)
            · go_simp
              refine (rd_v (z1.zs sN.out) (z2.zs sD.out) pD0.out eF.out).mono ?_
              rintro e V ⟨x3, y3, x4, y4, rfl, z3, z4, bb⟩
              replace HB := HB.trans (bb.mono HB.size)
              replace t1 := t1.to bb
              replace t2 := t2.to bb
              refine hK.out _ _ HB ?_
              clear hK K bb
              refine ready_take (i := 5) (v := ?_) rfl (by kernel_rfl) (by kernel_rfl) (by kernel_rfl) (by rfl) ?_ HB ?_; rotate_left; (focus (intro w' _; go_simp; try with_reducible rfl)); simp only [Act.put, List.setIfInBounds_toArray, List.set_cons_zero, List.set_cons_succ]
              refine ready_take (i := 6) (v := ?_) rfl (by kernel_rfl) (by kernel_rfl) (by kernel_rfl) (by rfl) ?_ HB ?_; rotate_left; (focus (intro w' _; go_simp; try with_reducible rfl)); simp only [Act.put, List.setIfInBounds_toArray, List.set_cons_zero, List.set_cons_succ]
              refine ready_take (i := 7) (v := ?_) rfl (by kernel_rfl) (by kernel_rfl) (by kernel_rfl) (by rfl) ?_ HB ?_; rotate_left; (focus (intro w' _; go_simp; try with_reducible rfl)); simp only [Act.put, List.setIfInBounds_toArray, List.set_cons_zero, List.set_cons_succ]
              refine ready_take (i := 8) (v := ?_) rfl (by kernel_rfl) (by kernel_rfl) (by kernel_rfl) (by rfl) ?_ HB ?_; rotate_left; (focus (intro w' _; go_simp; try with_reducible rfl)); simp only [Act.put, List.setIfInBounds_toArray, List.set_cons_zero, List.set_cons_succ]
              refine wpAnyH_ready (rs := [11]) (by kernel_rfl) (by simp) (ready_cons rfl (by rfl) (fun K hK => ?_) AllReadyH.nil)
              · refine wp_store_z (by rfl) (by rfl) t1 Fs.nil z3.fs (fun V u kp => ?_)
                replace t2 := kp.two (Ne.symm ne) t2
                replace z3 := kp.zc _ _ _ z3
                replace z4 := kp.zc _ _ _ z4
                replace HB := kp.bel _ _ HB b1
                clear t1
                have t1 := u
                refine hK.out _ _ HB ?_
                clear hK K kp u
                simp only [Act.put, List.setIfInBounds_toArray, List.set_cons_zero, List.set_cons_succ]
                refine wpAnyH_ready (rs := [12]) (by kernel_rfl) (by simp) (ready_cons rfl (by rfl) (fun K hK => ?_) AllReadyH.nil)
                · refine wp_store_z (by rfl) (by rfl) t2 Fs.nil z4.fs (fun V u kp => ?_)
                  replace t1 := kp.two ne t1
                  replace z3 := kp.zc _ _ _ z3
                  replace z4 := kp.zc _ _ _ z4
                  replace HB := kp.bel _ _ HB b2
                  clear t2
                  have t2 := u
                  refine hK.out _ _ HB ?_
                  clear hK K kp u
                  simp only [Act.put, List.setIfInBounds_toArray, List.set_cons_zero, List.set_cons_succ]
                  refine ready_take (i := 13) (v := ?_) rfl (by kernel_rfl) (by kernel_rfl) (by kernel_rfl) (by rfl) ?_ HB ?_; rotate_left; (focus (intro w' _; go_simp; try with_reducible rfl)); simp only [Act.put, List.setIfInBounds_toArray, List.set_cons_zero, List.set_cons_succ]
                  exact wpAnyH_done (by kernel_rfl) ⟨rfl, g1, g2, _, _, _, _, _, _, _, _, _, _, _, _, _, _, by rfl, t1, z3, t2, z4, ⟨b1, b2⟩, HB⟩ _
        · refine wp_alloc_two (fun g2 V t2 bb hg => ?_)
          have b2 := Nat.le_trans HB.size hg
          replace HB := HB.trans (bb.mono HB.size)
          have ne : g1 ≠ g2 := Nat.ne_of_lt (Nat.lt_of_lt_of_le t1.lt hg)
          replace t1 := t1.to bb
          replace z1 := z1.to bb
          refine hK.out _ _ HB ?_
          clear hK K bb hg
          simp only [Act.put, List.setIfInBounds_toArray, List.set_cons_zero, List.set_cons_succ]
          refine wpAnyH_ready (rs := [3]) (by kernel_rfl) (by simp) (ready_cons rfl (by rfl) (fun K hK => ?_) AllReadyH.nil)
          · go_simp
            refine (rden_z (h2.to HB)).mono ?_
            rintro e V ⟨x2, y2, rfl, z2, bb⟩
            replace HB := HB.trans (bb.mono HB.size)
            replace t1 := t1.to bb
            replace t2 := t2.to bb
            replace z1 := z1.to bb
            refine hK.out _ _ HB ?_
            clear hK K bb
            refine wpAnyH_ready (rs := [4]) (by kernel_rfl) (by simp) (ready_cons rfl (by rfl) (fun K hK => ?_) AllReadyH.nil)
            · go_simp
              refine (rd_v (z1.zs sN.out) (z2.zs sD.out) pD0.out eF.out).mono ?_
              rintro e V ⟨x3, y3, x4, y4, rfl, z3, z4, bb⟩
              replace HB := HB.trans (bb.mono HB.size)
              replace t1 := t1.to bb
              replace t2 := t2.to bb
              refine hK.out _ _ HB ?_
              clear hK K bb
              refine ready_take (i := 5) (v := ?_) rfl (by kernel_rfl) (by kernel_rfl) (by kernel_rfl) (by rfl) ?_ HB ?_; rotate_left; (focus (intro w' _; go_simp; try with_reducible rfl)); simp only [Act.put, List.setIfInBounds_toArray, List.set_cons_zero, List.set_cons_succ]
              refine ready_take (i := 6) (v := ?_) rfl (by kernel_rfl) (by kernel_rfl) (by kernel_rfl) (by rfl) ?_ HB ?_; rotate_left; (focus (intro w' _; go_simp; try with_reducible rfl)); simp only [Act.put, List.setIfInBounds_toArray, List.set_cons_zero, List.set_cons_succ]
              refine ready_take (i := 7) (v := ?_) rfl (by kernel_rfl) (by kernel_rfl) (by kernel_rfl) (by rfl) ?_ HB ?_; rotate_left; (focus (intro w' _; go_simp; try with_reducible rfl)); simp only [Act.put, List.setIfInBounds_toArray, List.set_cons_zero, List.set_cons_succ]
              refine ready_take (i := 8) (v := ?_) rfl (by kernel_rfl) (by kernel_rfl) (by kernel_rfl) (by rfl) ?_ HB ?_; rotate_left; (focus (intro w' _; go_simp; try with_reducible rfl)); simp only [Act.put, List.setIfInBounds_toArray, List.set_cons_zero, List.set_cons_succ]
              refine wpAnyH_ready (rs := [11]) (by kernel_rfl) (by simp) (ready_cons rfl (by rfl) (fun K hK => ?_) AllReadyH.nil)
              · refine wp_store_z (by rfl) (by rfl) t1 Fs.nil z3.fs (fun V u kp => ?_)
                replace t2 := kp.two (Ne.symm ne) t2
                replace z3 := kp.zc _ _ _ z3
                replace z4 := kp.zc _ _ _ z4
                replace HB := kp.bel _ _ HB b1
                clear t1
                have t1 := u
                refine hK.out _ _ HB ?_
                clear hK K kp u
                simp only [Act.put, List.setIfInBounds_toArray, List.set_cons_zero, List.set_cons_succ]
                refine wpAnyH_ready (rs := [12]) (by kernel_rfl) (by simp) (ready_cons rfl (by rfl) (fun K hK => ?_) AllReadyH.nil)
                · refine wp_store_z (by rfl) (by rfl) t2 Fs.nil z4.fs (fun V u kp => ?_)
                  replace t1 := kp.two ne t1
                  replace z3 := kp.zc _ _ _ z3
                  replace z4 := kp.zc _ _ _ z4
                  replace HB := kp.bel _ _ HB b2
                  clear t2
                  have t2 := u
                  refine hK.out _ _ HB ?_
                  clear hK K kp u
                  simp only [Act.put, List.setIfInBounds_toArray, List.set_cons_zero, List.set_cons_succ]
                  refine ready_take (i := 13) (v := ?_) rfl (by kernel_rfl) (by kernel_rfl) (by kernel_rfl) (by rfl) ?_ HB ?_; rotate_left; (focus (intro w' _; go_simp; try with_reducible rfl)); simp only [Act.put, List.setIfInBounds_toArray, List.set_cons_zero, List.set_cons_succ]
                  exact wpAnyH_done (by kernel_rfl) ⟨rfl, g1, g2, _, _, _, _, _, _, _, _, _, _, _, _, _, _, by rfl, t1, z3, t2, z4, ⟨b1, b2⟩, HB⟩ _
      · refine wp_alloc_two (fun g2 V t2 bb hg => ?_)
        have b2 := Nat.le_trans HB.size hg
        replace HB := HB.trans (bb.mono HB.size)
        have ne : g1 ≠ g2 := Nat.ne_of_lt (Nat.lt_of_lt_of_le t1.lt hg)
        replace t1 := t1.to bb
        refine hK.out _ _ HB ?_
        clear hK K bb hg
        simp only [Act.put, List.setIfInBounds_toArray, List.set_cons_zero, List.set_cons_succ]
        refine wpAnyH_ready (rs := [1]) (by kernel_rfl) (by simp) (ready_cons rfl (by rfl) (fun K hK => ?_) AllReadyH.nil)
        · go_simp
          refine (rnum_z (h1.to HB) (h2.to HB)).mono ?_
          rintro e V ⟨x1, y1, rfl, z1, bb⟩
          replace HB := HB.trans (bb.mono HB.size)
          replace t1 := t1.to bb
          replace t2 := t2.to bb
          refine hK.out _ _ HB ?_
          clear hK K bb
          refine wpAnyH_ready (rs := [3]) (by kernel_rfl) (by simp) (ready_cons rfl (by rfl) (fun K hK => ?_) AllReadyH.nil)
          · go_simp
            refine (rden_z (h2.to HB)).mono ?_
            rintro e V ⟨x2, y2, rfl, z2, bb⟩
            replace HB := HB.trans (bb.mono HB.size)
            replace t1 := t1.to bb
            replace t2 := t2.to bb
            replace z1 := z1.to bb
            refine hK.out _ _ HB ?_
            clear hK K bb
            refine wpAnyH_ready (rs := [4]) (by kernel_rfl) (by simp) (ready_cons rfl (by rfl) (fun K hK => ?_) AllReadyH.nil)
            · go_simp
              refine (rd_v (z1.zs sN.out) (z2.zs sD.out) pD0.out eF.out).mono ?_
              rintro e V ⟨x3, y3, x4, y4, rfl, z3, z4, bb⟩
              replace HB := HB.trans (bb.mono HB.size)
              replace t1 := t1.to bb
              replace t2 := t2.to bb
              refine hK.out _ _ HB ?_
              clear hK K bb
              refine ready_take (i := 5) (v := ?_) rfl (by kernel_rfl) (by kernel_rfl) (by kernel_rfl) (by rfl) ?_ HB ?_; rotate_left; (focus (intro w' _; go_simp; try with_reducible rfl)); simp only [Act.put, List.setIfInBounds_toArray, List.set_cons_zero, List.set_cons_succ]
              refine ready_take (i := 6) (v := ?_) rfl (by kernel_rfl) (by kernel_rfl) (by kernel_rfl) (by rfl) ?_ HB ?_; rotate_left; (focus (intro w' _; go_simp; try with_reducible rfl)); simp only [Act.put, List.setIfInBounds_toArray, List.set_cons_zero, List.set_cons_succ]
              refine ready_take (i := 7) (v := ?_) rfl (by kernel_rfl) (by kernel_rfl) (by kernel_rfl) (by rfl) ?_ HB ?_; rotate_left; (focus (intro w' _; go_simp; try with_reducible rfl)); simp only [Act.put, List.setIfInBounds_toArray, List.set_cons_zero, List.set_cons_succ]
              refine ready_take (i := 8) (v := ?_) rfl (by kernel_rfl) (by kernel_rfl) (by kernel_rfl) (by rfl) ?_ HB ?_; rotate_left; (focus (intro w' _; go_simp; try with_reducible rfl)); simp only [Act.put, List.setIfInBounds_toArray, List.set_cons_zero, List.set_cons_succ]
              refine wpAnyH_ready (rs := [11]) (by kernel_rfl) (by simp) (ready_cons rfl (by rfl) (fun K hK => ?_) AllReadyH.nil)
              · refine wp_store_z (by rfl) (by rfl) t1 Fs.nil z3.fs (fun V u kp => ?_)
                replace t2 := kp.two (Ne.symm ne) t2
                replace z3 := kp.zc _ _ _ z3
                replace z4 := kp.zc _ _ _ z4
                replace HB := kp.bel _ _ HB b1
                clear t1
                have t1 := u
                refine hK.out _ _ HB ?_
                clear hK K kp u
                simp only [Act.put, List.setIfInBounds_toArray, List.set_cons_zero, List.set_cons_succ]
                refine wpAnyH_ready (rs := [12]) (by kernel_rfl) (by simp) (ready_cons rfl (by rfl) (fun K hK => ?_) AllReadyH.nil)
                · refine wp_store_z (by rfl) (by rfl) t2 Fs.nil z4.fs (fun V u kp => ?_)
                  replace t1 := kp.two ne t1
                  replace z3 := kp.zc _ _ _ z3
                  replace z4 := kp.zc _ _ _ z4
                  replace HB := kp.bel _ _ HB b2
                  clear t2
                  have t2 := u
                  refine hK.out _ _ HB ?_
                  clear hK K kp u
                  simp only [Act.put, List.setIfInBounds_toArray, List.set_cons_zero, List.set_cons_succ]
                  refine ready_take (i := 13) (v := ?_) rfl (by kernel_rfl) (by kernel_rfl) (by kernel_rfl) (by rfl) ?_ HB ?_; rotate_left; (focus (intro w' _; go_simp; try with_reducible rfl)); simp only [Act.put, List.setIfInBounds_toArray, List.set_cons_zero, List.set_cons_succ]
                  exact wpAnyH_done (by kernel_rfl) ⟨rfl, g1, g2, _, _, _, _, _, _, _, _, _, _, _, _, _, _, by rfl, t1, z3, t2, z4, ⟨b1, b2⟩, HB⟩ _
    · refine wp_alloc_two (fun g2 V t2 bb hg => ?_)
      have b2 := Nat.le_trans HB.size hg
      replace HB := HB.trans (bb.mono HB.size)
      refine hK.out _ _ HB ?_
      clear hK K bb hg
      simp only [Act.put, List.setIfInBounds_toArray, List.set_cons_zero, List.set_cons_succ]
      refine wpAnyH_ready (rs := [1, 9]) (by kernel_rfl) (by simp) (ready_cons rfl (by rfl) (fun K hK => ?_) (ready_cons rfl (by rfl) (fun K hK => ?_) AllReadyH.nil))
      · go_simp
        refine (rnum_z (h1.to HB) (h2.to HB)).mono ?_
        rintro e V ⟨x1, y1, rfl, z1, bb⟩
        replace HB := HB.trans (bb.mono HB.size)
        replace t2 := t2.to bb
        refine hK.out _ _ HB ?_
        clear hK K bb
        refine wpAnyH_ready (rs := [3, 9]) (by kernel_rfl) (by simp) (ready_cons rfl (by rfl) (fun K hK => ?_) (ready_cons rfl (by rfl) (fun K hK => ?_) AllReadyH.nil))
        · go_simp
          refine (rden_z (h2.to HB)).mono ?_
          rintro e V ⟨x2, y2, rfl, z2, bb⟩
          replace HB := HB.trans (bb.mono HB.size)
          replace t2 := t2.to bb
          replace z1 := z1.to bb
          refine hK.out _ _ HB ?_
          clear hK K bb
          refine wpAnyH_ready (rs := [4, 9]) (by kernel_rfl) (by simp) (ready_cons rfl (by rfl) (fun K hK => ?_) (ready_cons rfl (by rfl) (fun K hK => ?_) AllReadyH.nil))
          · go_simp
            refine (rd_v (z1.zs sN.out) (z2.zs sD.out) pD0.out eF.out).mono ?_
            rintro e V ⟨x3, y3, x4, y4, rfl, z3, z4, bb⟩
            replace HB := HB.trans (bb.mono HB.size)
            replace t2 := t2.to bb
            refine hK.out _ _ HB ?_
            clear hK K bb
            refine ready_take (i := 5) (v := ?_) rfl (by kernel_rfl) (by kernel_rfl) (by kernel_rfl) (by rfl) ?_ HB ?_; rotate_left; (focus (intro w' _; go_simp; try with_reducible rfl)); simp only [Act.put, List.setIfInBounds_toArray, List.set_cons_zero, List.set_cons_succ]
            refine ready_take (i := 6) (v := ?_) rfl (by kernel_rfl) (by kernel_rfl) (by kernel_rfl) (by rfl) ?_ HB ?_; rotate_left; (focus (intro w' _; go_simp; try with_reducible rfl)); simp only [Act.put, List.setIfInBounds_toArray, List.set_cons_zero, List.set_cons_succ]
            refine ready_take (i := 7) (v := ?_) rfl (by kernel_rfl) (by kernel_rfl) (by kernel_rfl) (by rfl) ?_ HB ?_; rotate_left; (focus (intro w' _; go_simp; try with_reducible rfl)); simp only [Act.put, List.setIfInBounds_toArray, List.set_cons_zero, List.set_cons_succ]
            refine ready_take (i := 8) (v := ?_) rfl (by kernel_rfl) (by kernel_rfl) (by kernel_rfl) (by rfl) ?_ HB ?_; rotate_left; (focus (intro w' _; go_simp; try with_reducible rfl)); simp only [Act.put, List.setIfInBounds_toArray, List.set_cons_zero, List.set_cons_succ]
            refine wpAnyH_ready (rs := [9]) (by kernel_rfl) (by simp) (ready_cons rfl (by rfl) (fun K hK => ?_) AllReadyH.nil)
            · refine wp_alloc_two (fun g1 V t1 bb hg => ?_)
              have b1 := Nat.le_trans HB.size hg
              replace HB := HB.trans (bb.mono HB.size)
              have ne : g1 ≠ g2 := Nat.ne_of_gt (Nat.lt_of_lt_of_le t2.lt hg)
              replace t2 := t2.to bb
              replace z3 := z3.to bb
              replace z4 := z4.to bb
              refine hK.out _ _ HB ?_
              clear hK K bb hg
              simp only [Act.put, List.setIfInBounds_toArray, List.set_cons_zero, List.set_cons_succ]
              refine wpAnyH_ready (rs := [11]) (by kernel_rfl) (by simp) (ready_cons rfl (by rfl) (fun K hK => ?_) AllReadyH.nil)
              · refine wp_store_z (by rfl) (by rfl) t1 Fs.nil z3.fs (fun V u kp => ?_)
                replace t2 := kp.two (Ne.symm ne) t2
                replace z3 := kp.zc _ _ _ z3
                replace z4 := kp.zc _ _ _ z4
                replace HB := kp.bel _ _ HB b1
                clear t1
                have t1 := u
                refine hK.out _ _ HB ?_
                clear hK K kp u
                simp only [Act.put, List.setIfInBounds_toArray, List.set_cons_zero, List.set_cons_succ]
                refine wpAnyH_ready (rs := [12]) (by kernel_rfl) (by simp) (ready_cons rfl (by rfl) (fun K hK => ?_) AllReadyH.nil)
                · refine wp_store_z (by rfl) (by rfl) t2 Fs.nil z4.fs (fun V u kp => ?_)
                  replace t1 := kp.two ne t1
                  replace z3 := kp.zc _ _ _ z3
                  replace z4 := kp.zc _ _ _ z4
                  replace HB := kp.bel _ _ HB b2
                  clear t2
                  have t2 := u
                  refine hK.out _ _ HB ?_
                  clear hK K kp u
                  simp only [Act.put, List.setIfInBounds_toArray, List.set_cons_zero, List.set_cons_succ]
                  refine ready_take (i := 13) (v := ?_) rfl (by kernel_rfl) (by kernel_rfl) (by kernel_rfl) (by rfl) ?_ HB ?_; rotate_left; (focus (intro w' _; go_simp; try with_reducible rfl)); simp only [Act.put, List.setIfInBounds_toArray, List.set_cons_zero, List.set_cons_succ]
                  exact wpAnyH_done (by kernel_rfl) ⟨rfl, g1, g2, _, _, _, _, _, _, _, _, _, _, _, _, _, _, by rfl, t1, z3, t2, z4, ⟨b1, b2⟩, HB⟩ _
          · refine wp_alloc_two (fun g1 V t1 bb hg => ?_)
            have b1 := Nat.le_trans HB.size hg
            replace HB := HB.trans (bb.mono HB.size)
            have ne : g1 ≠ g2 := Nat.ne_of_gt (Nat.lt_of_lt_of_le t2.lt hg)
            replace t2 := t2.to bb
            replace z1 := z1.to bb
            replace z2 := z2.to bb
            refine hK.out _ _ HB ?_
            clear hK K bb hg
            simp only [Act.put, List.setIfInBounds_toArray, List.set_cons_zero, List.set_cons_succ]
            refine wpAnyH_ready (rs := [4]) (by kernel_rfl) (by simp) (ready_cons rfl (by rfl) (fun K hK => ?_) AllReadyH.nil)
            · go_simp
              refine (rd_v (z1.zs sN.out) (z2.zs sD.out) pD0.out eF.out).mono ?_
              rintro e V ⟨x3, y3, x4, y4, rfl, z3, z4, bb⟩
              replace HB := HB.trans (bb.mono HB.size)
              replace t1 := t1.to bb
              replace t2 := t2.to bb
              refine hK.out _ _ HB ?_
              clear hK K bb
              refine ready_take (i := 5) (v := ?_) rfl (by kernel_rfl) (by kernel_rfl) (by kernel_rfl) (by rfl) ?_ HB ?_; rotate_left; (focus (intro w' _; go_simp; try with_reducible rfl)); simp only [Act.put, List.setIfInBounds_toArray, List.set_cons_zero, List.set_cons_succ]
              refine ready_take (i := 6) (v := ?_) rfl (by kernel_rfl) (by kernel_rfl) (by kernel_rfl) (by rfl) ?_ HB ?_; rotate_left; (focus (intro w' _; go_simp; try with_reducible rfl)); simp only [Act.put, List.setIfInBounds_toArray, List.set_cons_zero, List.set_cons_succ]
              refine ready_take (i := 7) (v := ?_) rfl (by kernel_rfl) (by kernel_rfl) (by kernel_rfl) (by rfl) ?_ HB ?_; rotate_left; (focus (intro w' _; go_simp; try with_reducible rfl)); simp only [Act.put, List.setIfInBounds_toArray, List.set_cons_zero, List.set_cons_succ]
              refine ready_take (i := 8) (v := ?_) rfl (by kernel_rfl) (by kernel_rfl) (by kernel_rfl) (by rfl) ?_ HB ?_; rotate_left; (focus (intro w' _; go_simp; try with_reducible rfl)); simp only [Act.put, List.setIfInBounds_toArray, List.set_cons_zero, List.set_cons_succ]
              refine wpAnyH_ready (rs := [11]) (by kernel_rfl) (by simp) (ready_cons rfl (by rfl) (fun K hK => ?_) AllReadyH.nil)
              · refine wp_store_z (by rfl) (by rfl) t1 Fs.nil z3.fs (fun V u kp => ?_)
                replace t2 := kp.two (Ne.symm ne) t2
                replace z3 := kp.zc _ _ _ z3
                replace z4 := kp.zc _ _ _ z4
                replace HB := kp.bel _ _ HB b1
                clear t1
                have t1 := u
                refine hK.out _ _ HB ?_
                clear hK K kp u
                simp only [Act.put, List.setIfInBounds_toArray, List.set_cons_zero, List.set_cons_succ]
                refine wpAnyH_ready (rs := [12]) (by kernel_rfl) (by simp) (ready_cons rfl (by rfl) (fun K hK => ?_) AllReadyH.nil)
                · refine wp_store_z (by rfl) (by rfl) t2 Fs.nil z4.fs (fun V u kp => ?_)
                  replace t1 := kp.two ne t1
                  replace z3 := kp.zc _ _ _ z3
                  replace z4 := kp.zc _ _ _ z4
                  replace HB := kp.bel _ _ HB b2
                  clear t2
                  have t2 := u
                  refine hK.out _ _ HB ?_
                  clear hK K kp u
                  simp only [Act.put, List.setIfInBounds_toArray, List.set_cons_zero, List.set_cons_succ]
                  refine ready_take (i := 13) (v := ?_) rfl (by kernel_rfl) (by kernel_rfl) (by kernel_rfl) (by rfl) ?_ HB ?_; rotate_left; (focus (intro w' _; go_simp; try with_reducible rfl)); simp only [Act.put, List.setIfInBounds_toArray, List.set_cons_zero, List.set_cons_succ]
                  exact wpAnyH_done (by kernel_rfl) ⟨rfl, g1, g2, _, _, _, _, _, _, _, _, _, _, _, _, _, _, by rfl, t1, z3, t2, z4, ⟨b1, b2⟩, HB⟩ _
        · refine wp_alloc_two (fun g1 V t1 bb hg => ?_)
          have b1 := Nat.le_trans HB.size hg
          replace HB := HB.trans (bb.mono HB.size)
          have ne : g1 ≠ g2 := Nat.ne_of_gt (Nat.lt_of_lt_of_le t2.lt hg)
          replace t2 := t2.to bb
          replace z1 := z1.to bb
          refine hK.out _ _ HB ?_
          clear hK K bb hg
          simp only [Act.put, List.setIfInBounds_toArray, List.set_cons_zero, List.set_cons_succ]
          refine wpAnyH_ready (rs := [3]) (by kernel_rfl) (by simp) (ready_cons rfl (by rfl) (fun K hK => ?_) AllReadyH.nil)
          · go_simp
            refine (rden_z (h2.to HB)).mono ?_
            rintro e V ⟨x2, y2, rfl, z2, bb⟩
            replace HB := HB.trans (bb.mono HB.size)
            replace t1 := t1.to bb
            replace t2 := t2.to bb
            replace z1 := z1.to bb
            refine hK.out _ _ HB ?_
            clear hK K bb
            refine wpAnyH_ready (rs := [4]) (by kernel_rfl) (by simp) (ready_cons rfl (by rfl) (fun K hK => ?_) AllReadyH.nil)
            · go_simp
              refine (rd_v (z1.zs sN.out) (z2.zs sD.out) pD0.out eF.out).mono ?_
              rintro e V ⟨x3, y3, x4, y4, rfl, z3, z4, bb⟩
              replace HB := HB.trans (bb.mono HB.size)
              replace t1 := t1.to bb
              replace t2 := t2.to bb
              refine hK.out _ _ HB ?_
              clear hK K bb
              refine ready_take (i := 5) (v := ?_) rfl (by kernel_rfl) (by kernel_rfl) (by kernel_rfl) (by rfl) ?_ HB ?_; rotate_left; (focus (intro w' _; go_simp; try with_reducible rfl)); simp only [Act.put, List.setIfInBounds_toArray, List.set_cons_zero, List.set_cons_succ]
              refine ready_take (i := 6) (v := ?_) rfl (by kernel_rfl) (by kernel_rfl) (by kernel_rfl) (by rfl) ?_ HB ?_; rotate_left; (focus (intro w' _; go_simp; try with_reducible rfl)); simp only [Act.put, List.setIfInBounds_toArray, List.set_cons_zero, List.set_cons_succ]
              refine ready_take (i := 7) (v := ?_) rfl (by kernel_rfl) (by kernel_rfl) (by kernel_rfl) (by rfl) ?_ HB ?_; rotate_left; (focus (intro w' _; go_simp; try with_reducible rfl)); simp only [Act.put, List.setIfInBounds_toArray, List.set_cons_zero, List.set_cons_succ]
              refine ready_take (i := 8) (v := ?_) rfl (by kernel_rfl) (by kernel_rfl) (by kernel_rfl) (by rfl) ?_ HB ?_; rotate_left; (focus (intro w' _; go_simp; try with_reducible rfl)); simp only [Act.put, List.setIfInBounds_toArray, List.set_cons_zero, List.set_cons_succ]
              refine wpAnyH_ready (rs := [11]) (by kernel_rfl) (by simp) (ready_cons rfl (by rfl) (fun K hK => ?_) AllReadyH.nil)
              · refine wp_store_z (by rfl) (by rfl) t1 Fs.nil z3.fs (fun V u kp => ?_)
                replace t2 := kp.two (Ne.symm ne) t2
                replace z3 := kp.zc _ _ _ z3
                replace z4 := kp.zc _ _ _ z4
                replace HB := kp.bel _ _ HB b1
                clear t1
                have t1 := u
                refine hK.out _ _ HB ?_
                clear hK K kp u
                simp only [Act.put, List.setIfInBounds_toArray, List.set_cons_zero, List.set_cons_succ]
                refine wpAnyH_ready (rs := [12]) (by kernel_rfl) (by simp) (ready_cons rfl (by rfl) (fun K hK => ?_) AllReadyH.nil)
                · refine wp_store_z (by rfl) (by rfl) t2 Fs.nil z4.fs (fun V u kp => ?_)
                  replace t1 := kp.two ne t1
                  replace z3 := kp.zc _ _ _ z3
                  replace z4 := kp.zc _ _ _ z4
                  replace HB := kp.bel _ _ HB b2
                  clear t2
                  have t2 := u
                  refine hK.out _ _ HB ?_
                  clear hK K kp u
                  simp only [Act.put, List.setIfInBounds_toArray, List.set_cons_zero, List.set_cons_succ]
                  refine ready_take (i := 13) (v := ?_) rfl (by kernel_rfl) (by kernel_rfl) (by kernel_rfl) (by rfl) ?_ HB ?_; rotate_left; (focus (intro w' _; go_simp; try with_reducible rfl)); simp only [Act.put, List.setIfInBounds_toArray, List.set_cons_zero, List.set_cons_succ]
                  exact wpAnyH_done (by kernel_rfl) ⟨rfl, g1, g2, _, _, _, _, _, _, _, _, _, _, _, _, _, _, by rfl, t1, z3, t2, z4, ⟨b1, b2⟩, HB⟩ _
      · refine wp_alloc_two (fun g1 V t1 bb hg => ?_)
        have b1 := Nat.le_trans HB.size hg
        replace HB := HB.trans (bb.mono HB.size)
        have ne : g1 ≠ g2 := Nat.ne_of_gt (Nat.lt_of_lt_of_le t2.lt hg)
        replace t2 := t2.to bb
        refine hK.out _ _ HB ?_
        clear hK K bb hg
        simp only [Act.put, List.setIfInBounds_toArray, List.set_cons_zero, List.set_cons_succ]
        refine wpAnyH_ready (rs := [1]) (by kernel_rfl) (by simp) (ready_cons rfl (by rfl) (fun K hK => ?_) AllReadyH.nil)
        · go_simp
          refine (rnum_z (h1.to HB) (h2.to HB)).mono ?_
          rintro e V ⟨x1, y1, rfl, z1, bb⟩
          replace HB := HB.trans (bb.mono HB.size)
          replace t1 := t1.to bb
          replace t2 := t2.to bb
          refine hK.out _ _ HB ?_
          clear hK K bb
          refine wpAnyH_ready (rs := [3]) (by kernel_rfl) (by simp) (ready_cons rfl (by rfl) (fun K hK => ?_) AllReadyH.nil)
          · go_simp
            refine (rden_z (h2.to HB)).mono ?_
            rintro e V ⟨x2, y2, rfl, z2, bb⟩
            replace HB := HB.trans (bb.mono HB.size)
            replace t1 := t1.to bb
            replace t2 := t2.to bb
            replace z1 := z1.to bb
            refine hK.out _ _ HB ?_
            clear hK K bb
            refine wpAnyH_ready (rs := [4]) (by kernel_rfl) (by simp) (ready_cons rfl (by rfl) (fun K hK => ?_) AllReadyH.nil)
            · go_simp
              refine (rd_v (z1.zs sN.out) (z2.zs sD.out) pD0.out eF.out).mono ?_
              rintro e V ⟨x3, y3, x4, y4, rfl, z3, z4, bb⟩
              replace HB := HB.trans (bb.mono HB.size)
              replace t1 := t1.to bb
              replace t2 := t2.to bb
              refine hK.out _ _ HB ?_
              clear hK K bb
              refine ready_take (i := 5) (v := ?_) rfl (by kernel_rfl) (by kernel_rfl) (by kernel_rfl) (by rfl) ?_ HB ?_; rotate_left; (focus (intro w' _; go_simp; try with_reducible rfl)); simp only [Act.put, List.setIfInBounds_toArray, List.set_cons_zero, List.set_cons_succ]
              refine ready_take (i := 6) (v := ?_) rfl (by kernel_rfl) (by kernel_rfl) (by kernel_rfl) (by rfl) ?_ HB ?_; rotate_left; (focus (intro w' _; go_simp; try with_reducible rfl)); simp only [Act.put, List.setIfInBounds_toArray, List.set_cons_zero, List.set_cons_succ]
              refine ready_take (i := 7) (v := ?_) rfl (by kernel_rfl) (by kernel_rfl) (by kernel_rfl) (by rfl) ?_ HB ?_; rotate_left; (focus (intro w' _; go_simp; try with_reducible rfl)); simp only [Act.put, List.setIfInBounds_toArray, List.set_cons_zero, List.set_cons_succ]
              refine ready_take (i := 8) (v := ?_) rfl (by kernel_rfl) (by kernel_rfl) (by kernel_rfl) (by rfl) ?_ HB ?_; rotate_left; (focus (intro w' _; go_simp; try with_reducible rfl)); simp only [Act.put, List.setIfInBounds_toArray, List.set_cons_zero, List.set_cons_succ]
              refine wpAnyH_ready (rs := [11]) (by kernel_rfl) (by simp) (ready_cons rfl (by rfl) (fun K hK => ?_) AllReadyH.nil)
              · refine wp_store_z (by rfl) (by rfl) t1 Fs.nil z3.fs (fun V u kp => ?_)
                replace t2 := kp.two (Ne.symm ne) t2
                replace z3 := kp.zc _ _ _ z3
                replace z4 := kp.zc _ _ _ z4
                replace HB := kp.bel _ _ HB b1
                clear t1
                have t1 := u
                refine hK.out _ _ HB ?_
                clear hK K kp u
                simp only [Act.put, List.setIfInBounds_toArray, List.set_cons_zero, List.set_cons_succ]
                refine wpAnyH_ready (rs := [12]) (by kernel_rfl) (by simp) (ready_cons rfl (by rfl) (fun K hK => ?_) AllReadyH.nil)
                · refine wp_store_z (by rfl) (by rfl) t2 Fs.nil z4.fs (fun V u kp => ?_)
                  replace t1 := kp.two ne t1
                  replace z3 := kp.zc _ _ _ z3
                  replace z4 := kp.zc _ _ _ z4
                  replace HB := kp.bel _ _ HB b2
                  clear t2
                  have t2 := u
                  refine hK.out _ _ HB ?_
                  clear hK K kp u
                  simp only [Act.put, List.setIfInBounds_toArray, List.set_cons_zero, List.set_cons_succ]
                  refine ready_take (i := 13) (v := ?_) rfl (by kernel_rfl) (by kernel_rfl) (by kernel_rfl) (by rfl) ?_ HB ?_; rotate_left; (focus (intro w' _; go_simp; try with_reducible rfl)); simp only [Act.put, List.setIfInBounds_toArray, List.set_cons_zero, List.set_cons_succ]
                  exact wpAnyH_done (by kernel_rfl) ⟨rfl, g1, g2, _, _, _, _, _, _, _, _, _, _, _, _, _, _, by rfl, t1, z3, t2, z4, ⟨b1, b2⟩, HB⟩ _
  rintro v' Y2 ⟨gtQ, gtS, tQ0, tQ1, tS0, tS1, _, _, _, _, _, _, _, _, _, _, rfl, tQ, ztQ, tS, ztS, hge, bb⟩
  simp only [Act.put, List.setIfInBounds_toArray, List.set_cons_zero, List.set_cons_succ]
  have hntQ : gtQ ≠ (w.heap.size + 1) := by have := tR.lt; omega
  have hntS : gtS ≠ (w.heap.size + 1) := by have := tR.lt; omega
  clear hge
  replace tA := tA.to bb
  replace tR := tR.to bb
  replace h1 := h1.to bb
  replace h2 := h2.to bb
  replace HB := Lib.hid (HB.out.trans (bb.mono HB.out.size))
  clear bb
  have kktA0 := tA.c0
  have kktA1 := tA.c1
  have kktA2 := tA.c2
  have kktA3 := tA.c3
  have kktQ0 := tQ.c0
  have kktQ1 := tQ.c1
  have kktS0 := tS.c0
  have kktS1 := tS.c1
  clear h1 h2 ztS
  have RZ := Lib.hid ztQ
  obtain ⟨V99, eV, u, kp, _⟩ := pack2 tR Fs.nil tQ0 tQ1
  obtain ⟨n1, A1, j1, m1, rfl, rfl⟩ := ztQ.fs
  obtain ⟨v0, v1, v2, v3, _⟩ := tR
  have EV := Lib.hid eV
  have KP := Lib.hid kp
  have U := Lib.hid u
  clear eV kp u ztQ
  clear tA tQ tS
  go_wp2
  rw [EV.out]
  refine bodyPost_ret (v := .agg #[.bool n1, .slice A1 j1 m1]) (by simp [results, Tryz.f20, go_sem, U.out.c0, U.out.c1]) rfl ?_
  exact ⟨_, _, rfl, KP.out.zc _ _ _ RZ.out, KP.out.bel _ _ HB.out (by omega)⟩


set_option maxRecDepth 100000 in
theorem rceil_q {w : World} {a1 a2 a3 a4 : Value} {r : Rat} {k : Nat} (hA : Qi w a1 a2 a3 a4 r k) (hk : 0 < k) (hk2 : k <= 10000) :
    Calls Tryz.prog 22 #[.agg #[a1, a2, a3, a4]] w (ZR w r.ceil) := by
  have mA := hA.qm hk
  have mN := mA.neg
  have sF : Hid (Sg (-r).floor) := by
    show Sg _
    rw [Rat.floor_def]
    exact (mN.1.le (Int.natAbs_ediv_le_natAbs _ _)).sg hk2
  rw [Rat.ceil_eq_neg_floor_neg]
  obtain ⟨W0, hW0⟩ : ∃ W0, W0 = (w.alloc (.cells #[a1, a2, a3, a4] 26)).alloc (.cells #[.bool false, .slice none 0 0] 24) := ⟨_, rfl⟩
  have hbw : Below w.heap.size w W0 := by rw [hW0]; exact (((Below.refl _ _).alloc (Nat.le_refl _) _).alloc (by simp) _)
  have tA : Four W0 (w.heap.size) a1 a2 a3 a4 := by
    have h := Four.new w a1 a2 a3 a4 26
    rw [hW0]; exact (h.alloc _)
  have tR : Two W0 (w.heap.size + 1) (.bool false) (.slice none 0 0) := by
    have h := Two.new (w.alloc (.cells #[a1, a2, a3, a4] 26)) (.bool false) (.slice none 0 0) 24
    rw [World.size_alloc] at h
    rw [hW0]; exact h
  replace hA := hA.to hbw
  have HW0 := Lib.hid hW0
  have HB := Lib.hid hbw
  clear hW0 hbw
  go_enter Tryz.func22, Tryz.ntmps22
  go_wp2_with fail
  rw [<- HW0.out]
  clear HW0
  have kktA0 := tA.c0
  have kktA1 := tA.c1
  have kktA2 := tA.c2
  have kktA3 := tA.c3
  go_wp2_with fail
  refine (rneg_q hA hk hk2).mono ?_
  rintro e V1 ⟨x1, y1, u1, v1, rfl, q1, bb⟩
  clear kktA0 kktA1 kktA2 kktA3
  replace tA := tA.to bb
  replace tR := tR.to bb
  replace HB := Lib.hid (HB.out.trans (bb.mono HB.out.size))
  clear bb
  have kktA0 := tA.c0
  have kktA1 := tA.c1
  have kktA2 := tA.c2
  have kktA3 := tA.c3
  go_wp2_with fail
  refine (rfloor_q (q1.qi mN hk2) hk hk2).mono ?_
  rintro e V2 ⟨x2, y2, rfl, z2, bb⟩
  clear kktA0 kktA1 kktA2 kktA3
  replace tA := tA.to bb
  replace tR := tR.to bb
  replace HB := Lib.hid (HB.out.trans (bb.mono HB.out.size))
  clear bb
  have kktA0 := tA.c0
  have kktA1 := tA.c1
  have kktA2 := tA.c2
  have kktA3 := tA.c3
  go_wp2_with fail
  refine (rneg_z (z2.zs sF.out)).mono ?_
  rintro e V3 ⟨x3, y3, rfl, z3, bb⟩
  clear kktA0 kktA1 kktA2 kktA3
  replace tA := tA.to bb
  replace tR := tR.to bb
  replace HB := Lib.hid (HB.out.trans (bb.mono HB.out.size))
  clear bb
  have RZ := Lib.hid z3
  obtain ⟨V99, eV, u, kp, _⟩ := pack2 tR Fs.nil x3 y3
  obtain ⟨n1, A1, j1, m1, rfl, rfl⟩ := z3.fs
  obtain ⟨v0, v1, v2, v3, _⟩ := tR
  have EV := Lib.hid eV
  have KP := Lib.hid kp
  have U := Lib.hid u
  clear eV kp u z3
  clear tA
  go_wp2
  rw [EV.out]
  refine bodyPost_ret (v := .agg #[.bool n1, .slice A1 j1 m1]) (by simp [results, Tryz.f22, go_sem, U.out.c0, U.out.c1]) rfl ?_
  exact ⟨_, _, rfl, KP.out.zc _ _ _ RZ.out, KP.out.bel _ _ HB.out (by omega)⟩

end Go.Proofs.YtgkfbhdaheoecaaGreat
