/- Parts: 4. -/
import Derived.Test.YtgkfbhdaheoecaaGreatFo3
import Derived.Test.YtgkfbhdaheoecaaGreatFo9
import Derived.Test.YtgkfbhdaheoecaaGreatFo17
import Derived.BigQuiet
import Derived.Deep.QuietTactic
import Derived.WalkMore
set_option linter.unusedVariables false
set_option linter.unusedSimpArgs false
set_option maxRecDepth 100000
set_option maxHeartbeats 40000000

namespace Go.Proofs.YtgkfbhdaheoecaaGreat
open Go.RowKit Go.Shelf

theorem ceil_div {N D : Int} (hD : 0 < D) : -(-N / D) = (Rat.divInt N D).ceil := by
  rw [Rat.ceil_eq_neg_floor_neg, Rat.neg_divInt, floor_div hD]

theorem ceil_q {w : World} {x1 y1 x2 y2 : Value} {r : Rat} {k : Nat} (h1 : Qi w x1 y1 x2 y2 r k) (hk : 0 < k) (hk2 : k <= 10000) :
    Calls Tryz.prog 21 #[.agg #[x1, y1, x2, y2]] w (ZR w r.ceil) := by
  obtain ⟨W0, hW0⟩ : ∃ W0, W0 = (w.alloc (.cells #[x1, y1, x2, y2] 26)).alloc (.cells #[.bool false, .slice none 0 0] 24) := ⟨_, rfl⟩
  have hbw : Below w.heap.size w W0 := by rw [hW0]; exact ((Below.refl _ _).alloc (Nat.le_refl _) _).alloc (by simp) _
  have tA : Four W0 w.heap.size x1 y1 x2 y2 := by rw [hW0]; exact (Four.new w _ _ _ _ _).alloc _
  have tR : Two W0 (w.heap.size + 1) (.bool false) (.slice none 0 0) := by
    have h := Two.new (w.alloc (.cells #[x1, y1, x2, y2] 26)) (.bool false) (.slice none 0 0) 24
    rw [World.size_alloc] at h
    rw [hW0]; exact h
  have HW0 := Lib.hid hW0
  have hU := Lib.hid (upright_q (h1.to hbw) hk hk2)
  have HB := Lib.hid hbw
  have f1 := h1.fq.1
  have f2 := h1.fq.2
  clear h1 hW0 hbw
  obtain ⟨n1, A1, l1, m1, rfl, rfl⟩ := f1
  obtain ⟨n2, A2, l2, m2, rfl, rfl⟩ := f2
  go_enter Tryz.func21, Tryz.ntmps21
  go_wp2_with fail
  rw [<- HW0.out]
  have k0 := tA.c0
  have k1 := tA.c1
  have k2 := tA.c2
  have k3 := tA.c3
  go_wp2_with fail
  refine hU.out.mono ?_
  rintro e V1 ⟨_, _, _, _, p, q, rfl, up, bb⟩
  clear hU
  obtain ⟨n1, A1, l1, m1, rfl, rfl⟩ := up.fq.1
  obtain ⟨n2, A2, l2, m2, rfl, rfl⟩ := up.fq.2
  have hA := up.n
  have hB := up.d
  have HQ := Lib.hid up.pos
  have HSP := Lib.hid (up.sn.sg hk2)
  have HR : Hid (r.ceil = -(-p / q)) := by show _ = _; rw [<- up.eq, ceil_div up.pos]
  clear up
  replace tR := tR.to bb
  replace HB := Lib.hid (HB.out.trans (bb.mono HB.out.size))
  clear k0 k1 k2 k3 bb tA
  have bb := one4_new V1 (.cells #[.bool n1, .slice A1 l1 m1, .bool n2, .slice A2 l2 m2] 26)
  have t3 := Four.new V1 (.bool n1) (.slice A1 l1 m1) (.bool n2) (.slice A2 l2 m2) 26
  replace tR := tR.to bb
  replace hA := hA.to bb
  replace hB := hB.to bb
  replace HB := Lib.hid (HB.out.trans (bb.mono HB.out.size))
  clear bb
  have HSN : Hid (Sg (-p)) := by
    show Sg _
    have h := HSP.out
    unfold Sg at *
    rw [Int.natAbs_neg]; exact h
  have HQ0 : Hid (q ≠ 0) := by show _ ≠ _; have := HQ.out; omega
  go_wp2_with fail
  obtain ⟨V2, hV2⟩ : ∃ V, V = V1.alloc (.cells #[.bool n1, .slice A1 l1 m1, .bool n2, .slice A2 l2 m2] 26) := ⟨_, rfl⟩
  rw [<- hV2] at t3 tR hA hB HB ⊢
  clear hV2
  refine wp_cut (fun a' v' w' => ∃ (g1 : Nat) (x y : Value) (u10 u11 u12 u13 u14 u15 u9 u16 u17 u18 u5 u6 : Value), v' = (((((((((((((a'.put (some 10) u10).put (some 11) u11).put (some 12) u12).put (some 13) u13).put (some 14) u14).put (some 15) u15).put (some 9) u9).put (some 16) u16).put (some 17) u17).put (some 18) u18).put (some 5) u5).put (some 6) u6).put (some 4) (.pointer (some ⟨g1, 0, none⟩))) /\ Cb w' g1 x y (-p / q) /\ Below V2.heap.size V2 w') ?_ ?_
  · refine wp_region_planTo (S := fun w' => Below V2.heap.size V2 w') [(0, true), (1, true), (3, true), (4, true)] #[true, true, false, true, true, false, false, false, false, false, false, false, false, false, false] 11 (by kernel_rfl) (by kernel_rfl) (Below.refl _ _).drew ?_
    repeat (refine plan_take (v := ?_) rfl (by rfl) ?_ ?_; rotate_left; (focus (intro w' hS; have k0 := (t3.to hS).c0; have k1 := (t3.to hS).c1; have k2 := (t3.to hS).c2; have k3 := (t3.to hS).c3; go_simp; try with_reducible rfl)); simp only [Act.put, List.setIfInBounds_toArray, List.set_cons_zero, List.set_cons_succ])
    clear HB
    intro HB
    refine wpAnyH_ready (rs := [2, 10, 11]) (by kernel_rfl) (by simp) (ready_cons rfl (by rfl) (fun K hK => ?_) (ready_cons rfl (by rfl) (fun K hK => ?_) (ready_cons rfl (by rfl) (fun K hK => ?_) AllReadyH.nil)))
    · go_simp
      refine (neg_z (hA.to HB).zi).mono ?_
      rintro e V ⟨xn, yn, rfl, rn, bb⟩
      replace HB := HB.trans (bb.mono HB.size)
      refine hK.out _ _ HB ?_
      clear hK K bb
      refine wpAnyH_ready (rs := [5, 10, 11]) (by kernel_rfl) (by simp) (ready_cons rfl (by rfl) (fun K hK => ?_) (ready_cons rfl (by rfl) (fun K hK => ?_) (ready_cons rfl (by rfl) (fun K hK => ?_) AllReadyH.nil)))
      · go_simp
        refine (dm_z (rn.zs HSN.out) (hB.to HB) HQ0.out HSN.out).mono ?_
        rintro e V ⟨A3, c3, A4, c4, rfl, z1, z2, e1, e2, e3, e4, bb⟩
        have r1 : Zc V (.bool (decide (-p / q < 0))) (.slice A3 (dig b32 (-p / q).natAbs).length c3) (-p / q) := ⟨A3, c3, rfl, rfl, z1, e1, e2⟩
        have r2 : Zc V (.bool (decide (-p % q < 0))) (.slice A4 (dig b32 (-p % q).natAbs).length c4) (-p % q) := ⟨A4, c4, rfl, rfl, z2, e3, e4⟩
        replace HB := HB.trans (bb.mono HB.size)
        refine hK.out _ _ HB ?_
        clear hK K bb rn z1 z2 e1 e2 e3 e4
        refine ready_take (i := 6) (v := ?_) rfl (by kernel_rfl) (by kernel_rfl) (by kernel_rfl) (by rfl) ?_ HB ?_; rotate_left; (focus (intro w' _; go_simp; try with_reducible rfl)); simp only [Act.put, List.setIfInBounds_toArray, List.set_cons_zero, List.set_cons_succ]
        refine ready_take (i := 7) (v := ?_) rfl (by kernel_rfl) (by kernel_rfl) (by kernel_rfl) (by rfl) ?_ HB ?_; rotate_left; (focus (intro w' _; go_simp; try with_reducible rfl)); simp only [Act.put, List.setIfInBounds_toArray, List.set_cons_zero, List.set_cons_succ]
        refine ready_take (i := 8) (v := ?_) rfl (by kernel_rfl) (by kernel_rfl) (by kernel_rfl) (by rfl) ?_ HB ?_; rotate_left; (focus (intro w' _; go_simp; try with_reducible rfl)); simp only [Act.put, List.setIfInBounds_toArray, List.set_cons_zero, List.set_cons_succ]
        refine ready_take (i := 9) (v := ?_) rfl (by kernel_rfl) (by kernel_rfl) (by kernel_rfl) (by rfl) ?_ HB ?_; rotate_left; (focus (intro w' _; go_simp; try with_reducible rfl)); simp only [Act.put, List.setIfInBounds_toArray, List.set_cons_zero, List.set_cons_succ]
        refine wpAnyH_ready (rs := [10, 11]) (by kernel_rfl) (by simp) (ready_cons rfl (by rfl) (fun K hK => ?_) (ready_cons rfl (by rfl) (fun K hK => ?_) AllReadyH.nil))
        · refine wp_alloc_two (fun g1 V t1 bb hg => ?_)
          have b1 := Nat.le_trans HB.size hg
          replace HB := HB.trans (bb.mono HB.size)
          replace r1 := r1.to bb
          replace r2 := r2.to bb
          refine hK.out _ _ HB ?_
          clear hK K bb hg
          simp only [Act.put, List.setIfInBounds_toArray, List.set_cons_zero, List.set_cons_succ]
          refine wpAnyH_ready (rs := [11]) (by kernel_rfl) (by simp) (ready_cons rfl (by rfl) (fun K hK => ?_) AllReadyH.nil)
          · refine wp_alloc_two (fun g2 V t2 bb hg => ?_)
            have b2 := Nat.le_trans HB.size hg
            replace HB := HB.trans (bb.mono HB.size)
            have ne : g1 ≠ g2 := Nat.ne_of_lt (Nat.lt_of_lt_of_le t1.lt hg)
            replace t1 := t1.to bb
            replace r1 := r1.to bb
            replace r2 := r2.to bb
            refine hK.out _ _ HB ?_
            clear hK K bb hg
            simp only [Act.put, List.setIfInBounds_toArray, List.set_cons_zero, List.set_cons_succ]
            refine wpAnyH_ready (rs := [12]) (by kernel_rfl) (by simp) (ready_cons rfl (by rfl) (fun K hK => ?_) AllReadyH.nil)
            · refine wp_store_two (by rfl) (by rfl) t1 Fs.nil r1.fs (fun V u kp => ?_)
              replace t2 := kp.two _ _ _ (Ne.symm ne) t2
              replace r1 := kp.zc _ _ _ r1
              replace r2 := kp.zc _ _ _ r2
              replace HB := kp.bel _ _ HB b1
              clear t1
              have t1 := u
              refine hK.out _ _ HB ?_
              clear hK K kp u
              simp only [Act.put, List.setIfInBounds_toArray, List.set_cons_zero, List.set_cons_succ]
              refine wpAnyH_ready (rs := [13]) (by kernel_rfl) (by simp) (ready_cons rfl (by rfl) (fun K hK => ?_) AllReadyH.nil)
              · refine wp_store_two (by rfl) (by rfl) t2 Fs.nil r2.fs (fun V u kp => ?_)
                replace t1 := kp.two _ _ _ ne t1
                replace r1 := kp.zc _ _ _ r1
                replace r2 := kp.zc _ _ _ r2
                replace HB := kp.bel _ _ HB b2
                clear t2
                have t2 := u
                refine hK.out _ _ HB ?_
                clear hK K kp u
                simp only [Act.put, List.setIfInBounds_toArray, List.set_cons_zero, List.set_cons_succ]
                refine ready_take (i := 14) (v := ?_) rfl (by kernel_rfl) (by kernel_rfl) (by kernel_rfl) (by rfl) ?_ HB ?_; rotate_left; (focus (intro w' _; go_simp; try with_reducible rfl)); simp only [Act.put, List.setIfInBounds_toArray, List.set_cons_zero, List.set_cons_succ]
                exact wpAnyH_done (by kernel_rfl) ⟨rfl, g1, _, _, _, _, _, _, _, _, _, _, _, _, _, _, by rfl, ⟨t1, r1⟩, HB⟩ _
        · refine wp_alloc_two (fun g2 V t2 bb hg => ?_)
          have b2 := Nat.le_trans HB.size hg
          replace HB := HB.trans (bb.mono HB.size)
          replace r1 := r1.to bb
          replace r2 := r2.to bb
          refine hK.out _ _ HB ?_
          clear hK K bb hg
          simp only [Act.put, List.setIfInBounds_toArray, List.set_cons_zero, List.set_cons_succ]
          refine wpAnyH_ready (rs := [10]) (by kernel_rfl) (by simp) (ready_cons rfl (by rfl) (fun K hK => ?_) AllReadyH.nil)
          · refine wp_alloc_two (fun g1 V t1 bb hg => ?_)
            have b1 := Nat.le_trans HB.size hg
            replace HB := HB.trans (bb.mono HB.size)
            have ne : g1 ≠ g2 := Nat.ne_of_gt (Nat.lt_of_lt_of_le t2.lt hg)
            replace t2 := t2.to bb
            replace r1 := r1.to bb
            replace r2 := r2.to bb
            refine hK.out _ _ HB ?_
            clear hK K bb hg
            simp only [Act.put, List.setIfInBounds_toArray, List.set_cons_zero, List.set_cons_succ]
            refine wpAnyH_ready (rs := [12]) (by kernel_rfl) (by simp) (ready_cons rfl (by rfl) (fun K hK => ?_) AllReadyH.nil)
            · refine wp_store_two (by rfl) (by rfl) t1 Fs.nil r1.fs (fun V u kp => ?_)
              replace t2 := kp.two _ _ _ (Ne.symm ne) t2
              replace r1 := kp.zc _ _ _ r1
              replace r2 := kp.zc _ _ _ r2
              replace HB := kp.bel _ _ HB b1
              clear t1
              have t1 := u
              refine hK.out _ _ HB ?_
              clear hK K kp u
              simp only [Act.put, List.setIfInBounds_toArray, List.set_cons_zero, List.set_cons_succ]
              refine wpAnyH_ready (rs := [13]) (by kernel_rfl) (by simp) (ready_cons rfl (by rfl) (fun K hK => ?_) AllReadyH.nil)
              · refine wp_store_two (by rfl) (by rfl) t2 Fs.nil r2.fs (fun V u kp => ?_)
                replace t1 := kp.two _ _ _ ne t1
                replace r1 := kp.zc _ _ _ r1
                replace r2 := kp.zc _ _ _ r2
                replace HB := kp.bel _ _ HB b2
                clear t2
                have t2 := u
                refine hK.out _ _ HB ?_
                clear hK K kp u
                simp only [Act.put, List.setIfInBounds_toArray, List.set_cons_zero, List.set_cons_succ]
                refine ready_take (i := 14) (v := ?_) rfl (by kernel_rfl) (by kernel_rfl) (by kernel_rfl) (by rfl) ?_ HB ?_; rotate_left; (focus (intro w' _; go_simp; try with_reducible rfl)); simp only [Act.put, List.setIfInBounds_toArray, List.set_cons_zero, List.set_cons_succ]
                exact wpAnyH_done (by kernel_rfl) ⟨rfl, g1, _, _, _, _, _, _, _, _, _, _, _, _, _, _, by rfl, ⟨t1, r1⟩, HB⟩ _
      · refine wp_alloc_two (fun g1 V t1 bb hg => ?_)
        have b1 := Nat.le_trans HB.size hg
        replace HB := HB.trans (bb.mono HB.size)
        replace rn := rn.to bb
        refine hK.out _ _ HB ?_
        clear hK K bb hg
        simp only [Act.put, List.setIfInBounds_toArray, List.set_cons_zero, List.set_cons_succ]
        refine wpAnyH_ready (rs := [5, 11]) (by kernel_rfl) (by simp) (ready_cons rfl (by rfl) (fun K hK => ?_) (ready_cons rfl (by rfl) (fun K hK => ?_) AllReadyH.nil))
        · go_simp
          refine (dm_z (rn.zs HSN.out) (hB.to HB) HQ0.out HSN.out).mono ?_
          rintro e V ⟨A3, c3, A4, c4, rfl, z1, z2, e1, e2, e3, e4, bb⟩
          have r1 : Zc V (.bool (decide (-p / q < 0))) (.slice A3 (dig b32 (-p / q).natAbs).length c3) (-p / q) := ⟨A3, c3, rfl, rfl, z1, e1, e2⟩
          have r2 : Zc V (.bool (decide (-p % q < 0))) (.slice A4 (dig b32 (-p % q).natAbs).length c4) (-p % q) := ⟨A4, c4, rfl, rfl, z2, e3, e4⟩
          replace HB := HB.trans (bb.mono HB.size)
          replace t1 := t1.to bb
          refine hK.out _ _ HB ?_
          clear hK K bb rn z1 z2 e1 e2 e3 e4
          refine ready_take (i := 6) (v := ?_) rfl (by kernel_rfl) (by kernel_rfl) (by kernel_rfl) (by rfl) ?_ HB ?_; rotate_left; (focus (intro w' _; go_simp; try with_reducible rfl)); simp only [Act.put, List.setIfInBounds_toArray, List.set_cons_zero, List.set_cons_succ]
          refine ready_take (i := 7) (v := ?_) rfl (by kernel_rfl) (by kernel_rfl) (by kernel_rfl) (by rfl) ?_ HB ?_; rotate_left; (focus (intro w' _; go_simp; try with_reducible rfl)); simp only [Act.put, List.setIfInBounds_toArray, List.set_cons_zero, List.set_cons_succ]
          refine ready_take (i := 8) (v := ?_) rfl (by kernel_rfl) (by kernel_rfl) (by kernel_rfl) (by rfl) ?_ HB ?_; rotate_left; (focus (intro w' _; go_simp; try with_reducible rfl)); simp only [Act.put, List.setIfInBounds_toArray, List.set_cons_zero, List.set_cons_succ]
          refine ready_take (i := 9) (v := ?_) rfl (by kernel_rfl) (by kernel_rfl) (by kernel_rfl) (by rfl) ?_ HB ?_; rotate_left; (focus (intro w' _; go_simp; try with_reducible rfl)); simp only [Act.put, List.setIfInBounds_toArray, List.set_cons_zero, List.set_cons_succ]
          refine wpAnyH_ready (rs := [11]) (by kernel_rfl) (by simp) (ready_cons rfl (by rfl) (fun K hK => ?_) AllReadyH.nil)
          · refine wp_alloc_two (fun g2 V t2 bb hg => ?_)
            have b2 := Nat.le_trans HB.size hg
            replace HB := HB.trans (bb.mono HB.size)
            have ne : g1 ≠ g2 := Nat.ne_of_lt (Nat.lt_of_lt_of_le t1.lt hg)
            replace t1 := t1.to bb
            replace r1 := r1.to bb
            replace r2 := r2.to bb
            refine hK.out _ _ HB ?_
            clear hK K bb hg
            simp only [Act.put, List.setIfInBounds_toArray, List.set_cons_zero, List.set_cons_succ]
            refine wpAnyH_ready (rs := [12]) (by kernel_rfl) (by simp) (ready_cons rfl (by rfl) (fun K hK => ?_) AllReadyH.nil)
            · refine wp_store_two (by rfl) (by rfl) t1 Fs.nil r1.fs (fun V u kp => ?_)
              replace t2 := kp.two _ _ _ (Ne.symm ne) t2
              replace r1 := kp.zc _ _ _ r1
              replace r2 := kp.zc _ _ _ r2
              replace HB := kp.bel _ _ HB b1
              clear t1
              have t1 := u
              refine hK.out _ _ HB ?_
              clear hK K kp u
              simp only [Act.put, List.setIfInBounds_toArray, List.set_cons_zero, List.set_cons_succ]
              refine wpAnyH_ready (rs := [13]) (by kernel_rfl) (by simp) (ready_cons rfl (by rfl) (fun K hK => ?_) AllReadyH.nil)
              · refine wp_store_two (by rfl) (by rfl) t2 Fs.nil r2.fs (fun V u kp => ?_)
                replace t1 := kp.two _ _ _ ne t1
                replace r1 := kp.zc _ _ _ r1
                replace r2 := kp.zc _ _ _ r2
                replace HB := kp.bel _ _ HB b2
                clear t2
                have t2 := u
                refine hK.out _ _ HB ?_
                clear hK K kp u
                simp only [Act.put, List.setIfInBounds_toArray, List.set_cons_zero, List.set_cons_succ]
                refine ready_take (i := 14) (v := ?_) rfl (by kernel_rfl) (by kernel_rfl) (by kernel_rfl) (by rfl) ?_ HB ?_; rotate_left; (focus (intro w' _; go_simp; try with_reducible rfl)); simp only [Act.put, List.setIfInBounds_toArray, List.set_cons_zero, List.set_cons_succ]
                exact wpAnyH_done (by kernel_rfl) ⟨rfl, g1, _, _, _, _, _, _, _, _, _, _, _, _, _, _, by rfl, ⟨t1, r1⟩, HB⟩ _
        · refine wp_alloc_two (fun g2 V t2 bb hg => ?_)
          have b2 := Nat.le_trans HB.size hg
          replace HB := HB.trans (bb.mono HB.size)
          have ne : g1 ≠ g2 := Nat.ne_of_lt (Nat.lt_of_lt_of_le t1.lt hg)
          replace t1 := t1.to bb
          replace rn := rn.to bb
          refine hK.out _ _ HB ?_
          clear hK K bb hg
          simp only [Act.put, List.setIfInBounds_toArray, List.set_cons_zero, List.set_cons_succ]
          refine wpAnyH_ready (rs := [5]) (by kernel_rfl) (by simp) (ready_cons rfl (by rfl) (fun K hK => ?_) AllReadyH.nil)
          · go_simp
            refine (dm_z (rn.zs HSN.out) (hB.to HB) HQ0.out HSN.out).mono ?_
            rintro e V ⟨A3, c3, A4, c4, rfl, z1, z2, e1, e2, e3, e4, bb⟩
            have r1 : Zc V (.bool (decide (-p / q < 0))) (.slice A3 (dig b32 (-p / q).natAbs).length c3) (-p / q) := ⟨A3, c3, rfl, rfl, z1, e1, e2⟩
            have r2 : Zc V (.bool (decide (-p % q < 0))) (.slice A4 (dig b32 (-p % q).natAbs).length c4) (-p % q) := ⟨A4, c4, rfl, rfl, z2, e3, e4⟩
            replace HB := HB.trans (bb.mono HB.size)
            replace t1 := t1.to bb
            replace t2 := t2.to bb
            refine hK.out _ _ HB ?_
            clear hK K bb rn z1 z2 e1 e2 e3 e4
            refine ready_take (i := 6) (v := ?_) rfl (by kernel_rfl) (by kernel_rfl) (by kernel_rfl) (by rfl) ?_ HB ?_; rotate_left; (focus (intro w' _; go_simp; try with_reducible rfl)); simp only [Act.put, List.setIfInBounds_toArray, List.set_cons_zero, List.set_cons_succ]
            refine ready_take (i := 7) (v := ?_) rfl (by kernel_rfl) (by kernel_rfl) (by kernel_rfl) (by rfl) ?_ HB ?_; rotate_left; (focus (intro w' _; go_simp; try with_reducible rfl)); simp only [Act.put, List.setIfInBounds_toArray, List.set_cons_zero, List.set_cons_succ]
            refine ready_take (i := 8) (v := ?_) rfl (by kernel_rfl) (by kernel_rfl) (by kernel_rfl) (by rfl) ?_ HB ?_; rotate_left; (focus (intro w' _; go_simp; try with_reducible rfl)); simp only [Act.put, List.setIfInBounds_toArray, List.set_cons_zero, List.set_cons_succ]
            refine ready_take (i := 9) (v := ?_) rfl (by kernel_rfl) (by kernel_rfl) (by kernel_rfl) (by rfl) ?_ HB ?_; rotate_left; (focus (intro w' _; go_simp; try with_reducible rfl)); simp only [Act.put, List.setIfInBounds_toArray, List.set_cons_zero, List.set_cons_succ]
            refine wpAnyH_ready (rs := [12]) (by kernel_rfl) (by simp) (ready_cons rfl (by rfl) (fun K hK => ?_) AllReadyH.nil)
            · refine wp_store_two (by rfl) (by rfl) t1 Fs.nil r1.fs (fun V u kp => ?_)
              replace t2 := kp.two _ _ _ (Ne.symm ne) t2
              replace r1 := kp.zc _ _ _ r1
              replace r2 := kp.zc _ _ _ r2
              replace HB := kp.bel _ _ HB b1
              clear t1
              have t1 := u
              refine hK.out _ _ HB ?_
              clear hK K kp u
              simp only [Act.put, List.setIfInBounds_toArray, List.set_cons_zero, List.set_cons_succ]
              refine wpAnyH_ready (rs := [13]) (by kernel_rfl) (by simp) (ready_cons rfl (by rfl) (fun K hK => ?_) AllReadyH.nil)
              · refine wp_store_two (by rfl) (by rfl) t2 Fs.nil r2.fs (fun V u kp => ?_)
                replace t1 := kp.two _ _ _ ne t1
                replace r1 := kp.zc _ _ _ r1
                replace r2 := kp.zc _ _ _ r2
                replace HB := kp.bel _ _ HB b2
                clear t2
                have t2 := u
                refine hK.out _ _ HB ?_
                clear hK K kp u
                simp only [Act.put, List.setIfInBounds_toArray, List.set_cons_zero, List.set_cons_succ]
                refine ready_take (i := 14) (v := ?_) rfl (by kernel_rfl) (by kernel_rfl) (by kernel_rfl) (by rfl) ?_ HB ?_; rotate_left; (focus (intro w' _; go_simp; try with_reducible rfl)); simp only [Act.put, List.setIfInBounds_toArray, List.set_cons_zero, List.set_cons_succ]
                exact wpAnyH_done (by kernel_rfl) ⟨rfl, g1, _, _, _, _, _, _, _, _, _, _, _, _, _, _, by rfl, ⟨t1, r1⟩, HB⟩ _
      · refine wp_alloc_two (fun g2 V t2 bb hg => ?_)
        have b2 := Nat.le_trans HB.size hg
        replace HB := HB.trans (bb.mono HB.size)
        replace rn := rn.to bb
        refine hK.out _ _ HB ?_
        clear hK K bb hg
        simp only [Act.put, List.setIfInBounds_toArray, List.set_cons_zero, List.set_cons_succ]
        refine wpAnyH_ready (rs := [5, 10]) (by kernel_rfl) (by simp) (ready_cons rfl (by rfl) (fun K hK => ?_) (ready_cons rfl (by rfl) (fun K hK => ?_) AllReadyH.nil))
        · go_simp
          refine (dm_z (rn.zs HSN.out) (hB.to HB) HQ0.out HSN.out).mono ?_
          rintro e V ⟨A3, c3, A4, c4, rfl, z1, z2, e1, e2, e3, e4, bb⟩
          have r1 : Zc V (.bool (decide (-p / q < 0))) (.slice A3 (dig b32 (-p / q).natAbs).length c3) (-p / q) := ⟨A3, c3, rfl, rfl, z1, e1, e2⟩
          have r2 : Zc V (.bool (decide (-p % q < 0))) (.slice A4 (dig b32 (-p % q).natAbs).length c4) (-p % q) := ⟨A4, c4, rfl, rfl, z2, e3, e4⟩
          replace HB := HB.trans (bb.mono HB.size)
          replace t2 := t2.to bb
          refine hK.out _ _ HB ?_
          clear hK K bb rn z1 z2 e1 e2 e3 e4
          refine ready_take (i := 6) (v := ?_) rfl (by kernel_rfl) (by kernel_rfl) (by kernel_rfl) (by rfl) ?_ HB ?_; rotate_left; (focus (intro w' _; go_simp; try with_reducible rfl)); simp only [Act.put, List.setIfInBounds_toArray, List.set_cons_zero, List.set_cons_succ]
          refine ready_take (i := 7) (v := ?_) rfl (by kernel_rfl) (by kernel_rfl) (by kernel_rfl) (by rfl) ?_ HB ?_; rotate_left; (focus (intro w' _; go_simp; try with_reducible rfl)); simp only [Act.put, List.setIfInBounds_toArray, List.set_cons_zero, List.set_cons_succ]
          refine ready_take (i := 8) (v := ?_) rfl (by kernel_rfl) (by kernel_rfl) (by kernel_rfl) (by rfl) ?_ HB ?_; rotate_left; (focus (intro w' _; go_simp; try with_reducible rfl)); simp only [Act.put, List.setIfInBounds_toArray, List.set_cons_zero, List.set_cons_succ]
          refine ready_take (i := 9) (v := ?_) rfl (by kernel_rfl) (by kernel_rfl) (by kernel_rfl) (by rfl) ?_ HB ?_; rotate_left; (focus (intro w' _; go_simp; try with_reducible rfl)); simp only [Act.put, List.setIfInBounds_toArray, List.set_cons_zero, List.set_cons_succ]
          refine wpAnyH_ready (rs := [10]) (by kernel_rfl) (by simp) (ready_cons rfl (by rfl) (fun K hK => ?_) AllReadyH.nil)
          · refine wp_alloc_two (fun g1 V t1 bb hg => ?_)
            have b1 := Nat.le_trans HB.size hg
            replace HB := HB.trans (bb.mono HB.size)
            have ne : g1 ≠ g2 := Nat.ne_of_gt (Nat.lt_of_lt_of_le t2.lt hg)
            replace t2 := t2.to bb
            replace r1 := r1.to bb
            replace r2 := r2.to bb
            refine hK.out _ _ HB ?_
            clear hK K bb hg
            simp only [Act.put, List.setIfInBounds_toArray, List.set_cons_zero, List.set_cons_succ]
            refine wpAnyH_ready (rs := [12]) (by kernel_rfl) (by simp) (ready_cons rfl (by rfl) (fun K hK => ?_) AllReadyH.nil)
            · refine wp_store_two (by rfl) (by rfl) t1 Fs.nil r1.fs (fun V u kp => ?_)
              replace t2 := kp.two _ _ _ (Ne.symm ne) t2
              replace r1 := kp.zc _ _ _ r1
              replace r2 := kp.zc _ _ _ r2
              replace HB := kp.bel _ _ HB b1
              clear t1
              have t1 := u
              refine hK.out _ _ HB ?_
              clear hK K kp u
              simp only [Act.put, List.setIfInBounds_toArray, List.set_cons_zero, List.set_cons_succ]
              refine wpAnyH_ready (rs := [13]) (by kernel_rfl) (by simp) (ready_cons rfl (by rfl) (fun K hK => ?_) AllReadyH.nil)
              · refine wp_store_two (by rfl) (by rfl) t2 Fs.nil r2.fs (fun V u kp => ?_)
                replace t1 := kp.two _ _ _ ne t1
                replace r1 := kp.zc _ _ _ r1
                replace r2 := kp.zc _ _ _ r2
                replace HB := kp.bel _ _ HB b2
                clear t2
                have t2 := u
                refine hK.out _ _ HB ?_
                clear hK K kp u
                simp only [Act.put, List.setIfInBounds_toArray, List.set_cons_zero, List.set_cons_succ]
                refine ready_take (i := 14) (v := ?_) rfl (by kernel_rfl) (by kernel_rfl) (by kernel_rfl) (by rfl) ?_ HB ?_; rotate_left; (focus (intro w' _; go_simp; try with_reducible rfl)); simp only [Act.put, List.setIfInBounds_toArray, List.set_cons_zero, List.set_cons_succ]
                exact wpAnyH_done (by kernel_rfl) ⟨rfl, g1, _, _, _, _, _, _, _, _, _, _, _, _, _, _, by rfl, ⟨t1, r1⟩, HB⟩ _
        · refine wp_alloc_two (fun g1 V t1 bb hg => ?_)
          have b1 := Nat.le_trans HB.size hg
          replace HB := HB.trans (bb.mono HB.size)
          have ne : g1 ≠ g2 := Nat.ne_of_gt (Nat.lt_of_lt_of_le t2.lt hg)
          replace t2 := t2.to bb
          replace rn := rn.to bb
          refine hK.out _ _ HB ?_
          clear hK K bb hg
          simp only [Act.put, List.setIfInBounds_toArray, List.set_cons_zero, List.set_cons_succ]
          refine wpAnyH_ready (rs := [5]) (by kernel_rfl) (by simp) (ready_cons rfl (by rfl) (fun K hK => ?_) AllReadyH.nil)
          · go_simp
            refine (dm_z (rn.zs HSN.out) (hB.to HB) HQ0.out HSN.out).mono ?_
            rintro e V ⟨A3, c3, A4, c4, rfl, z1, z2, e1, e2, e3, e4, bb⟩
            have r1 : Zc V (.bool (decide (-p / q < 0))) (.slice A3 (dig b32 (-p / q).natAbs).length c3) (-p / q) := ⟨A3, c3, rfl, rfl, z1, e1, e2⟩
            have r2 : Zc V (.bool (decide (-p % q < 0))) (.slice A4 (dig b32 (-p % q).natAbs).length c4) (-p % q) := ⟨A4, c4, rfl, rfl, z2, e3, e4⟩
            replace HB := HB.trans (bb.mono HB.size)
            replace t1 := t1.to bb
            replace t2 := t2.to bb
            refine hK.out _ _ HB ?_
            clear hK K bb rn z1 z2 e1 e2 e3 e4
            refine ready_take (i := 6) (v := ?_) rfl (by kernel_rfl) (by kernel_rfl) (by kernel_rfl) (by rfl) ?_ HB ?_; rotate_left; (focus (intro w' _; go_simp; try with_reducible rfl)); simp only [Act.put, List.setIfInBounds_toArray, List.set_cons_zero, List.set_cons_succ]
            refine ready_take (i := 7) (v := ?_) rfl (by kernel_rfl) (by kernel_rfl) (by kernel_rfl) (by rfl) ?_ HB ?_; rotate_left; (focus (intro w' _; go_simp; try with_reducible rfl)); simp only [Act.put, List.setIfInBounds_toArray, List.set_cons_zero, List.set_cons_succ]
            refine ready_take (i := 8) (v := ?_) rfl (by kernel_rfl) (by kernel_rfl) (by kernel_rfl) (by rfl) ?_ HB ?_; rotate_left; (focus (intro w' _; go_simp; try with_reducible rfl)); simp only [Act.put, List.setIfInBounds_toArray, List.set_cons_zero, List.set_cons_succ]
            refine ready_take (i := 9) (v := ?_) rfl (by kernel_rfl) (by kernel_rfl) (by kernel_rfl) (by rfl) ?_ HB ?_; rotate_left; (focus (intro w' _; go_simp; try with_reducible rfl)); simp only [Act.put, List.setIfInBounds_toArray, List.set_cons_zero, List.set_cons_succ]
            refine wpAnyH_ready (rs := [12]) (by kernel_rfl) (by simp) (ready_cons rfl (by rfl) (fun K hK => ?_) AllReadyH.nil)
            · refine wp_store_two (by rfl) (by rfl) t1 Fs.nil r1.fs (fun V u kp => ?_)
              replace t2 := kp.two _ _ _ (Ne.symm ne) t2
              replace r1 := kp.zc _ _ _ r1
              replace r2 := kp.zc _ _ _ r2
              replace HB := kp.bel _ _ HB b1
              clear t1
              have t1 := u
              refine hK.out _ _ HB ?_
              clear hK K kp u
              simp only [Act.put, List.setIfInBounds_toArray, List.set_cons_zero, List.set_cons_succ]
              refine wpAnyH_ready (rs := [13]) (by kernel_rfl) (by simp) (ready_cons rfl (by rfl) (fun K hK => ?_) AllReadyH.nil)
              · refine wp_store_two (by rfl) (by rfl) t2 Fs.nil r2.fs (fun V u kp => ?_)
                replace t1 := kp.two _ _ _ ne t1
                replace r1 := kp.zc _ _ _ r1
                replace r2 := kp.zc _ _ _ r2
                replace HB := kp.bel _ _ HB b2
                clear t2
                have t2 := u
                refine hK.out _ _ HB ?_
                clear hK K kp u
                simp only [Act.put, List.setIfInBounds_toArray, List.set_cons_zero, List.set_cons_succ]
                refine ready_take (i := 14) (v := ?_) rfl (by kernel_rfl) (by kernel_rfl) (by kernel_rfl) (by rfl) ?_ HB ?_; rotate_left; (focus (intro w' _; go_simp; try with_reducible rfl)); simp only [Act.put, List.setIfInBounds_toArray, List.set_cons_zero, List.set_cons_succ]
                exact wpAnyH_done (by kernel_rfl) ⟨rfl, g1, _, _, _, _, _, _, _, _, _, _, _, _, _, _, by rfl, ⟨t1, r1⟩, HB⟩ _
    · refine wp_alloc_two (fun g1 V t1 bb hg => ?_)
      have b1 := Nat.le_trans HB.size hg
      replace HB := HB.trans (bb.mono HB.size)
      refine hK.out _ _ HB ?_
      clear hK K bb hg
      simp only [Act.put, List.setIfInBounds_toArray, List.set_cons_zero, List.set_cons_succ]
      refine wpAnyH_ready (rs := [2, 11]) (by kernel_rfl) (by simp) (ready_cons rfl (by rfl) (fun K hK => ?_) (ready_cons rfl (by rfl) (fun K hK => ?_) AllReadyH.nil))
      · go_simp
        refine (neg_z (hA.to HB).zi).mono ?_
        rintro e V ⟨xn, yn, rfl, rn, bb⟩
        replace HB := HB.trans (bb.mono HB.size)
        replace t1 := t1.to bb
        refine hK.out _ _ HB ?_
        clear hK K bb
        refine wpAnyH_ready (rs := [5, 11]) (by kernel_rfl) (by simp) (ready_cons rfl (by rfl) (fun K hK => ?_) (ready_cons rfl (by rfl) (fun K hK => ?_) AllReadyH.nil))
        · go_simp
          refine (dm_z (rn.zs HSN.out) (hB.to HB) HQ0.out HSN.out).mono ?_
          rintro e V ⟨A3, c3, A4, c4, rfl, z1, z2, e1, e2, e3, e4, bb⟩
          have r1 : Zc V (.bool (decide (-p / q < 0))) (.slice A3 (dig b32 (-p / q).natAbs).length c3) (-p / q) := ⟨A3, c3, rfl, rfl, z1, e1, e2⟩
          have r2 : Zc V (.bool (decide (-p % q < 0))) (.slice A4 (dig b32 (-p % q).natAbs).length c4) (-p % q) := ⟨A4, c4, rfl, rfl, z2, e3, e4⟩
          replace HB := HB.trans (bb.mono HB.size)
          replace t1 := t1.to bb
          refine hK.out _ _ HB ?_
          clear hK K bb rn z1 z2 e1 e2 e3 e4
          refine ready_take (i := 6) (v := ?_) rfl (by kernel_rfl) (by kernel_rfl) (by kernel_rfl) (by rfl) ?_ HB ?_; rotate_left; (focus (intro w' _; go_simp; try with_reducible rfl)); simp only [Act.put, List.setIfInBounds_toArray, List.set_cons_zero, List.set_cons_succ]
          refine ready_take (i := 7) (v := ?_) rfl (by kernel_rfl) (by kernel_rfl) (by kernel_rfl) (by rfl) ?_ HB ?_; rotate_left; (focus (intro w' _; go_simp; try with_reducible rfl)); simp only [Act.put, List.setIfInBounds_toArray, List.set_cons_zero, List.set_cons_succ]
          refine ready_take (i := 8) (v := ?_) rfl (by kernel_rfl) (by kernel_rfl) (by kernel_rfl) (by rfl) ?_ HB ?_; rotate_left; (focus (intro w' _; go_simp; try with_reducible rfl)); simp only [Act.put, List.setIfInBounds_toArray, List.set_cons_zero, List.set_cons_succ]
          refine ready_take (i := 9) (v := ?_) rfl (by kernel_rfl) (by kernel_rfl) (by kernel_rfl) (by rfl) ?_ HB ?_; rotate_left; (focus (intro w' _; go_simp; try with_reducible rfl)); simp only [Act.put, List.setIfInBounds_toArray, List.set_cons_zero, List.set_cons_succ]
          refine wpAnyH_ready (rs := [11]) (by kernel_rfl) (by simp) (ready_cons rfl (by rfl) (fun K hK => ?_) AllReadyH.nil)
          · refine wp_alloc_two (fun g2 V t2 bb hg => ?_)
            have b2 := Nat.le_trans HB.size hg
            replace HB := HB.trans (bb.mono HB.size)
            have ne : g1 ≠ g2 := Nat.ne_of_lt (Nat.lt_of_lt_of_le t1.lt hg)
            replace t1 := t1.to bb
            replace r1 := r1.to bb
            replace r2 := r2.to bb
            refine hK.out _ _ HB ?_
            clear hK K bb hg
            simp only [Act.put, List.setIfInBounds_toArray, List.set_cons_zero, List.set_cons_succ]
            refine wpAnyH_ready (rs := [12]) (by kernel_rfl) (by simp) (ready_cons rfl (by rfl) (fun K hK => ?_) AllReadyH.nil)
            · refine wp_store_two (by rfl) (by rfl) t1 Fs.nil r1.fs (fun V u kp => ?_)
              replace t2 := kp.two _ _ _ (Ne.symm ne) t2
              replace r1 := kp.zc _ _ _ r1
              replace r2 := kp.zc _ _ _ r2
              replace HB := kp.bel _ _ HB b1
              clear t1
              have t1 := u
              refine hK.out _ _ HB ?_
              clear hK K kp u
              simp only [Act.put, List.setIfInBounds_toArray, List.set_cons_zero, List.set_cons_succ]
              refine wpAnyH_ready (rs := [13]) (by kernel_rfl) (by simp) (ready_cons rfl (by rfl) (fun K hK => ?_) AllReadyH.nil)
              · refine wp_store_two (by rfl) (by rfl) t2 Fs.nil r2.fs (fun V u kp => ?_)
                replace t1 := kp.two _ _ _ ne t1
                replace r1 := kp.zc _ _ _ r1
                replace r2 := kp.zc _ _ _ r2
                replace HB := kp.bel _ _ HB b2
                clear t2
                have t2 := u
                refine hK.out _ _ HB ?_
                clear hK K kp u
                simp only [Act.put, List.setIfInBounds_toArray, List.set_cons_zero, List.set_cons_succ]
                refine ready_take (i := 14) (v := ?_) rfl (by kernel_rfl) (by kernel_rfl) (by kernel_rfl) (by rfl) ?_ HB ?_; rotate_left; (focus (intro w' _; go_simp; try with_reducible rfl)); simp only [Act.put, List.setIfInBounds_toArray, List.set_cons_zero, List.set_cons_succ]
                exact wpAnyH_done (by kernel_rfl) ⟨rfl, g1, _, _, _, _, _, _, _, _, _, _, _, _, _, _, by rfl, ⟨t1, r1⟩, HB⟩ _
        · refine wp_alloc_two (fun g2 V t2 bb hg => ?_)
          have b2 := Nat.le_trans HB.size hg
          replace HB := HB.trans (bb.mono HB.size)
          have ne : g1 ≠ g2 := Nat.ne_of_lt (Nat.lt_of_lt_of_le t1.lt hg)
          replace t1 := t1.to bb
          replace rn := rn.to bb
          refine hK.out _ _ HB ?_
          clear hK K bb hg
          simp only [Act.put, List.setIfInBounds_toArray, List.set_cons_zero, List.set_cons_succ]
          refine wpAnyH_ready (rs := [5]) (by kernel_rfl) (by simp) (ready_cons rfl (by rfl) (fun K hK => ?_) AllReadyH.nil)
          · go_simp
            refine (dm_z (rn.zs HSN.out) (hB.to HB) HQ0.out HSN.out).mono ?_
            rintro e V ⟨A3, c3, A4, c4, rfl, z1, z2, e1, e2, e3, e4, bb⟩
            have r1 : Zc V (.bool (decide (-p / q < 0))) (.slice A3 (dig b32 (-p / q).natAbs).length c3) (-p / q) := ⟨A3, c3, rfl, rfl, z1, e1, e2⟩
            have r2 : Zc V (.bool (decide (-p % q < 0))) (.slice A4 (dig b32 (-p % q).natAbs).length c4) (-p % q) := ⟨A4, c4, rfl, rfl, z2, e3, e4⟩
            replace HB := HB.trans (bb.mono HB.size)
            replace t1 := t1.to bb
            replace t2 := t2.to bb
            refine hK.out _ _ HB ?_
            clear hK K bb rn z1 z2 e1 e2 e3 e4
            refine ready_take (i := 6) (v := ?_) rfl (by kernel_rfl) (by kernel_rfl) (by kernel_rfl) (by rfl) ?_ HB ?_; rotate_left; (focus (intro w' _; go_simp; try with_reducible rfl)); simp only [Act.put, List.setIfInBounds_toArray, List.set_cons_zero, List.set_cons_succ]
            refine ready_take (i := 7) (v := ?_) rfl (by kernel_rfl) (by kernel_rfl) (by kernel_rfl) (by rfl) ?_ HB ?_; rotate_left; (focus (intro w' _; go_simp; try with_reducible rfl)); simp only [Act.put, List.setIfInBounds_toArray, List.set_cons_zero, List.set_cons_succ]
            refine ready_take (i := 8) (v := ?_) rfl (by kernel_rfl) (by kernel_rfl) (by kernel_rfl) (by rfl) ?_ HB ?_; rotate_left; (focus (intro w' _; go_simp; try with_reducible rfl)); simp only [Act.put, List.setIfInBounds_toArray, List.set_cons_zero, List.set_cons_succ]
            refine ready_take (i := 9) (v := ?_) rfl (by kernel_rfl) (by kernel_rfl) (by kernel_rfl) (by rfl) ?_ HB ?_; rotate_left; (focus (intro w' _; go_simp; try with_reducible rfl)); simp only [Act.put, List.setIfInBounds_toArray, List.set_cons_zero, List.set_cons_succ]
            refine wpAnyH_ready (rs := [12]) (by kernel_rfl) (by simp) (ready_cons rfl (by rfl) (fun K hK => ?_) AllReadyH.nil)
            · refine wp_store_two (by rfl) (by rfl) t1 Fs.nil r1.fs (fun V u kp => ?_)
              replace t2 := kp.two _ _ _ (Ne.symm ne) t2
              replace r1 := kp.zc _ _ _ r1
              replace r2 := kp.zc _ _ _ r2
              replace HB := kp.bel _ _ HB b1
              clear t1
              have t1 := u
              refine hK.out _ _ HB ?_
              clear hK K kp u
              simp only [Act.put, List.setIfInBounds_toArray, List.set_cons_zero, List.set_cons_succ]
              refine wpAnyH_ready (rs := [13]) (by kernel_rfl) (by simp) (ready_cons rfl (by rfl) (fun K hK => ?_) AllReadyH.nil)
              · refine wp_store_two (by rfl) (by rfl) t2 Fs.nil r2.fs (fun V u kp => ?_)
                replace t1 := kp.two _ _ _ ne t1
                replace r1 := kp.zc _ _ _ r1
                replace r2 := kp.zc _ _ _ r2
                replace HB := kp.bel _ _ HB b2
                clear t2
                have t2 := u
                refine hK.out _ _ HB ?_
                clear hK K kp u
                simp only [Act.put, List.setIfInBounds_toArray, List.set_cons_zero, List.set_cons_succ]
                refine ready_take (i := 14) (v := ?_) rfl (by kernel_rfl) (by kernel_rfl) (by kernel_rfl) (by rfl) ?_ HB ?_; rotate_left; (focus (intro w' _; go_simp; try with_reducible rfl)); simp only [Act.put, List.setIfInBounds_toArray, List.set_cons_zero, List.set_cons_succ]
                exact wpAnyH_done (by kernel_rfl) ⟨rfl, g1, _, _, _, _, _, _, _, _, _, _, _, _, _, _, by rfl, ⟨t1, r1⟩, HB⟩ _
      · refine wp_alloc_two (fun g2 V t2 bb hg => ?_)
        have b2 := Nat.le_trans HB.size hg
        replace HB := HB.trans (bb.mono HB.size)
        have ne : g1 ≠ g2 := Nat.ne_of_lt (Nat.lt_of_lt_of_le t1.lt hg)
        replace t1 := t1.to bb
        refine hK.out _ _ HB ?_
        clear hK K bb hg
        simp only [Act.put, List.setIfInBounds_toArray, List.set_cons_zero, List.set_cons_succ]
        refine wpAnyH_ready (rs := [2]) (by kernel_rfl) (by simp) (ready_cons rfl (by rfl) (fun K hK => ?_) AllReadyH.nil)
        · go_simp
          refine (neg_z (hA.to HB).zi).mono ?_
          rintro e V ⟨xn, yn, rfl, rn, bb⟩
          replace HB := HB.trans (bb.mono HB.size)
          replace t1 := t1.to bb
          replace t2 := t2.to bb
          refine hK.out _ _ HB ?_
          clear hK K bb
          refine wpAnyH_ready (rs := [5]) (by kernel_rfl) (by simp) (ready_cons rfl (by rfl) (fun K hK => ?_) AllReadyH.nil)
          · go_simp
            refine (dm_z (rn.zs HSN.out) (hB.to HB) HQ0.out HSN.out).mono ?_
            rintro e V ⟨A3, c3, A4, c4, rfl, z1, z2, e1, e2, e3, e4, bb⟩
            have r1 : Zc V (.bool (decide (-p / q < 0))) (.slice A3 (dig b32 (-p / q).natAbs).length c3) (-p / q) := ⟨A3, c3, rfl, rfl, z1, e1, e2⟩
            have r2 : Zc V (.bool (decide (-p % q < 0))) (.slice A4 (dig b32 (-p % q).natAbs).length c4) (-p % q) := ⟨A4, c4, rfl, rfl, z2, e3, e4⟩
            replace HB := HB.trans (bb.mono HB.size)
            replace t1 := t1.to bb
            replace t2 := t2.to bb
            refine hK.out _ _ HB ?_
            clear hK K bb rn z1 z2 e1 e2 e3 e4
            refine ready_take (i := 6) (v := ?_) rfl (by kernel_rfl) (by kernel_rfl) (by kernel_rfl) (by rfl) ?_ HB ?_; rotate_left; (focus (intro w' _; go_simp; try with_reducible rfl)); simp only [Act.put, List.setIfInBounds_toArray, List.set_cons_zero, List.set_cons_succ]
            refine ready_take (i := 7) (v := ?_) rfl (by kernel_rfl) (by kernel_rfl) (by kernel_rfl) (by rfl) ?_ HB ?_; rotate_left; (focus (intro w' _; go_simp; try with_reducible rfl)); simp only [Act.put, List.setIfInBounds_toArray, List.set_cons_zero, List.set_cons_succ]
            refine ready_take (i := 8) (v := ?_) rfl (by kernel_rfl) (by kernel_rfl) (by kernel_rfl) (by rfl) ?_ HB ?_; rotate_left; (focus (intro w' _; go_simp; try with_reducible rfl)); simp only [Act.put, List.setIfInBounds_toArray, List.set_cons_zero, List.set_cons_succ]
            refine ready_take (i := 9) (v := ?_) rfl (by kernel_rfl) (by kernel_rfl) (by kernel_rfl) (by rfl) ?_ HB ?_; rotate_left; (focus (intro w' _; go_simp; try with_reducible rfl)); simp only [Act.put, List.setIfInBounds_toArray, List.set_cons_zero, List.set_cons_succ]
            refine wpAnyH_ready (rs := [12]) (by kernel_rfl) (by simp) (ready_cons rfl (by rfl) (fun K hK => ?_) AllReadyH.nil)
            · refine wp_store_two (by rfl) (by rfl) t1 Fs.nil r1.fs (fun V u kp => ?_)
              replace t2 := kp.two _ _ _ (Ne.symm ne) t2
              replace r1 := kp.zc _ _ _ r1
              replace r2 := kp.zc _ _ _ r2
              replace HB := kp.bel _ _ HB b1
              clear t1
              have t1 := u
              refine hK.out _ _ HB ?_
              clear hK K kp u
              simp only [Act.put, List.setIfInBounds_toArray, List.set_cons_zero, List.set_cons_succ]
              refine wpAnyH_ready (rs := [13]) (by kernel_rfl) (by simp) (ready_cons rfl (by rfl) (fun K hK => ?_) AllReadyH.nil)
              · refine wp_store_two (by rfl) (by rfl) t2 Fs.nil r2.fs (fun V u kp => ?_)
                replace t1 := kp.two _ _ _ ne t1
                replace r1 := kp.zc _ _ _ r1
                replace r2 := kp.zc _ _ _ r2
                replace HB := kp.bel _ _ HB b2
                clear t2
                have t2 := u
                refine hK.out _ _ HB ?_
                clear hK K kp u
                simp only [Act.put, List.setIfInBounds_toArray, List.set_cons_zero, List.set_cons_succ]
                refine ready_take (i := 14) (v := ?_) rfl (by kernel_rfl) (by kernel_rfl) (by kernel_rfl) (by rfl) ?_ HB ?_; rotate_left; (focus (intro w' _; go_simp; try with_reducible rfl)); simp only [Act.put, List.setIfInBounds_toArray, List.set_cons_zero, List.set_cons_succ]
                exact wpAnyH_done (by kernel_rfl) ⟨rfl, g1, _, _, _, _, _, _, _, _, _, _, _, _, _, _, by rfl, ⟨t1, r1⟩, HB⟩ _
    · refine wp_alloc_two (fun g2 V t2 bb hg => ?_)
      have b2 := Nat.le_trans HB.size hg
      replace HB := HB.trans (bb.mono HB.size)
      refine hK.out _ _ HB ?_
      clear hK K bb hg
      simp only [Act.put, List.setIfInBounds_toArray, List.set_cons_zero, List.set_cons_succ]
      refine wpAnyH_ready (rs := [2, 10]) (by kernel_rfl) (by simp) (ready_cons rfl (by rfl) (fun K hK => ?_) (ready_cons rfl (by rfl) (fun K hK => ?_) AllReadyH.nil))
      · go_simp
        refine (neg_z (hA.to HB).zi).mono ?_
        rintro e V ⟨xn, yn, rfl, rn, bb⟩
        replace HB := HB.trans (bb.mono HB.size)
        replace t2 := t2.to bb
        refine hK.out _ _ HB ?_
        clear hK K bb
        refine wpAnyH_ready (rs := [5, 10]) (by kernel_rfl) (by simp) (ready_cons rfl (by rfl) (fun K hK => ?_) (ready_cons rfl (by rfl) (fun K hK => ?_) AllReadyH.nil))
        · go_simp
          refine (dm_z (rn.zs HSN.out) (hB.to HB) HQ0.out HSN.out).mono ?_
          rintro e V ⟨A3, c3, A4, c4, rfl, z1, z2, e1, e2, e3, e4, bb⟩
          have r1 : Zc V (.bool (decide (-p / q < 0))) (.slice A3 (dig b32 (-p / q).natAbs).length c3) (-p / q) := ⟨A3, c3, rfl, rfl, z1, e1, e2⟩
          have r2 : Zc V (.bool (decide (-p % q < 0))) (.slice A4 (dig b32 (-p % q).natAbs).length c4) (-p % q) := ⟨A4, c4, rfl, rfl, z2, e3, e4⟩
          replace HB := HB.trans (bb.mono HB.size)
          replace t2 := t2.to bb
          refine hK.out _ _ HB ?_
          clear hK K bb rn z1 z2 e1 e2 e3 e4
          refine ready_take (i := 6) (v := ?_) rfl (by kernel_rfl) (by kernel_rfl) (by kernel_rfl) (by rfl) ?_ HB ?_; rotate_left; (focus (intro w' _; go_simp; try with_reducible rfl)); simp only [Act.put, List.setIfInBounds_toArray, List.set_cons_zero, List.set_cons_succ]
          refine ready_take (i := 7) (v := ?_) rfl (by kernel_rfl) (by kernel_rfl) (by kernel_rfl) (by rfl) ?_ HB ?_; rotate_left; (focus (intro w' _; go_simp; try with_reducible rfl)); simp only [Act.put, List.setIfInBounds_toArray, List.set_cons_zero, List.set_cons_succ]
          refine ready_take (i := 8) (v := ?_) rfl (by kernel_rfl) (by kernel_rfl) (by kernel_rfl) (by rfl) ?_ HB ?_; rotate_left; (focus (intro w' _; go_simp; try with_reducible rfl)); simp only [Act.put, List.setIfInBounds_toArray, List.set_cons_zero, List.set_cons_succ]
          refine ready_take (i := 9) (v := ?_) rfl (by kernel_rfl) (by kernel_rfl) (by kernel_rfl) (by rfl) ?_ HB ?_; rotate_left; (focus (intro w' _; go_simp; try with_reducible rfl)); simp only [Act.put, List.setIfInBounds_toArray, List.set_cons_zero, List.set_cons_succ]
          refine wpAnyH_ready (rs := [10]) (by kernel_rfl) (by simp) (ready_cons rfl (by rfl) (fun K hK => ?_) AllReadyH.nil)
          · refine wp_alloc_two (fun g1 V t1 bb hg => ?_)
            have b1 := Nat.le_trans HB.size hg
            replace HB := HB.trans (bb.mono HB.size)
            have ne : g1 ≠ g2 := Nat.ne_of_gt (Nat.lt_of_lt_of_le t2.lt hg)
            replace t2 := t2.to bb
            replace r1 := r1.to bb
            replace r2 := r2.to bb
            refine hK.out _ _ HB ?_
            clear hK K bb hg
            simp only [Act.put, List.setIfInBounds_toArray, List.set_cons_zero, List.set_cons_succ]
            refine wpAnyH_ready (rs := [12]) (by kernel_rfl) (by simp) (ready_cons rfl (by rfl) (fun K hK => ?_) AllReadyH.nil)
            · refine wp_store_two (by rfl) (by rfl) t1 Fs.nil r1.fs (fun V u kp => ?_)
              replace t2 := kp.two _ _ _ (Ne.symm ne) t2
              replace r1 := kp.zc _ _ _ r1
              replace r2 := kp.zc _ _ _ r2
              replace HB := kp.bel _ _ HB b1
              clear t1
              have t1 := u
              refine hK.out _ _ HB ?_
              clear hK K kp u
              simp only [Act.put, List.setIfInBounds_toArray, List.set_cons_zero, List.set_cons_succ]
              refine wpAnyH_ready (rs := [13]) (by kernel_rfl) (by simp) (ready_cons rfl (by rfl) (fun K hK => ?_) AllReadyH.nil)
              · refine wp_store_two (by rfl) (by rfl) t2 Fs.nil r2.fs (fun V u kp => ?_)
                replace t1 := kp.two _ _ _ ne t1
                replace r1 := kp.zc _ _ _ r1
                replace r2 := kp.zc _ _ _ r2
                replace HB := kp.bel _ _ HB b2
                clear t2
                have t2 := u
                refine hK.out _ _ HB ?_
                clear hK K kp u
                simp only [Act.put, List.setIfInBounds_toArray, List.set_cons_zero, List.set_cons_succ]
                refine ready_take (i := 14) (v := ?_) rfl (by kernel_rfl) (by kernel_rfl) (by kernel_rfl) (by rfl) ?_ HB ?_; rotate_left; (focus (intro w' _; go_simp; try with_reducible rfl)); simp only [Act.put, List.setIfInBounds_toArray, List.set_cons_zero, List.set_cons_succ]
                exact wpAnyH_done (by kernel_rfl) ⟨rfl, g1, _, _, _, _, _, _, _, _, _, _, _, _, _, _, by rfl, ⟨t1, r1⟩, HB⟩ _
        · refine wp_alloc_two (fun g1 V t1 bb hg => ?_)
          have b1 := Nat.le_trans HB.size hg
          replace HB := HB.trans (bb.mono HB.size)
          have ne : g1 ≠ g2 := Nat.ne_of_gt (Nat.lt_of_lt_of_le t2.lt hg)
          replace t2 := t2.to bb
          replace rn := rn.to bb
          refine hK.out _ _ HB ?_
          clear hK K bb hg
          simp only [Act.put, List.setIfInBounds_toArray, List.set_cons_zero, List.set_cons_succ]
          refine wpAnyH_ready (rs := [5]) (by kernel_rfl) (by simp) (ready_cons rfl (by rfl) (fun K hK => ?_) AllReadyH.nil)
          · go_simp
            refine (dm_z (rn.zs HSN.out) (hB.to HB) HQ0.out HSN.out).mono ?_
            rintro e V ⟨A3, c3, A4, c4, rfl, z1, z2, e1, e2, e3, e4, bb⟩
            have r1 : Zc V (.bool (decide (-p / q < 0))) (.slice A3 (dig b32 (-p / q).natAbs).length c3) (-p / q) := ⟨A3, c3, rfl, rfl, z1, e1, e2⟩
            have r2 : Zc V (.bool (decide (-p % q < 0))) (.slice A4 (dig b32 (-p % q).natAbs).length c4) (-p % q) := ⟨A4, c4, rfl, rfl, z2, e3, e4⟩
            replace HB := HB.trans (bb.mono HB.size)
            replace t1 := t1.to bb
            replace t2 := t2.to bb
            refine hK.out _ _ HB ?_
            clear hK K bb rn z1 z2 e1 e2 e3 e4
            refine ready_take (i := 6) (v := ?_) rfl (by kernel_rfl) (by kernel_rfl) (by kernel_rfl) (by rfl) ?_ HB ?_; rotate_left; (focus (intro w' _; go_simp; try with_reducible rfl)); simp only [Act.put, List.setIfInBounds_toArray, List.set_cons_zero, List.set_cons_succ]
            refine ready_take (i := 7) (v := ?_) rfl (by kernel_rfl) (by kernel_rfl) (by kernel_rfl) (by rfl) ?_ HB ?_; rotate_left; (focus (intro w' _; go_simp; try with_reducible rfl)); simp only [Act.put, List.setIfInBounds_toArray, List.set_cons_zero, List.set_cons_succ]
            refine ready_take (i := 8) (v := ?_) rfl (by kernel_rfl) (by kernel_rfl) (by kernel_rfl) (by rfl) ?_ HB ?_; rotate_left; (focus (intro w' _; go_simp; try with_reducible rfl)); simp only [Act.put, List.setIfInBounds_toArray, List.set_cons_zero, List.set_cons_succ]
            refine ready_take (i := 9) (v := ?_) rfl (by kernel_rfl) (by kernel_rfl) (by kernel_rfl) (by rfl) ?_ HB ?_; rotate_left; (focus (intro w' _; go_simp; try with_reducible rfl)); simp only [Act.put, List.setIfInBounds_toArray, List.set_cons_zero, List.set_cons_succ]
            refine wpAnyH_ready (rs := [12]) (by kernel_rfl) (by simp) (ready_cons rfl (by rfl) (fun K hK => ?_) AllReadyH.nil)
            · refine wp_store_two (by rfl) (by rfl) t1 Fs.nil r1.fs (fun V u kp => ?_)
              replace t2 := kp.two _ _ _ (Ne.symm ne) t2
              replace r1 := kp.zc _ _ _ r1
              replace r2 := kp.zc _ _ _ r2
              replace HB := kp.bel _ _ HB b1
              clear t1
              have t1 := u
              refine hK.out _ _ HB ?_
              clear hK K kp u
              simp only [Act.put, List.setIfInBounds_toArray, List.set_cons_zero, List.set_cons_succ]
              refine wpAnyH_ready (rs := [13]) (by kernel_rfl) (by simp) (ready_cons rfl (by rfl) (fun K hK => ?_) AllReadyH.nil)
              · refine wp_store_two (by rfl) (by rfl) t2 Fs.nil r2.fs (fun V u kp => ?_)
                replace t1 := kp.two _ _ _ ne t1
                replace r1 := kp.zc _ _ _ r1
                replace r2 := kp.zc _ _ _ r2
                replace HB := kp.bel _ _ HB b2
                clear t2
                have t2 := u
                refine hK.out _ _ HB ?_
                clear hK K kp u
                simp only [Act.put, List.setIfInBounds_toArray, List.set_cons_zero, List.set_cons_succ]
                refine ready_take (i := 14) (v := ?_) rfl (by kernel_rfl) (by kernel_rfl) (by kernel_rfl) (by rfl) ?_ HB ?_; rotate_left; (focus (intro w' _; go_simp; try with_reducible rfl)); simp only [Act.put, List.setIfInBounds_toArray, List.set_cons_zero, List.set_cons_succ]
                exact wpAnyH_done (by kernel_rfl) ⟨rfl, g1, _, _, _, _, _, _, _, _, _, _, _, _, _, _, by rfl, ⟨t1, r1⟩, HB⟩ _
      · refine wp_alloc_two (fun g1 V t1 bb hg => ?_)
        have b1 := Nat.le_trans HB.size hg
        replace HB := HB.trans (bb.mono HB.size)
        have ne : g1 ≠ g2 := Nat.ne_of_gt (Nat.lt_of_lt_of_le t2.lt hg)
        replace t2 := t2.to bb
        refine hK.out _ _ HB ?_
        clear hK K bb hg
        simp only [Act.put, List.setIfInBounds_toArray, List.set_cons_zero, List.set_cons_succ]
        refine wpAnyH_ready (rs := [2]) (by kernel_rfl) (by simp) (ready_cons rfl (by rfl) (fun K hK => ?_) AllReadyH.nil)
        · go_simp
          refine (neg_z (hA.to HB).zi).mono ?_
          rintro e V ⟨xn, yn, rfl, rn, bb⟩
          replace HB := HB.trans (bb.mono HB.size)
          replace t1 := t1.to bb
          replace t2 := t2.to bb
          refine hK.out _ _ HB ?_
          clear hK K bb
          refine wpAnyH_ready (rs := [5]) (by kernel_rfl) (by simp) (ready_cons rfl (by rfl) (fun K hK => ?_) AllReadyH.nil)
          · go_simp
            refine (dm_z (rn.zs HSN.out) (hB.to HB) HQ0.out HSN.out).mono ?_
            rintro e V ⟨A3, c3, A4, c4, rfl, z1, z2, e1, e2, e3, e4, bb⟩
            have r1 : Zc V (.bool (decide (-p / q < 0))) (.slice A3 (dig b32 (-p / q).natAbs).length c3) (-p / q) := ⟨A3, c3, rfl, rfl, z1, e1, e2⟩
            have r2 : Zc V (.bool (decide (-p % q < 0))) (.slice A4 (dig b32 (-p % q).natAbs).length c4) (-p % q) := ⟨A4, c4, rfl, rfl, z2, e3, e4⟩
            replace HB := HB.trans (bb.mono HB.size)
            replace t1 := t1.to bb
            replace t2 := t2.to bb
            refine hK.out _ _ HB ?_
            clear hK K bb rn z1 z2 e1 e2 e3 e4
            refine ready_take (i := 6) (v := ?_) rfl (by kernel_rfl) (by kernel_rfl) (by kernel_rfl) (by rfl) ?_ HB ?_; rotate_left; (focus (intro w' _; go_simp; try with_reducible rfl)); simp only [Act.put, List.setIfInBounds_toArray, List.set_cons_zero, List.set_cons_succ]
            refine ready_take (i := 7) (v := ?_) rfl (by kernel_rfl) (by kernel_rfl) (by kernel_rfl) (by rfl) ?_ HB ?_; rotate_left; (focus (intro w' _; go_simp; try with_reducible rfl)); simp only [Act.put, List.setIfInBounds_toArray, List.set_cons_zero, List.set_cons_succ]
            refine ready_take (i := 8) (v := ?_) rfl (by kernel_rfl) (by kernel_rfl) (by kernel_rfl) (by rfl) ?_ HB ?_; rotate_left; (focus (intro w' _; go_simp; try with_reducible rfl)); simp only [Act.put, List.setIfInBounds_toArray, List.set_cons_zero, List.set_cons_succ]
            refine ready_take (i := 9) (v := ?_) rfl (by kernel_rfl) (by kernel_rfl) (by kernel_rfl) (by rfl) ?_ HB ?_; rotate_left; (focus (intro w' _; go_simp; try with_reducible rfl)); simp only [Act.put, List.setIfInBounds_toArray, List.set_cons_zero, List.set_cons_succ]
            refine wpAnyH_ready (rs := [12]) (by kernel_rfl) (by simp) (ready_cons rfl (by rfl) (fun K hK => ?_) AllReadyH.nil)
            · refine wp_store_two (by rfl) (by rfl) t1 Fs.nil r1.fs (fun V u kp => ?_)
              replace t2 := kp.two _ _ _ (Ne.symm ne) t2
              replace r1 := kp.zc _ _ _ r1
              replace r2 := kp.zc _ _ _ r2
              replace HB := kp.bel _ _ HB b1
              clear t1
              have t1 := u
              refine hK.out _ _ HB ?_
              clear hK K kp u
              simp only [Act.put, List.setIfInBounds_toArray, List.set_cons_zero, List.set_cons_succ]
              refine wpAnyH_ready (rs := [13]) (by kernel_rfl) (by simp) (ready_cons rfl (by rfl) (fun K hK => ?_) AllReadyH.nil)
              · refine wp_store_two (by rfl) (by rfl) t2 Fs.nil r2.fs (fun V u kp => ?_)
                replace t1 := kp.two _ _ _ ne t1
                replace r1 := kp.zc _ _ _ r1
                replace r2 := kp.zc _ _ _ r2
                replace HB := kp.bel _ _ HB b2
                clear t2
                have t2 := u
                refine hK.out _ _ HB ?_
                clear hK K kp u
                simp only [Act.put, List.setIfInBounds_toArray, List.set_cons_zero, List.set_cons_succ]
                refine ready_take (i := 14) (v := ?_) rfl (by kernel_rfl) (by kernel_rfl) (by kernel_rfl) (by rfl) ?_ HB ?_; rotate_left; (focus (intro w' _; go_simp; try with_reducible rfl)); simp only [Act.put, List.setIfInBounds_toArray, List.set_cons_zero, List.set_cons_succ]
                exact wpAnyH_done (by kernel_rfl) ⟨rfl, g1, _, _, _, _, _, _, _, _, _, _, _, _, _, _, by rfl, ⟨t1, r1⟩, HB⟩ _
  rintro v' V3 ⟨g1, x, y, u10, u11, u12, u13, u14, u15, u9, u16, u17, u18, u5, u6, rfl, C4, HB2⟩
  simp only [Act.put, List.setIfInBounds_toArray, List.set_cons_zero, List.set_cons_succ]
  replace tR := tR.to HB2
  replace HB := Lib.hid (HB.out.trans (HB2.mono HB.out.size))
  clear HB2 t3 hA hB
  have k0 := C4.two.c0
  have k1 := C4.two.c1
  have HSF : Hid (Sg (-p / q)) := by
    show Sg _
    have h := HSN.out
    have h1 := Int.natAbs_ediv_le_natAbs (-p) q
    unfold Sg at *
    omega
  go_wp2_with fail
  refine (neg_z (C4.zc.zs HSF.out).zi).mono ?_
  rintro e V4 ⟨xr, yr, rfl, rz, bb⟩
  replace tR := tR.to bb
  replace HB := Lib.hid (HB.out.trans (bb.mono HB.out.size))
  clear k0 k1 C4 bb
  obtain ⟨z, ez⟩ : ∃ z, Hid (-(-p / q) = z) := ⟨_, rfl⟩
  rw [ez.out] at rz
  have RZ := Lib.hid rz
  obtain ⟨A5, c5, rfl, rfl, -⟩ := rz
  obtain ⟨V5, eV, u, kp, _⟩ := pack2 tR Fs.nil (.bool (decide (z < 0))) (.slice A5 (dig b32 z.natAbs).length c5)
  obtain ⟨v0, v1, v2, v3, _⟩ := tR
  have EV := Lib.hid eV
  have KP := Lib.hid kp
  have U := Lib.hid u
  clear eV kp u
  go_wp2
  rw [EV.out]
  refine bodyPost_ret (v := .agg #[.bool (decide (z < 0)), .slice A5 (dig b32 z.natAbs).length c5]) (by simp [results, Tryz.f21, go_sem, U.out.c0, U.out.c1]) rfl ?_
  rw [HR.out, ez.out]
  exact ⟨_, _, rfl, KP.out.zc _ _ _ RZ.out, KP.out.bel _ _ HB.out (by omega)⟩
end Go.Proofs.YtgkfbhdaheoecaaGreat

namespace Go.Proofs.YtgkfbhdaheoecaaGreat
open Go.RowKit Go.Shelf

/-- The sign of a rational. -/
def sgnQ (r : Rat) : Int := sgn r.num
theorem canonical_q {w : World} {a1 a2 a3 a4 : Value} {r : Rat} {k : Nat} (h1 : Qi w a1 a2 a3 a4 r k) (hk : k <= 10000) : Calls Tryz.prog 11 #[.agg #[a1, a2, a3, a4]] w (QR w r) := by
  obtain ⟨p, q, z1, z2, rfl, s1, s2⟩ := h1
  exact canonical_z z1 z2 (s1.sg hk) (s2.sg hk)


set_option maxRecDepth 100000 in
theorem fromInt_q (n : Int) (n1 : -9223372036854775808 <= n) (n2 : n <= 9223372036854775807) (w : World) : Calls Tryz.prog 14 #[.int .i64 n] w (QR w (n : Rat)) := by
  obtain ⟨W0, hW0⟩ : ∃ W0, W0 = w.alloc (.cells #[.bool false, .slice none 0 0, .bool false, .slice none 0 0] 26) := ⟨_, rfl⟩
  have hbw : Below w.heap.size w W0 := by rw [hW0]; exact (Below.refl _ _).alloc (Nat.le_refl _) _
  have tR : Four W0 w.heap.size (.bool false) (.slice none 0 0) (.bool false) (.slice none 0 0) := by rw [hW0]; exact Four.new w _ _ _ _ _
  have HW0 := Lib.hid hW0
  have HB := Lib.hid hbw
  have HN := Lib.hid fun W => from_z n n1 n2 W
  clear hW0 hbw n1 n2
  go_enter Tryz.func14, Tryz.ntmps14
  go_wp2_with fail
  rw [<- HW0.out]
  refine (HN.out _).mono ?_
  rintro e V1 ⟨x1, x2, rfl, rn, bb⟩
  replace tR := tR.to bb
  replace HB := Lib.hid (HB.out.trans (bb.mono HB.out.size))
  clear bb HN HW0
  have rq : Qc V1 x1 x2 (.bool false) (.slice none 0 0) (n : Rat) := ⟨rn, zc_nil _⟩
  have RQ := Lib.hid rq
  obtain ⟨V9, eV, u, kp⟩ := pack4 tR Fq.nil x1 x2 (.bool false) (.slice none 0 0)
  obtain ⟨n1, A1, l1, m1, rfl, rfl⟩ := rq.fq.1
  obtain ⟨v0, v1, v2, v3, v4, v5, v6, v7, _⟩ := tR
  have EV := Lib.hid eV
  have KP := Lib.hid kp
  have U := Lib.hid u
  clear eV kp u rq rn
  go_wp2
  rw [EV.out]
  refine bodyPost_ret (v := .agg #[.bool n1, .slice A1 l1 m1, .bool false, .slice none 0 0]) (by simp [results, Tryz.f14, go_sem, U.out.c0, U.out.c1, U.out.c2, U.out.c3]) rfl ?_
  exact ⟨_, _, _, _, rfl, RQ.out.k4 KP.out, KP.out.bel _ _ HB.out (Nat.le_refl _)⟩

end Go.Proofs.YtgkfbhdaheoecaaGreat

namespace Go.Proofs.YtgkfbhdaheoecaaGreat
open Go.RowKit Go.Shelf

/-- The decimal representation of an integer. -/
def decZ (z : Int) : ByteArray := decS (decide (z < 0)) z.natAbs
theorem format_zc {w : World} {x y : Value} {z : Int} (h : Zc w x y z) (hs : Sg z) : Calls Tryz.prog 48 #[.agg #[x, y]] w fun e w' => e = .returned (.string (decZ z)) /\ Below w.heap.size w w' := by
  obtain ⟨A, c, rfl, rfl, h3, h4, h5⟩ := h
  have h := format_any (decide (z < 0)) (⟨h3, Dg_dig b32_one _, h4, h5, Nat.le_trans (dig_length_le b32_one hs.sm) (by decide)⟩ : Arg w A c (dig b32 z.natAbs))
  rw [val_dig b32_one] at h
  exact h

theorem format_int {w : World} {x1 y1 x2 y2 : Value} {p q : Int} (h1 : Zl w x1 y1 p) (h2 : Zl w x2 y2 q) (sp : Sg p) (sq : Sg q) (sn : Sg (rv p q).num) (sd : Sg ((rv p q).den : Int)) (hd : (rv p q).den = 1) :
    Calls Tryz.prog 24 #[.agg #[x1, y1, x2, y2]] w fun e w' => e = .returned (.string (decZ (rv p q).num)) /\ Below w.heap.size w w' := by
  obtain ⟨W0, hW0⟩ : ∃ W0, W0 = w.alloc (.cells #[x1, y1, x2, y2] 26) := ⟨_, rfl⟩
  have hbw : Below w.heap.size w W0 := by rw [hW0]; exact (Below.refl _ _).alloc (Nat.le_refl _) _
  have tA : Four W0 w.heap.size x1 y1 x2 y2 := by rw [hW0]; exact Four.new w _ _ _ _ _
  have HW0 := Lib.hid hW0
  have hA := h1.to hbw
  have hB := h2.to hbw
  have HB := Lib.hid hbw
  have HC := Lib.hid (canonical_z hA hB sp sq)
  obtain ⟨r, er⟩ : ∃ r, rv p q = r := ⟨_, rfl⟩
  rw [er] at HC sn sd hd
  rw [er]
  obtain ⟨s1, es1⟩ : ∃ s, Hid (decZ r.num = s) := ⟨_, rfl⟩
  rw [es1.out]
  have SN := Lib.hid sn
  have SD := Lib.hid sd
  have HD := Lib.hid hd
  clear h1 h2 hW0 hbw sp sq hA hB er sn sd hd
  go_enter Tryz.func24, Tryz.ntmps24
  go_wp2_with fail
  rw [<- HW0.out]
  have k0 := tA.c0
  have k1 := tA.c1
  have k2 := tA.c2
  have k3 := tA.c3
  go_wp2_with fail
  refine HC.out.mono ?_
  rintro e V1 ⟨a1, b1, c1, d1, rfl, rq, bb⟩
  replace HB := Lib.hid (HB.out.trans (bb.mono HB.out.size))
  clear k0 k1 k2 k3 bb tA HC
  have R1 := rq.1
  have R2 := rq.2
  clear rq
  obtain ⟨N, eN⟩ : ∃ N, Hid (r.num = N) := ⟨_, rfl⟩
  obtain ⟨D, eD⟩ : ∃ D : Int, Hid ((if r.den = 1 then 0 else (r.den : Int)) = D) := ⟨_, rfl⟩
  rw [eN.out] at R1 SN
  rw [eD.out] at R2
  have q1 := R1
  have q2 := R2
  obtain ⟨A1, m1, rfl, rfl, -⟩ := q1
  obtain ⟨A2, m2, rfl, rfl, -⟩ := q2
  rw [eN.out] at es1
  have HF1 := Lib.hid fun (V : World) (h : Below V1.heap.size V1 V) => format_zc (R1.to h) SN.out
  rw [es1.out] at HF1
  have hD0 : D = 0 := by rw [<- eD.out, if_pos HD.out]
  have hl : (dig b32 D.natAbs).length = 0 := by rw [hD0]; rfl
  obtain ⟨l1, e1⟩ : ∃ l, (dig b32 N.natAbs).length = l := ⟨_, rfl⟩
  obtain ⟨l2, e2⟩ : ∃ l, (dig b32 D.natAbs).length = l := ⟨_, rfl⟩
  rw [e2] at hl
  rw [e1] at HF1 ⊢
  rw [e2]
  clear R1 R2 eN eD hD0 e1 e2 HD
  subst hl
  have bb := one4_new V1 (.cells #[.bool (decide (N < 0)), .slice A1 l1 m1, .bool (decide (D < 0)), .slice A2 0 m2] 26)
  have t3 := Four.new V1 (.bool (decide (N < 0))) (.slice A1 l1 m1) (.bool (decide (D < 0))) (.slice A2 0 m2) 26
  have k0 := t3.c0
  have k1 := t3.c1
  have k2 := t3.c2
  have k3 := t3.c3
  go_wp2_with fail
  refine (HF1.out _ bb).mono ?_
  rintro e V2 ⟨rfl, b2⟩
  have HE := Lib.hid ((HB.out.trans (bb.mono HB.out.size)).trans (b2.mono (HB.out.trans (bb.mono HB.out.size)).size))
  clear k0 k1 k2 k3 t3 bb b2 HB
  go_wp2
  go_ret
  exact ⟨rfl, HE.out⟩
theorem format_frac {w : World} {x1 y1 x2 y2 : Value} {p q : Int} (h1 : Zl w x1 y1 p) (h2 : Zl w x2 y2 q) (sp : Sg p) (sq : Sg q) (sn : Sg (rv p q).num) (sd : Sg ((rv p q).den : Int)) (hd : (rv p q).den ≠ 1) (hsz : (decZ (rv p q).num).size + 1 + (decZ ((rv p q).den : Int)).size <= 9223372036854775807) :
    Calls Tryz.prog 24 #[.agg #[x1, y1, x2, y2]] w fun e w' => e = .returned (.string (decZ (rv p q).num ++ ⟨#[47]⟩ ++ decZ ((rv p q).den : Int))) /\ Below w.heap.size w w' := by
  obtain ⟨W0, hW0⟩ : ∃ W0, W0 = w.alloc (.cells #[x1, y1, x2, y2] 26) := ⟨_, rfl⟩
  have hbw : Below w.heap.size w W0 := by rw [hW0]; exact (Below.refl _ _).alloc (Nat.le_refl _) _
  have tA : Four W0 w.heap.size x1 y1 x2 y2 := by rw [hW0]; exact Four.new w _ _ _ _ _
  have HW0 := Lib.hid hW0
  have hA := h1.to hbw
  have hB := h2.to hbw
  have HB := Lib.hid hbw
  have HC := Lib.hid (canonical_z hA hB sp sq)
  obtain ⟨r, er⟩ : ∃ r, rv p q = r := ⟨_, rfl⟩
  rw [er] at HC sn sd hd hsz
  rw [er]
  obtain ⟨s1, es1⟩ : ∃ s, Hid (decZ r.num = s) := ⟨_, rfl⟩
  obtain ⟨s2, es2⟩ : ∃ s, Hid (decZ (r.den : Int) = s) := ⟨_, rfl⟩
  rw [es2.out]
  rw [es1.out]
  rw [es1.out, es2.out] at hsz
  have hz1 : ¬ 9223372036854775807 < s1.size + 1 := by omega
  have hz2 : ¬ 9223372036854775807 < s1.size + 1 + s2.size := by omega
  have SN := Lib.hid sn
  have SD := Lib.hid sd
  have HD := Lib.hid hd
  clear h1 h2 hW0 hbw sp sq hA hB er sn sd hd
  go_enter Tryz.func24, Tryz.ntmps24
  go_wp2_with fail
  rw [<- HW0.out]
  have k0 := tA.c0
  have k1 := tA.c1
  have k2 := tA.c2
  have k3 := tA.c3
  go_wp2_with fail
  refine HC.out.mono ?_
  rintro e V1 ⟨a1, b1, c1, d1, rfl, rq, bb⟩
  replace HB := Lib.hid (HB.out.trans (bb.mono HB.out.size))
  clear k0 k1 k2 k3 bb tA HC
  have R1 := rq.1
  have R2 := rq.2
  clear rq
  obtain ⟨N, eN⟩ : ∃ N, Hid (r.num = N) := ⟨_, rfl⟩
  obtain ⟨D, eD⟩ : ∃ D : Int, Hid ((if r.den = 1 then 0 else (r.den : Int)) = D) := ⟨_, rfl⟩
  rw [eN.out] at R1 SN
  rw [eD.out] at R2
  have q1 := R1
  have q2 := R2
  obtain ⟨A1, m1, rfl, rfl, -⟩ := q1
  obtain ⟨A2, m2, rfl, rfl, -⟩ := q2
  rw [eN.out] at es1
  have HF1 := Lib.hid fun (V : World) (h : Below V1.heap.size V1 V) => format_zc (R1.to h) SN.out
  rw [es1.out] at HF1
  have hD0 : D = (r.den : Int) := by rw [<- eD.out, if_neg HD.out]
  rw [<- hD0] at SD
  have HF2 := Lib.hid fun (V : World) (h : Below V1.heap.size V1 V) => format_zc (R2.to h) SD.out
  have hl : (dig b32 D.natAbs).length ≠ 0 := fun h => by
    have h1 := (dig_nil b32_one).1 (List.eq_nil_of_length_eq_zero h)
    have h2 := r.den_pos
    omega
  rw [<- hD0] at es2
  rw [es2.out] at HF2
  obtain ⟨l1, e1⟩ : ∃ l, (dig b32 N.natAbs).length = l := ⟨_, rfl⟩
  obtain ⟨l2, e2⟩ : ∃ l, (dig b32 D.natAbs).length = l := ⟨_, rfl⟩
  rw [e2] at hl
  rw [e1] at HF1 ⊢
  rw [e2] at HF2 ⊢
  clear R1 R2 eN eD hD0 e1 e2 HD
  have hl2 : ((l2 : Int) == 0) = false := by rw [beq_eq_false_iff_ne]; omega
  have bb := one4_new V1 (.cells #[.bool (decide (N < 0)), .slice A1 l1 m1, .bool (decide (D < 0)), .slice A2 l2 m2] 26)
  have t3 := Four.new V1 (.bool (decide (N < 0))) (.slice A1 l1 m1) (.bool (decide (D < 0))) (.slice A2 l2 m2) 26
  have k0 := t3.c0
  have k1 := t3.c1
  have k2 := t3.c2
  have k3 := t3.c3
  go_wp2_with fail
  clear k0 k1 k2 k3
  obtain ⟨V2, hV2⟩ : ∃ V, V = V1.alloc (.cells #[.bool (decide (N < 0)), .slice A1 l1 m1, .bool (decide (D < 0)), .slice A2 l2 m2] 26) := ⟨_, rfl⟩
  rw [<- hV2] at t3 bb ⊢
  replace HB := Lib.hid (HB.out.trans (bb.mono HB.out.size))
  have BB := Lib.hid bb
  clear hV2 bb es1 es2
  refine wp_region_plan (S := fun w' => Below V2.heap.size V2 w') [(0, true), (1, true), (4, true), (5, true), (2, false), (3, true), (6, false), (7, true), (8, true)] (by kernel_rfl) (by kernel_rfl) (Below.refl _ _).drew ?_
  have HBR := (Below.refl V2.heap.size V2).drew
  repeat (refine plan_take (v := ?_) rfl (by rfl) ?_ ?_; rotate_left; (focus (intro w' hS; have k0 := (t3.to hS).c0; have k1 := (t3.to hS).c1; have k2 := (t3.to hS).c2; have k3 := (t3.to hS).c3; go_simp; try with_reducible rfl)); simp only [Act.put, List.setIfInBounds_toArray, List.set_cons_zero, List.set_cons_succ])
  refine plan_call rfl (by rfl) (fun K hK => ?_)
  go_simp
  refine (HF1.out _ (BB.out.trans (HBR.mono BB.out.size))).mono ?_
  rintro e V3 ⟨rfl, b2⟩
  replace HBR := HBR.trans (b2.mono HBR.size)
  refine hK.out _ _ HBR ?_
  clear hK K b2
  repeat (refine plan_take (v := ?_) rfl (by rfl) ?_ ?_; rotate_left; (focus (intro w' hS; go_simp; try with_reducible rfl)); simp only [Act.put, List.setIfInBounds_toArray, List.set_cons_zero, List.set_cons_succ])
  refine plan_call rfl (by rfl) (fun K hK => ?_)
  go_simp
  refine (HF2.out _ (BB.out.trans (HBR.mono BB.out.size))).mono ?_
  rintro e V4 ⟨rfl, b2⟩
  replace HBR := HBR.trans (b2.mono HBR.size)
  refine hK.out _ _ HBR ?_
  clear hK K b2
  repeat (refine plan_take (v := ?_) rfl (by rfl) ?_ ?_; rotate_left; (focus (intro w' hS; go_simp; try with_reducible rfl)); simp only [Act.put, List.setIfInBounds_toArray, List.set_cons_zero, List.set_cons_succ])
  refine plan_done ?_
  have HE := Lib.hid (HB.out.trans (HBR.mono HB.out.size))
  clear HB HBR t3
  go_wp2
  go_ret
  exact ⟨rfl, HE.out⟩
end Go.Proofs.YtgkfbhdaheoecaaGreat

namespace Go.Proofs.YtgkfbhdaheoecaaGreat
open Go.RowKit Go.Shelf

theorem split_50 (w : World) : Calls Tryz.prog 46 #[.string ⟨#[50, 47, 52]⟩] w fun e w' => e = .returned (.tuple #[.string ⟨#[50]⟩, .string ⟨#[52]⟩, .bool true]) /\ Below w.heap.size w w' := by
  have e1 : ({ data := #[50, 47, 52] } : ByteArray).extract 0 1 = ⟨#[50]⟩ := by decide +kernel
  have e2 : ({ data := #[50, 47, 52] } : ByteArray).extract 2 3 = ⟨#[52]⟩ := by decide +kernel
  go_enter Tryz.func46, Tryz.ntmps46
  go_wp2
  go_step3
  go_wp2
  go_step3
  go_wp2
  refine wp_loop_rounds 3 ?_
  rw [rounds_succ]
  go_wp2
  rw [rounds_succ]
  go_wp2
  go_quiet (fail)
  go_wp2
  rw [Exit.noGoto_ret]
  go_ret3
  exact ⟨rfl, bel_drewN (Below.refl _ _) _⟩

theorem split_51 (w : World) : Calls Tryz.prog 46 #[.string ⟨#[51, 47, 49]⟩] w fun e w' => e = .returned (.tuple #[.string ⟨#[51]⟩, .string ⟨#[49]⟩, .bool true]) /\ Below w.heap.size w w' := by
  have e1 : ({ data := #[51, 47, 49] } : ByteArray).extract 0 1 = ⟨#[51]⟩ := by decide +kernel
  have e2 : ({ data := #[51, 47, 49] } : ByteArray).extract 2 3 = ⟨#[49]⟩ := by decide +kernel
  go_enter Tryz.func46, Tryz.ntmps46
  go_wp2
  go_step3
  go_wp2
  go_step3
  go_wp2
  refine wp_loop_rounds 3 ?_
  rw [rounds_succ]
  go_wp2
  rw [rounds_succ]
  go_wp2
  go_quiet (fail)
  go_wp2
  rw [Exit.noGoto_ret]
  go_ret3
  exact ⟨rfl, bel_drewN (Below.refl _ _) _⟩

end Go.Proofs.YtgkfbhdaheoecaaGreat
