/- Parts: 1. -/
import Derived.Test.YtbmnloelimmgiaaGreatGm16
set_option linter.unusedVariables false
set_option linter.unusedSimpArgs false
set_option maxRecDepth 100000
set_option maxHeartbeats 40000000

namespace Go.Proofs.YtbmnloelimmgiaaGreat
open Go.RowKit Go.Shelf
theorem ceil_div {N D : Int} (hD : 0 < D) : -(-N / D) = (Rat.divInt N D).ceil := by
 rw [Rat.ceil_eq_neg_floor_neg, Rat.neg_divInt, floor_div hD]
theorem ceil_q {w : World} {x1 y1 x2 y2 : Value} {r : Rat} {k : Nat} (h1 : Qi w x1 y1 x2 y2 r k) (hk : 0 < k) (hk2 : k <= 10000) :
  Calls Tryz.prog 44 #[.agg #[x1, y1, x2, y2]] w (ZR w r.ceil) := by
 obtain ⟨W0, hW0⟩ : ∃ W0, W0 = (w.alloc (.cells #[x1, y1, x2, y2] 26)).alloc (.cells #[.bool false, .slice none 0 0] 24) := ⟨_, rfl⟩
 have hbw : Below w.heap.size w W0 := by rw [hW0]; exact ((Below.refl _ _).alloc (Nat.le_refl _) _).alloc (by simp) _
 have tA : Four W0 w.heap.size x1 y1 x2 y2 := by rw [hW0]; exact (Four.new w _ _ _ _ _).alloc _
 have tR : Two W0 (w.heap.size + 1) (.bool false) (.slice none 0 0) := by
  have h := Two.new (w.alloc (.cells #[x1, y1, x2, y2] 26)) (.bool false) (.slice none 0 0) 24
  rw [World.size_alloc] at h
  rw [hW0]; exact h
 have HW0 := Hd hW0
 have hU := Hd (upright_q (h1.to hbw) hk hk2)
 have HB := Hd hbw
 have f1 := h1.fq.1
 have f2 := h1.fq.2
 clear h1 hW0 hbw
 obtain ⟨n1, A1, l1, m1, rfl, rfl⟩ := f1
 obtain ⟨n2, A2, l2, m2, rfl, rfl⟩ := f2
 go_enter Tryz.func44, Tryz.ntmps44
 go_wp2_with fail
 rw [<- HW0.out]
 have k0 := tA.c0
 have k1 := tA.c1
 have k2 := tA.c2
 have k3 := tA.c3
 go_wp2_with fail
 refine hU.out.mono ?_
 rintro e V1 ⟨_, _, _, _, p, q, rfl, up, bb⟩
 clear hU
 obtain ⟨n1, A1, l1, m1, rfl, rfl⟩ := up.fq.1
 obtain ⟨n2, A2, l2, m2, rfl, rfl⟩ := up.fq.2
 have hA := up.n
 have hB := up.d
 have HQ := Hd up.pos
 have HSP := Hd (up.sn.sg hk2)
 have HR : Hid (r.ceil = -(-p / q)) := by show _ = _; rw [<- up.eq, ceil_div up.pos]
 clear up
 replace tR := tR.to bb
 replace HB := hx HB bb
 clear k0 k1 k2 k3 bb tA
 have bb := one4_new V1 (.cells #[.bool n1, .slice A1 l1 m1, .bool n2, .slice A2 l2 m2] 26)
 have t3 := Four.new V1 (.bool n1) (.slice A1 l1 m1) (.bool n2) (.slice A2 l2 m2) 26
 replace tR := tR.to bb
 replace hA := hA.to bb
 replace hB := hB.to bb
 replace HB := hx HB bb
 clear bb
 have HSN : Hid (Sg (-p)) := by
  show Sg _
  have h := HSP.out
  unfold Sg at *
  rw [Int.natAbs_neg]; exact h
 have HQ0 : Hid (q ≠ 0) := by show _ ≠ _; have := HQ.out; omega
 go_wp2_with fail
 obtain ⟨V2, hV2⟩ : ∃ V, V = V1.alloc (.cells #[.bool n1, .slice A1 l1 m1, .bool n2, .slice A2 l2 m2] 26) := ⟨_, rfl⟩
 rw [<- hV2] at t3 tR hA hB HB ⊢
 clear hV2
 refine wp_cut (fun a' v' w' => ∃ (g1 : Nat) (x y : Value) (u10 u11 u12 u13 u14 u15 u9 u16 u17 u18 u5 u6 : Value), v' = (((((((((((((a'.put (some 10) u10).put (some 11) u11).put (some 12) u12).put (some 13) u13).put (some 14) u14).put (some 15) u15).put (some 9) u9).put (some 16) u16).put (some 17) u17).put (some 18) u18).put (some 5) u5).put (some 6) u6).put (some 4) (.pointer (some ⟨g1, 0, none⟩))) /\ Cb w' g1 x y (-p / q) /\ Below V2.heap.size V2 w') ?_ ?_
 ·refine wp_region_planTo (S := fun w' => Below V2.heap.size V2 w') [(0, true), (1, true), (3, true), (4, true)] #[true, true, false, true, true, false, false, false, false, false, false, false, false, false, false] 11 (by kernel_rfl) (by kernel_rfl) (Below.refl _ _).drew ?_
  repeat (refine plan_take (v := ?_) rfl (by rfl) ?_ ?_; rotate_left; (focus (intro w' hS; have k0 := (t3.to hS).c0; have k1 := (t3.to hS).c1; have k2 := (t3.to hS).c2; have k3 := (t3.to hS).c3; go_simp; try with_reducible rfl)); simp only [Act.put, List.setIfInBounds_toArray, List.set_cons_zero, List.set_cons_succ])
  clear HB
  intro HB
  refine wpAnyH_ready (rs := [2, 10, 11]) (by kernel_rfl) (by simp) (ready_cons rfl (by rfl) (fun K hK => ?_) (ready_cons rfl (by rfl) (fun K hK => ?_) (ready_cons rfl (by rfl) (fun K hK => ?_) AllReadyH.nil)))
  ·go_simp
   refine (neg_z (hA.to HB).zi).mono ?_
   rintro e V ⟨xn, yn, rfl, rn, bb⟩
   replace HB := bx HB bb
   refine hK.out _ _ HB ?_
   clear hK K bb
   refine wpAnyH_ready (rs := [5, 10, 11]) (by kernel_rfl) (by simp) (ready_cons rfl (by rfl) (fun K hK => ?_) (ready_cons rfl (by rfl) (fun K hK => ?_) (ready_cons rfl (by rfl) (fun K hK => ?_) AllReadyH.nil)))
   ·go_simp
    refine (dm_z (rn.zs HSN.out) (hB.to HB) HQ0.out HSN.out).mono ?_
    rintro e V ⟨A3, c3, A4, c4, rfl, z1, z2, e1, e2, e3, e4, bb⟩
    have r1 : Zc V (.bool (decide (-p / q < 0))) (.slice A3 (dig b32 (-p / q).natAbs).length c3) (-p / q) := ⟨A3, c3, rfl, rfl, z1, e1, e2⟩
    have r2 : Zc V (.bool (decide (-p % q < 0))) (.slice A4 (dig b32 (-p % q).natAbs).length c4) (-p % q) := ⟨A4, c4, rfl, rfl, z2, e3, e4⟩
    replace HB := bx HB bb
    refine hK.out _ _ HB ?_
    clear hK K bb rn z1 z2 e1 e2 e3 e4
    refine ready_take (i := 6) (v := ?_) rfl (by kernel_rfl) (by kernel_rfl) (by kernel_rfl) (by rfl) ?_ HB ?_; rotate_left; (focus (intro w' _; go_simp; try with_reducible rfl)); simp only [Act.put, List.setIfInBounds_toArray, List.set_cons_zero, List.set_cons_succ]
    refine ready_take (i := 7) (v := ?_) rfl (by kernel_rfl) (by kernel_rfl) (by kernel_rfl) (by rfl) ?_ HB ?_; rotate_left; (focus (intro w' _; go_simp; try with_reducible rfl)); simp only [Act.put, List.setIfInBounds_toArray, List.set_cons_zero, List.set_cons_succ]
    refine ready_take (i := 8) (v := ?_) rfl (by kernel_rfl) (by kernel_rfl) (by kernel_rfl) (by rfl) ?_ HB ?_; rotate_left; (focus (intro w' _; go_simp; try with_reducible rfl)); simp only [Act.put, List.setIfInBounds_toArray, List.set_cons_zero, List.set_cons_succ]
    refine ready_take (i := 9) (v := ?_) rfl (by kernel_rfl) (by kernel_rfl) (by kernel_rfl) (by rfl) ?_ HB ?_; rotate_left; (focus (intro w' _; go_simp; try with_reducible rfl)); simp only [Act.put, List.setIfInBounds_toArray, List.set_cons_zero, List.set_cons_succ]
    refine wpAnyH_ready (rs := [10, 11]) (by kernel_rfl) (by simp) (ready_cons rfl (by rfl) (fun K hK => ?_) (ready_cons rfl (by rfl) (fun K hK => ?_) AllReadyH.nil))
    ·refine wp_alloc_two (fun g1 V t1 bb hg => ?_)
     have b1 := Nat.le_trans HB.size hg
     replace HB := bx HB bb
     replace r1 := r1.to bb
     replace r2 := r2.to bb
     refine hK.out _ _ HB ?_
     clear hK K bb hg
     simp only [Act.put, List.setIfInBounds_toArray, List.set_cons_zero, List.set_cons_succ]
     refine rdy1 (i := 11) (by kernel_rfl) rfl (by rfl) (fun K hK => ?_)
     ·refine wp_alloc_two (fun g2 V t2 bb hg => ?_)
      have b2 := Nat.le_trans HB.size hg
      replace HB := bx HB bb
      have ne : g1 ≠ g2 := Nat.ne_of_lt (Nat.lt_of_lt_of_le t1.lt hg)
      replace t1 := t1.to bb
      replace r1 := r1.to bb
      replace r2 := r2.to bb
      refine hK.out _ _ HB ?_
      clear hK K bb hg
      simp only [Act.put, List.setIfInBounds_toArray, List.set_cons_zero, List.set_cons_succ]
      refine rdy1 (i := 12) (by kernel_rfl) rfl (by rfl) (fun K hK => ?_)
      ·refine wp_store_two (by rfl) (by rfl) t1 Fs.nil r1.fs (fun V u kp => ?_)
       replace t2 := kp.two _ _ _ (Ne.symm ne) t2
       replace r1 := kp.zc _ _ _ r1
       replace r2 := kp.zc _ _ _ r2
       replace HB := kp.bel _ _ HB b1
       clear t1
       have t1 := u
       refine hK.out _ _ HB ?_
       clear hK K kp u
       simp only [Act.put, List.setIfInBounds_toArray, List.set_cons_zero, List.set_cons_succ]
       refine rdy1 (i := 13) (by kernel_rfl) rfl (by rfl) (fun K hK => ?_)
       ·refine wp_store_two (by rfl) (by rfl) t2 Fs.nil r2.fs (fun V u kp => ?_)
        replace t1 := kp.two _ _ _ ne t1
        replace r1 := kp.zc _ _ _ r1
        replace r2 := kp.zc _ _ _ r2
        replace HB := kp.bel _ _ HB b2
        clear t2
        have t2 := u
        refine hK.out _ _ HB ?_
        clear hK K kp u
        simp only [Act.put, List.setIfInBounds_toArray, List.set_cons_zero, List.set_cons_succ]
        refine ready_take (i := 14) (v := ?_) rfl (by kernel_rfl) (by kernel_rfl) (by kernel_rfl) (by rfl) ?_ HB ?_; rotate_left; (focus (intro w' _; go_simp; try with_reducible rfl)); simp only [Act.put, List.setIfInBounds_toArray, List.set_cons_zero, List.set_cons_succ]
        exact wpAnyH_done (by kernel_rfl) ⟨rfl, g1, _, _, _, _, _, _, _, _, _, _, _, _, _, _, by rfl, ⟨t1, r1⟩, HB⟩ _
    ·refine wp_alloc_two (fun g2 V t2 bb hg => ?_)
     have b2 := Nat.le_trans HB.size hg
     replace HB := bx HB bb
     replace r1 := r1.to bb
     replace r2 := r2.to bb
     refine hK.out _ _ HB ?_
     clear hK K bb hg
     simp only [Act.put, List.setIfInBounds_toArray, List.set_cons_zero, List.set_cons_succ]
     refine rdy1 (i := 10) (by kernel_rfl) rfl (by rfl) (fun K hK => ?_)
     ·refine wp_alloc_two (fun g1 V t1 bb hg => ?_)
      have b1 := Nat.le_trans HB.size hg
      replace HB := bx HB bb
      have ne : g1 ≠ g2 := Nat.ne_of_gt (Nat.lt_of_lt_of_le t2.lt hg)
      replace t2 := t2.to bb
      replace r1 := r1.to bb
      replace r2 := r2.to bb
      refine hK.out _ _ HB ?_
      clear hK K bb hg
      simp only [Act.put, List.setIfInBounds_toArray, List.set_cons_zero, List.set_cons_succ]
      refine rdy1 (i := 12) (by kernel_rfl) rfl (by rfl) (fun K hK => ?_)
      ·refine wp_store_two (by rfl) (by rfl) t1 Fs.nil r1.fs (fun V u kp => ?_)
       replace t2 := kp.two _ _ _ (Ne.symm ne) t2
       replace r1 := kp.zc _ _ _ r1
       replace r2 := kp.zc _ _ _ r2
       replace HB := kp.bel _ _ HB b1
       clear t1
       have t1 := u
       refine hK.out _ _ HB ?_
       clear hK K kp u
       simp only [Act.put, List.setIfInBounds_toArray, List.set_cons_zero, List.set_cons_succ]
       refine rdy1 (i := 13) (by kernel_rfl) rfl (by rfl) (fun K hK => ?_)
       ·refine wp_store_two (by rfl) (by rfl) t2 Fs.nil r2.fs (fun V u kp => ?_)
        replace t1 := kp.two _ _ _ ne t1
        replace r1 := kp.zc _ _ _ r1
        replace r2 := kp.zc _ _ _ r2
        replace HB := kp.bel _ _ HB b2
        clear t2
        have t2 := u
        refine hK.out _ _ HB ?_
        clear hK K kp u
        simp only [Act.put, List.setIfInBounds_toArray, List.set_cons_zero, List.set_cons_succ]
        refine ready_take (i := 14) (v := ?_) rfl (by kernel_rfl) (by kernel_rfl) (by kernel_rfl) (by rfl) ?_ HB ?_; rotate_left; (focus (intro w' _; go_simp; try with_reducible rfl)); simp only [Act.put, List.setIfInBounds_toArray, List.set_cons_zero, List.set_cons_succ]
        exact wpAnyH_done (by kernel_rfl) ⟨rfl, g1, _, _, _, _, _, _, _, _, _, _, _, _, _, _, by rfl, ⟨t1, r1⟩, HB⟩ _
   ·refine wp_alloc_two (fun g1 V t1 bb hg => ?_)
    have b1 := Nat.le_trans HB.size hg
    replace HB := bx HB bb
    replace rn := rn.to bb
    refine hK.out _ _ HB ?_
    clear hK K bb hg
    simp only [Act.put, List.setIfInBounds_toArray, List.set_cons_zero, List.set_cons_succ]
    refine wpAnyH_ready (rs := [5, 11]) (by kernel_rfl) (by simp) (ready_cons rfl (by rfl) (fun K hK => ?_) (ready_cons rfl (by rfl) (fun K hK => ?_) AllReadyH.nil))
    ·go_simp
     refine (dm_z (rn.zs HSN.out) (hB.to HB) HQ0.out HSN.out).mono ?_
     rintro e V ⟨A3, c3, A4, c4, rfl, z1, z2, e1, e2, e3, e4, bb⟩
     have r1 : Zc V (.bool (decide (-p / q < 0))) (.slice A3 (dig b32 (-p / q).natAbs).length c3) (-p / q) := ⟨A3, c3, rfl, rfl, z1, e1, e2⟩
     have r2 : Zc V (.bool (decide (-p % q < 0))) (.slice A4 (dig b32 (-p % q).natAbs).length c4) (-p % q) := ⟨A4, c4, rfl, rfl, z2, e3, e4⟩
     replace HB := bx HB bb
     replace t1 := t1.to bb
     refine hK.out _ _ HB ?_
     clear hK K bb rn z1 z2 e1 e2 e3 e4
     refine ready_take (i := 6) (v := ?_) rfl (by kernel_rfl) (by kernel_rfl) (by kernel_rfl) (by rfl) ?_ HB ?_; rotate_left; (focus (intro w' _; go_simp; try with_reducible rfl)); simp only [Act.put, List.setIfInBounds_toArray, List.set_cons_zero, List.set_cons_succ]
     refine ready_take (i := 7) (v := ?_) rfl (by kernel_rfl) (by kernel_rfl) (by kernel_rfl) (by rfl) ?_ HB ?_; rotate_left; (focus (intro w' _; go_simp; try with_reducible rfl)); simp only [Act.put, List.setIfInBounds_toArray, List.set_cons_zero, List.set_cons_succ]
     refine ready_take (i := 8) (v := ?_) rfl (by kernel_rfl) (by kernel_rfl) (by kernel_rfl) (by rfl) ?_ HB ?_; rotate_left; (focus (intro w' _; go_simp; try with_reducible rfl)); simp only [Act.put, List.setIfInBounds_toArray, List.set_cons_zero, List.set_cons_succ]
     refine ready_take (i := 9) (v := ?_) rfl (by kernel_rfl) (by kernel_rfl) (by kernel_rfl) (by rfl) ?_ HB ?_; rotate_left; (focus (intro w' _; go_simp; try with_reducible rfl)); simp only [Act.put, List.setIfInBounds_toArray, List.set_cons_zero, List.set_cons_succ]
     refine rdy1 (i := 11) (by kernel_rfl) rfl (by rfl) (fun K hK => ?_)
     ·refine wp_alloc_two (fun g2 V t2 bb hg => ?_)
      have b2 := Nat.le_trans HB.size hg
      replace HB := bx HB bb
      have ne : g1 ≠ g2 := Nat.ne_of_lt (Nat.lt_of_lt_of_le t1.lt hg)
      replace t1 := t1.to bb
      replace r1 := r1.to bb
      replace r2 := r2.to bb
      refine hK.out _ _ HB ?_
      clear hK K bb hg
      simp only [Act.put, List.setIfInBounds_toArray, List.set_cons_zero, List.set_cons_succ]
      refine rdy1 (i := 12) (by kernel_rfl) rfl (by rfl) (fun K hK => ?_)
      ·refine wp_store_two (by rfl) (by rfl) t1 Fs.nil r1.fs (fun V u kp => ?_)
       replace t2 := kp.two _ _ _ (Ne.symm ne) t2
       replace r1 := kp.zc _ _ _ r1
       replace r2 := kp.zc _ _ _ r2
       replace HB := kp.bel _ _ HB b1
       clear t1
       have t1 := u
       refine hK.out _ _ HB ?_
       clear hK K kp u
       simp only [Act.put, List.setIfInBounds_toArray, List.set_cons_zero, List.set_cons_succ]
       refine rdy1 (i := 13) (by kernel_rfl) rfl (by rfl) (fun K hK => ?_)
       ·refine wp_store_two (by rfl) (by rfl) t2 Fs.nil r2.fs (fun V u kp => ?_)
        replace t1 := kp.two _ _ _ ne t1
        replace r1 := kp.zc _ _ _ r1
        replace r2 := kp.zc _ _ _ r2
        replace HB := kp.bel _ _ HB b2
        clear t2
        have t2 := u
        refine hK.out _ _ HB ?_
        clear hK K kp u
        simp only [Act.put, List.setIfInBounds_toArray, List.set_cons_zero, List.set_cons_succ]
        refine ready_take (i := 14) (v := ?_) rfl (by kernel_rfl) (by kernel_rfl) (by kernel_rfl) (by rfl) ?_ HB ?_; rotate_left; (focus (intro w' _; go_simp; try with_reducible rfl)); simp only [Act.put, List.setIfInBounds_toArray, List.set_cons_zero, List.set_cons_succ]
        exact wpAnyH_done (by kernel_rfl) ⟨rfl, g1, _, _, _, _, _, _, _, _, _, _, _, _, _, _, by rfl, ⟨t1, r1⟩, HB⟩ _
    ·refine wp_alloc_two (fun g2 V t2 bb hg => ?_)
     have b2 := Nat.le_trans HB.size hg
     replace HB := bx HB bb
     have ne : g1 ≠ g2 := Nat.ne_of_lt (Nat.lt_of_lt_of_le t1.lt hg)
     replace t1 := t1.to bb
     replace rn := rn.to bb
     refine hK.out _ _ HB ?_
     clear hK K bb hg
     simp only [Act.put, List.setIfInBounds_toArray, List.set_cons_zero, List.set_cons_succ]
     refine rdy1 (i := 5) (by kernel_rfl) rfl (by rfl) (fun K hK => ?_)
     ·go_simp
      refine (dm_z (rn.zs HSN.out) (hB.to HB) HQ0.out HSN.out).mono ?_
      rintro e V ⟨A3, c3, A4, c4, rfl, z1, z2, e1, e2, e3, e4, bb⟩
      have r1 : Zc V (.bool (decide (-p / q < 0))) (.slice A3 (dig b32 (-p / q).natAbs).length c3) (-p / q) := ⟨A3, c3, rfl, rfl, z1, e1, e2⟩
      have r2 : Zc V (.bool (decide (-p % q < 0))) (.slice A4 (dig b32 (-p % q).natAbs).length c4) (-p % q) := ⟨A4, c4, rfl, rfl, z2, e3, e4⟩
      replace HB := bx HB bb
      replace t1 := t1.to bb
      replace t2 := t2.to bb
      refine hK.out _ _ HB ?_
      clear hK K bb rn z1 z2 e1 e2 e3 e4
      refine ready_take (i := 6) (v := ?_) rfl (by kernel_rfl) (by kernel_rfl) (by kernel_rfl) (by rfl) ?_ HB ?_; rotate_left; (focus (intro w' _; go_simp; try with_reducible rfl)); simp only [Act.put, List.setIfInBounds_toArray, List.set_cons_zero, List.set_cons_succ]
      refine ready_take (i := 7) (v := ?_) rfl (by kernel_rfl) (by kernel_rfl) (by kernel_rfl) (by rfl) ?_ HB ?_; rotate_left; (focus (intro w' _; go_simp; try with_reducible rfl)); simp only [Act.put, List.setIfInBounds_toArray, List.set_cons_zero, List.set_cons_succ]
      refine ready_take (i := 8) (v := ?_) rfl (by kernel_rfl) (by kernel_rfl) (by kernel_rfl) (by rfl) ?_ HB ?_; rotate_left; (focus (intro w' _; go_simp; try with_reducible rfl)); simp only [Act.put, List.setIfInBounds_toArray, List.set_cons_zero, List.set_cons_succ]
      refine ready_take (i := 9) (v := ?_) rfl (by kernel_rfl) (by kernel_rfl) (by kernel_rfl) (by rfl) ?_ HB ?_; rotate_left; (focus (intro w' _; go_simp; try with_reducible rfl)); simp only [Act.put, List.setIfInBounds_toArray, List.set_cons_zero, List.set_cons_succ]
      refine rdy1 (i := 12) (by kernel_rfl) rfl (by rfl) (fun K hK => ?_)
      ·refine wp_store_two (by rfl) (by rfl) t1 Fs.nil r1.fs (fun V u kp => ?_)
       replace t2 := kp.two _ _ _ (Ne.symm ne) t2
       replace r1 := kp.zc _ _ _ r1
       replace r2 := kp.zc _ _ _ r2
       replace HB := kp.bel _ _ HB b1
       clear t1
       have t1 := u
       refine hK.out _ _ HB ?_
       clear hK K kp u
       simp only [Act.put, List.setIfInBounds_toArray, List.set_cons_zero, List.set_cons_succ]
       refine rdy1 (i := 13) (by kernel_rfl) rfl (by rfl) (fun K hK => ?_)
       ·refine wp_store_two (by rfl) (by rfl) t2 Fs.nil r2.fs (fun V u kp => ?_)
        replace t1 := kp.two _ _ _ ne t1
        replace r1 := kp.zc _ _ _ r1
        replace r2 := kp.zc _ _ _ r2
        replace HB := kp.bel _ _ HB b2
        clear t2
        have t2 := u
        refine hK.out _ _ HB ?_
        clear hK K kp u
        simp only [Act.put, List.setIfInBounds_toArray, List.set_cons_zero, List.set_cons_succ]
        refine ready_take (i := 14) (v := ?_) rfl (by kernel_rfl) (by kernel_rfl) (by kernel_rfl) (by rfl) ?_ HB ?_; rotate_left; (focus (intro w' _; go_simp; try with_reducible rfl)); simp only [Act.put, List.setIfInBounds_toArray, List.set_cons_zero, List.set_cons_succ]
        exact wpAnyH_done (by kernel_rfl) ⟨rfl, g1, _, _, _, _, _, _, _, _, _, _, _, _, _, _, by rfl, ⟨t1, r1⟩, HB⟩ _
   ·refine wp_alloc_two (fun g2 V t2 bb hg => ?_)
    have b2 := Nat.le_trans HB.size hg
    replace HB := bx HB bb
    replace rn := rn.to bb
    refine hK.out _ _ HB ?_
    clear hK K bb hg
    simp only [Act.put, List.setIfInBounds_toArray, List.set_cons_zero, List.set_cons_succ]
    refine wpAnyH_ready (rs := [5, 10]) (by kernel_rfl) (by simp) (ready_cons rfl (by rfl) (fun K hK => ?_) (ready_cons rfl (by rfl) (fun K hK => ?_) AllReadyH.nil))
    ·go_simp
     refine (dm_z (rn.zs HSN.out) (hB.to HB) HQ0.out HSN.out).mono ?_
     rintro e V ⟨A3, c3, A4, c4, rfl, z1, z2, e1, e2, e3, e4, bb⟩
     have r1 : Zc V (.bool (decide (-p / q < 0))) (.slice A3 (dig b32 (-p / q).natAbs).length c3) (-p / q) := ⟨A3, c3, rfl, rfl, z1, e1, e2⟩
     have r2 : Zc V (.bool (decide (-p % q < 0))) (.slice A4 (dig b32 (-p % q).natAbs).length c4) (-p % q) := ⟨A4, c4, rfl, rfl, z2, e3, e4⟩
     replace HB := bx HB bb
     replace t2 := t2.to bb
     refine hK.out _ _ HB ?_
     clear hK K bb rn z1 z2 e1 e2 e3 e4
     refine ready_take (i := 6) (v := ?_) rfl (by kernel_rfl) (by kernel_rfl) (by kernel_rfl) (by rfl) ?_ HB ?_; rotate_left; (focus (intro w' _; go_simp; try with_reducible rfl)); simp only [Act.put, List.setIfInBounds_toArray, List.set_cons_zero, List.set_cons_succ]
     refine ready_take (i := 7) (v := ?_) rfl (by kernel_rfl) (by kernel_rfl) (by kernel_rfl) (by rfl) ?_ HB ?_; rotate_left; (focus (intro w' _; go_simp; try with_reducible rfl)); simp only [Act.put, List.setIfInBounds_toArray, List.set_cons_zero, List.set_cons_succ]
     refine ready_take (i := 8) (v := ?_) rfl (by kernel_rfl) (by kernel_rfl) (by kernel_rfl) (by rfl) ?_ HB ?_; rotate_left; (focus (intro w' _; go_simp; try with_reducible rfl)); simp only [Act.put, List.setIfInBounds_toArray, List.set_cons_zero, List.set_cons_succ]
     refine ready_take (i := 9) (v := ?_) rfl (by kernel_rfl) (by kernel_rfl) (by kernel_rfl) (by rfl) ?_ HB ?_; rotate_left; (focus (intro w' _; go_simp; try with_reducible rfl)); simp only [Act.put, List.setIfInBounds_toArray, List.set_cons_zero, List.set_cons_succ]
     refine rdy1 (i := 10) (by kernel_rfl) rfl (by rfl) (fun K hK => ?_)
     ·refine wp_alloc_two (fun g1 V t1 bb hg => ?_)
      have b1 := Nat.le_trans HB.size hg
      replace HB := bx HB bb
      have ne : g1 ≠ g2 := Nat.ne_of_gt (Nat.lt_of_lt_of_le t2.lt hg)
      replace t2 := t2.to bb
      replace r1 := r1.to bb
      replace r2 := r2.to bb
      refine hK.out _ _ HB ?_
      clear hK K bb hg
      simp only [Act.put, List.setIfInBounds_toArray, List.set_cons_zero, List.set_cons_succ]
      refine rdy1 (i := 12) (by kernel_rfl) rfl (by rfl) (fun K hK => ?_)
      ·refine wp_store_two (by rfl) (by rfl) t1 Fs.nil r1.fs (fun V u kp => ?_)
       replace t2 := kp.two _ _ _ (Ne.symm ne) t2
       replace r1 := kp.zc _ _ _ r1
       replace r2 := kp.zc _ _ _ r2
       replace HB := kp.bel _ _ HB b1
       clear t1
       have t1 := u
       refine hK.out _ _ HB ?_
       clear hK K kp u
       simp only [Act.put, List.setIfInBounds_toArray, List.set_cons_zero, List.set_cons_succ]
       refine rdy1 (i := 13) (by kernel_rfl) rfl (by rfl) (fun K hK => ?_)
       ·refine wp_store_two (by rfl) (by rfl) t2 Fs.nil r2.fs (fun V u kp => ?_)
        replace t1 := kp.two _ _ _ ne t1
        replace r1 := kp.zc _ _ _ r1
        replace r2 := kp.zc _ _ _ r2
        replace HB := kp.bel _ _ HB b2
        clear t2
        have t2 := u
        refine hK.out _ _ HB ?_
        clear hK K kp u
        simp only [Act.put, List.setIfInBounds_toArray, List.set_cons_zero, List.set_cons_succ]
        refine ready_take (i := 14) (v := ?_) rfl (by kernel_rfl) (by kernel_rfl) (by kernel_rfl) (by rfl) ?_ HB ?_; rotate_left; (focus (intro w' _; go_simp; try with_reducible rfl)); simp only [Act.put, List.setIfInBounds_toArray, List.set_cons_zero, List.set_cons_succ]
        exact wpAnyH_done (by kernel_rfl) ⟨rfl, g1, _, _, _, _, _, _, _, _, _, _, _, _, _, _, by rfl, ⟨t1, r1⟩, HB⟩ _
    ·refine wp_alloc_two (fun g1 V t1 bb hg => ?_)
     have b1 := Nat.le_trans HB.size hg
     replace HB := bx HB bb
     have ne : g1 ≠ g2 := Nat.ne_of_gt (Nat.lt_of_lt_of_le t2.lt hg)
     replace t2 := t2.to bb
     replace rn := rn.to bb
     refine hK.out _ _ HB ?_
     clear hK K bb hg
     simp only [Act.put, List.setIfInBounds_toArray, List.set_cons_zero, List.set_cons_succ]
     refine rdy1 (i := 5) (by kernel_rfl) rfl (by rfl) (fun K hK => ?_)
     ·go_simp
      refine (dm_z (rn.zs HSN.out) (hB.to HB) HQ0.out HSN.out).mono ?_
      rintro e V ⟨A3, c3, A4, c4, rfl, z1, z2, e1, e2, e3, e4, bb⟩
      have r1 : Zc V (.bool (decide (-p / q < 0))) (.slice A3 (dig b32 (-p / q).natAbs).length c3) (-p / q) := ⟨A3, c3, rfl, rfl, z1, e1, e2⟩
      have r2 : Zc V (.bool (decide (-p % q < 0))) (.slice A4 (dig b32 (-p % q).natAbs).length c4) (-p % q) := ⟨A4, c4, rfl, rfl, z2, e3, e4⟩
      replace HB := bx HB bb
      replace t1 := t1.to bb
      replace t2 := t2.to bb
      refine hK.out _ _ HB ?_
      clear hK K bb rn z1 z2 e1 e2 e3 e4
      refine ready_take (i := 6) (v := ?_) rfl (by kernel_rfl) (by kernel_rfl) (by kernel_rfl) (by rfl) ?_ HB ?_; rotate_left; (focus (intro w' _; go_simp; try with_reducible rfl)); simp only [Act.put, List.setIfInBounds_toArray, List.set_cons_zero, List.set_cons_succ]
      refine ready_take (i := 7) (v := ?_) rfl (by kernel_rfl) (by kernel_rfl) (by kernel_rfl) (by rfl) ?_ HB ?_; rotate_left; (focus (intro w' _; go_simp; try with_reducible rfl)); simp only [Act.put, List.setIfInBounds_toArray, List.set_cons_zero, List.set_cons_succ]
      refine ready_take (i := 8) (v := ?_) rfl (by kernel_rfl) (by kernel_rfl) (by kernel_rfl) (by rfl) ?_ HB ?_; rotate_left; (focus (intro w' _; go_simp; try with_reducible rfl)); simp only [Act.put, List.setIfInBounds_toArray, List.set_cons_zero, List.set_cons_succ]
      refine ready_take (i := 9) (v := ?_) rfl (by kernel_rfl) (by kernel_rfl) (by kernel_rfl) (by rfl) ?_ HB ?_; rotate_left; (focus (intro w' _; go_simp; try with_reducible rfl)); simp only [Act.put, List.setIfInBounds_toArray, List.set_cons_zero, List.set_cons_succ]
      refine rdy1 (i := 12) (by kernel_rfl) rfl (by rfl) (fun K hK => ?_)
      ·refine wp_store_two (by rfl) (by rfl) t1 Fs.nil r1.fs (fun V u kp => ?_)
       replace t2 := kp.two _ _ _ (Ne.symm ne) t2
       replace r1 := kp.zc _ _ _ r1
       replace r2 := kp.zc _ _ _ r2
       replace HB := kp.bel _ _ HB b1
       clear t1
       have t1 := u
       refine hK.out _ _ HB ?_
       clear hK K kp u
       simp only [Act.put, List.setIfInBounds_toArray, List.set_cons_zero, List.set_cons_succ]
       refine rdy1 (i := 13) (by kernel_rfl) rfl (by rfl) (fun K hK => ?_)
       ·refine wp_store_two (by rfl) (by rfl) t2 Fs.nil r2.fs (fun V u kp => ?_)
        replace t1 := kp.two _ _ _ ne t1
        replace r1 := kp.zc _ _ _ r1
        replace r2 := kp.zc _ _ _ r2
        replace HB := kp.bel _ _ HB b2
        clear t2
        have t2 := u
        refine hK.out _ _ HB ?_
        clear hK K kp u
        simp only [Act.put, List.setIfInBounds_toArray, List.set_cons_zero, List.set_cons_succ]
        refine ready_take (i := 14) (v := ?_) rfl (by kernel_rfl) (by kernel_rfl) (by kernel_rfl) (by rfl) ?_ HB ?_; rotate_left; (focus (intro w' _; go_simp; try with_reducible rfl)); simp only [Act.put, List.setIfInBounds_toArray, List.set_cons_zero, List.set_cons_succ]
        exact wpAnyH_done (by kernel_rfl) ⟨rfl, g1, _, _, _, _, _, _, _, _, _, _, _, _, _, _, by rfl, ⟨t1, r1⟩, HB⟩ _
  ·refine wp_alloc_two (fun g1 V t1 bb hg => ?_)
   have b1 := Nat.le_trans HB.size hg
   replace HB := bx HB bb
   refine hK.out _ _ HB ?_
   clear hK K bb hg
   simp only [Act.put, List.setIfInBounds_toArray, List.set_cons_zero, List.set_cons_succ]
   refine wpAnyH_ready (rs := [2, 11]) (by kernel_rfl) (by simp) (ready_cons rfl (by rfl) (fun K hK => ?_) (ready_cons rfl (by rfl) (fun K hK => ?_) AllReadyH.nil))
   ·go_simp
    refine (neg_z (hA.to HB).zi).mono ?_
    rintro e V ⟨xn, yn, rfl, rn, bb⟩
    replace HB := bx HB bb
    replace t1 := t1.to bb
    refine hK.out _ _ HB ?_
    clear hK K bb
    refine wpAnyH_ready (rs := [5, 11]) (by kernel_rfl) (by simp) (ready_cons rfl (by rfl) (fun K hK => ?_) (ready_cons rfl (by rfl) (fun K hK => ?_) AllReadyH.nil))
    ·go_simp
     refine (dm_z (rn.zs HSN.out) (hB.to HB) HQ0.out HSN.out).mono ?_
     rintro e V ⟨A3, c3, A4, c4, rfl, z1, z2, e1, e2, e3, e4, bb⟩
     have r1 : Zc V (.bool (decide (-p / q < 0))) (.slice A3 (dig b32 (-p / q).natAbs).length c3) (-p / q) := ⟨A3, c3, rfl, rfl, z1, e1, e2⟩
     have r2 : Zc V (.bool (decide (-p % q < 0))) (.slice A4 (dig b32 (-p % q).natAbs).length c4) (-p % q) := ⟨A4, c4, rfl, rfl, z2, e3, e4⟩
     replace HB := bx HB bb
     replace t1 := t1.to bb
     refine hK.out _ _ HB ?_
     clear hK K bb rn z1 z2 e1 e2 e3 e4
     refine ready_take (i := 6) (v := ?_) rfl (by kernel_rfl) (by kernel_rfl) (by kernel_rfl) (by rfl) ?_ HB ?_; rotate_left; (focus (intro w' _; go_simp; try with_reducible rfl)); simp only [Act.put, List.setIfInBounds_toArray, List.set_cons_zero, List.set_cons_succ]
     refine ready_take (i := 7) (v := ?_) rfl (by kernel_rfl) (by kernel_rfl) (by kernel_rfl) (by rfl) ?_ HB ?_; rotate_left; (focus (intro w' _; go_simp; try with_reducible rfl)); simp only [Act.put, List.setIfInBounds_toArray, List.set_cons_zero, List.set_cons_succ]
     refine ready_take (i := 8) (v := ?_) rfl (by kernel_rfl) (by kernel_rfl) (by kernel_rfl) (by rfl) ?_ HB ?_; rotate_left; (focus (intro w' _; go_simp; try with_reducible rfl)); simp only [Act.put, List.setIfInBounds_toArray, List.set_cons_zero, List.set_cons_succ]
     refine ready_take (i := 9) (v := ?_) rfl (by kernel_rfl) (by kernel_rfl) (by kernel_rfl) (by rfl) ?_ HB ?_; rotate_left; (focus (intro w' _; go_simp; try with_reducible rfl)); simp only [Act.put, List.setIfInBounds_toArray, List.set_cons_zero, List.set_cons_succ]
     refine rdy1 (i := 11) (by kernel_rfl) rfl (by rfl) (fun K hK => ?_)
     ·refine wp_alloc_two (fun g2 V t2 bb hg => ?_)
      have b2 := Nat.le_trans HB.size hg
      replace HB := bx HB bb
      have ne : g1 ≠ g2 := Nat.ne_of_lt (Nat.lt_of_lt_of_le t1.lt hg)
      replace t1 := t1.to bb
      replace r1 := r1.to bb
      replace r2 := r2.to bb
      refine hK.out _ _ HB ?_
      clear hK K bb hg
      simp only [Act.put, List.setIfInBounds_toArray, List.set_cons_zero, List.set_cons_succ]
      refine rdy1 (i := 12) (by kernel_rfl) rfl (by rfl) (fun K hK => ?_)
      ·refine wp_store_two (by rfl) (by rfl) t1 Fs.nil r1.fs (fun V u kp => ?_)
       replace t2 := kp.two _ _ _ (Ne.symm ne) t2
       replace r1 := kp.zc _ _ _ r1
       replace r2 := kp.zc _ _ _ r2
       replace HB := kp.bel _ _ HB b1
       clear t1
       have t1 := u
       refine hK.out _ _ HB ?_
       clear hK K kp u
       simp only [Act.put, List.setIfInBounds_toArray, List.set_cons_zero, List.set_cons_succ]
       refine rdy1 (i := 13) (by kernel_rfl) rfl (by rfl) (fun K hK => ?_)
       ·refine wp_store_two (by rfl) (by rfl) t2 Fs.nil r2.fs (fun V u kp => ?_)
        replace t1 := kp.two _ _ _ ne t1
        replace r1 := kp.zc _ _ _ r1
        replace r2 := kp.zc _ _ _ r2
        replace HB := kp.bel _ _ HB b2
        clear t2
        have t2 := u
        refine hK.out _ _ HB ?_
        clear hK K kp u
        simp only [Act.put, List.setIfInBounds_toArray, List.set_cons_zero, List.set_cons_succ]
        refine ready_take (i := 14) (v := ?_) rfl (by kernel_rfl) (by kernel_rfl) (by kernel_rfl) (by rfl) ?_ HB ?_; rotate_left; (focus (intro w' _; go_simp; try with_reducible rfl)); simp only [Act.put, List.setIfInBounds_toArray, List.set_cons_zero, List.set_cons_succ]
        exact wpAnyH_done (by kernel_rfl) ⟨rfl, g1, _, _, _, _, _, _, _, _, _, _, _, _, _, _, by rfl, ⟨t1, r1⟩, HB⟩ _
    ·refine wp_alloc_two (fun g2 V t2 bb hg => ?_)
     have b2 := Nat.le_trans HB.size hg
     replace HB := bx HB bb
     have ne : g1 ≠ g2 := Nat.ne_of_lt (Nat.lt_of_lt_of_le t1.lt hg)
     replace t1 := t1.to bb
     replace rn := rn.to bb
     refine hK.out _ _ HB ?_
     clear hK K bb hg
     simp only [Act.put, List.setIfInBounds_toArray, List.set_cons_zero, List.set_cons_succ]
     refine rdy1 (i := 5) (by kernel_rfl) rfl (by rfl) (fun K hK => ?_)
     ·go_simp
      refine (dm_z (rn.zs HSN.out) (hB.to HB) HQ0.out HSN.out).mono ?_
      rintro e V ⟨A3, c3, A4, c4, rfl, z1, z2, e1, e2, e3, e4, bb⟩
      have r1 : Zc V (.bool (decide (-p / q < 0))) (.slice A3 (dig b32 (-p / q).natAbs).length c3) (-p / q) := ⟨A3, c3, rfl, rfl, z1, e1, e2⟩
      have r2 : Zc V (.bool (decide (-p % q < 0))) (.slice A4 (dig b32 (-p % q).natAbs).length c4) (-p % q) := ⟨A4, c4, rfl, rfl, z2, e3, e4⟩
      replace HB := bx HB bb
      replace t1 := t1.to bb
      replace t2 := t2.to bb
      refine hK.out _ _ HB ?_
      clear hK K bb rn z1 z2 e1 e2 e3 e4
      refine ready_take (i := 6) (v := ?_) rfl (by kernel_rfl) (by kernel_rfl) (by kernel_rfl) (by rfl) ?_ HB ?_; rotate_left; (focus (intro w' _; go_simp; try with_reducible rfl)); simp only [Act.put, List.setIfInBounds_toArray, List.set_cons_zero, List.set_cons_succ]
      refine ready_take (i := 7) (v := ?_) rfl (by kernel_rfl) (by kernel_rfl) (by kernel_rfl) (by rfl) ?_ HB ?_; rotate_left; (focus (intro w' _; go_simp; try with_reducible rfl)); simp only [Act.put, List.setIfInBounds_toArray, List.set_cons_zero, List.set_cons_succ]
      refine ready_take (i := 8) (v := ?_) rfl (by kernel_rfl) (by kernel_rfl) (by kernel_rfl) (by rfl) ?_ HB ?_; rotate_left; (focus (intro w' _; go_simp; try with_reducible rfl)); simp only [Act.put, List.setIfInBounds_toArray, List.set_cons_zero, List.set_cons_succ]
      refine ready_take (i := 9) (v := ?_) rfl (by kernel_rfl) (by kernel_rfl) (by kernel_rfl) (by rfl) ?_ HB ?_; rotate_left; (focus (intro w' _; go_simp; try with_reducible rfl)); simp only [Act.put, List.setIfInBounds_toArray, List.set_cons_zero, List.set_cons_succ]
      refine rdy1 (i := 12) (by kernel_rfl) rfl (by rfl) (fun K hK => ?_)
      ·refine wp_store_two (by rfl) (by rfl) t1 Fs.nil r1.fs (fun V u kp => ?_)
       replace t2 := kp.two _ _ _ (Ne.symm ne) t2
       replace r1 := kp.zc _ _ _ r1
       replace r2 := kp.zc _ _ _ r2
       replace HB := kp.bel _ _ HB b1
       clear t1
       have t1 := u
       refine hK.out _ _ HB ?_
       clear hK K kp u
       simp only [Act.put, List.setIfInBounds_toArray, List.set_cons_zero, List.set_cons_succ]
       refine rdy1 (i := 13) (by kernel_rfl) rfl (by rfl) (fun K hK => ?_)
       ·refine wp_store_two (by rfl) (by rfl) t2 Fs.nil r2.fs (fun V u kp => ?_)
        replace t1 := kp.two _ _ _ ne t1
        replace r1 := kp.zc _ _ _ r1
        replace r2 := kp.zc _ _ _ r2
        replace HB := kp.bel _ _ HB b2
        clear t2
        have t2 := u
        refine hK.out _ _ HB ?_
        clear hK K kp u
        simp only [Act.put, List.setIfInBounds_toArray, List.set_cons_zero, List.set_cons_succ]
        refine ready_take (i := 14) (v := ?_) rfl (by kernel_rfl) (by kernel_rfl) (by kernel_rfl) (by rfl) ?_ HB ?_; rotate_left; (focus (intro w' _; go_simp; try with_reducible rfl)); simp only [Act.put, List.setIfInBounds_toArray, List.set_cons_zero, List.set_cons_succ]
        exact wpAnyH_done (by kernel_rfl) ⟨rfl, g1, _, _, _, _, _, _, _, _, _, _, _, _, _, _, by rfl, ⟨t1, r1⟩, HB⟩ _
   ·refine wp_alloc_two (fun g2 V t2 bb hg => ?_)
    have b2 := Nat.le_trans HB.size hg
    replace HB := bx HB bb
    have ne : g1 ≠ g2 := Nat.ne_of_lt (Nat.lt_of_lt_of_le t1.lt hg)
    replace t1 := t1.to bb
    refine hK.out _ _ HB ?_
    clear hK K bb hg
    simp only [Act.put, List.setIfInBounds_toArray, List.set_cons_zero, List.set_cons_succ]
    refine rdy1 (i := 2) (by kernel_rfl) rfl (by rfl) (fun K hK => ?_)
    ·go_simp
     refine (neg_z (hA.to HB).zi).mono ?_
     rintro e V ⟨xn, yn, rfl, rn, bb⟩
     replace HB := bx HB bb
     replace t1 := t1.to bb
     replace t2 := t2.to bb
     refine hK.out _ _ HB ?_
     clear hK K bb
     refine rdy1 (i := 5) (by kernel_rfl) rfl (by rfl) (fun K hK => ?_)
     ·go_simp
      refine (dm_z (rn.zs HSN.out) (hB.to HB) HQ0.out HSN.out).mono ?_
      rintro e V ⟨A3, c3, A4, c4, rfl, z1, z2, e1, e2, e3, e4, bb⟩
      have r1 : Zc V (.bool (decide (-p / q < 0))) (.slice A3 (dig b32 (-p / q).natAbs).length c3) (-p / q) := ⟨A3, c3, rfl, rfl, z1, e1, e2⟩
      have r2 : Zc V (.bool (decide (-p % q < 0))) (.slice A4 (dig b32 (-p % q).natAbs).length c4) (-p % q) := ⟨A4, c4, rfl, rfl, z2, e3, e4⟩
      replace HB := bx HB bb
      replace t1 := t1.to bb
      replace t2 := t2.to bb
      refine hK.out _ _ HB ?_
      clear hK K bb rn z1 z2 e1 e2 e3 e4
      refine ready_take (i := 6) (v := ?_) rfl (by kernel_rfl) (by kernel_rfl) (by kernel_rfl) (by rfl) ?_ HB ?_; rotate_left; (focus (intro w' _; go_simp; try with_reducible rfl)); simp only [Act.put, List.setIfInBounds_toArray, List.set_cons_zero, List.set_cons_succ]
      refine ready_take (i := 7) (v := ?_) rfl (by kernel_rfl) (by kernel_rfl) (by kernel_rfl) (by rfl) ?_ HB ?_; rotate_left; (focus (intro w' _; go_simp; try with_reducible rfl)); simp only [Act.put, List.setIfInBounds_toArray, List.set_cons_zero, List.set_cons_succ]
      refine ready_take (i := 8) (v := ?_) rfl (by kernel_rfl) (by kernel_rfl) (by kernel_rfl) (by rfl) ?_ HB ?_; rotate_left; (focus (intro w' _; go_simp; try with_reducible rfl)); simp only [Act.put, List.setIfInBounds_toArray, List.set_cons_zero, List.set_cons_succ]
      refine ready_take (i := 9) (v := ?_) rfl (by kernel_rfl) (by kernel_rfl) (by kernel_rfl) (by rfl) ?_ HB ?_; rotate_left; (focus (intro w' _; go_simp; try with_reducible rfl)); simp only [Act.put, List.setIfInBounds_toArray, List.set_cons_zero, List.set_cons_succ]
      refine rdy1 (i := 12) (by kernel_rfl) rfl (by rfl) (fun K hK => ?_)
      ·refine wp_store_two (by rfl) (by rfl) t1 Fs.nil r1.fs (fun V u kp => ?_)
       replace t2 := kp.two _ _ _ (Ne.symm ne) t2
       replace r1 := kp.zc _ _ _ r1
       replace r2 := kp.zc _ _ _ r2
       replace HB := kp.bel _ _ HB b1
       clear t1
       have t1 := u
       refine hK.out _ _ HB ?_
       clear hK K kp u
       simp only [Act.put, List.setIfInBounds_toArray, List.set_cons_zero, List.set_cons_succ]
       refine rdy1 (i := 13) (by kernel_rfl) rfl (by rfl) (fun K hK => ?_)
       ·refine wp_store_two (by rfl) (by rfl) t2 Fs.nil r2.fs (fun V u kp => ?_)
        replace t1 := kp.two _ _ _ ne t1
        replace r1 := kp.zc _ _ _ r1
        replace r2 := kp.zc _ _ _ r2
        replace HB := kp.bel _ _ HB b2
        clear t2
        have t2 := u
        refine hK.out _ _ HB ?_
        clear hK K kp u
        simp only [Act.put, List.setIfInBounds_toArray, List.set_cons_zero, List.set_cons_succ]
        refine ready_take (i := 14) (v := ?_) rfl (by kernel_rfl) (by kernel_rfl) (by kernel_rfl) (by rfl) ?_ HB ?_; rotate_left; (focus (intro w' _; go_simp; try with_reducible rfl)); simp only [Act.put, List.setIfInBounds_toArray, List.set_cons_zero, List.set_cons_succ]
        exact wpAnyH_done (by kernel_rfl) ⟨rfl, g1, _, _, _, _, _, _, _, _, _, _, _, _, _, _, by rfl, ⟨t1, r1⟩, HB⟩ _
  ·refine wp_alloc_two (fun g2 V t2 bb hg => ?_)
   have b2 := Nat.le_trans HB.size hg
   replace HB := bx HB bb
   refine hK.out _ _ HB ?_
   clear hK K bb hg
   simp only [Act.put, List.setIfInBounds_toArray, List.set_cons_zero, List.set_cons_succ]
   refine wpAnyH_ready (rs := [2, 10]) (by kernel_rfl) (by simp) (ready_cons rfl (by rfl) (fun K hK => ?_) (ready_cons rfl (by rfl) (fun K hK => ?_) AllReadyH.nil))
   ·go_simp
    refine (neg_z (hA.to HB).zi).mono ?_
    rintro e V ⟨xn, yn, rfl, rn, bb⟩
    replace HB := bx HB bb
    replace t2 := t2.to bb
    refine hK.out _ _ HB ?_
    clear hK K bb
    refine wpAnyH_ready (rs := [5, 10]) (by kernel_rfl) (by simp) (ready_cons rfl (by rfl) (fun K hK => ?_) (ready_cons rfl (by rfl) (fun K hK => ?_) AllReadyH.nil))
    ·go_simp
     refine (dm_z (rn.zs HSN.out) (hB.to HB) HQ0.out HSN.out).mono ?_
     rintro e V ⟨A3, c3, A4, c4, rfl, z1, z2, e1, e2, e3, e4, bb⟩
     have r1 : Zc V (.bool (decide (-p / q < 0))) (.slice A3 (dig b32 (-p / q).natAbs).length c3) (-p / q) := ⟨A3, c3, rfl, rfl, z1, e1, e2⟩
     have r2 : Zc V (.bool (decide (-p % q < 0))) (.slice A4 (dig b32 (-p % q).natAbs).length c4) (-p % q) := ⟨A4, c4, rfl, rfl, z2, e3, e4⟩
     replace HB := bx HB bb
     replace t2 := t2.to bb
     refine hK.out _ _ HB ?_
     clear hK K bb rn z1 z2 e1 e2 e3 e4
     refine ready_take (i := 6) (v := ?_) rfl (by kernel_rfl) (by kernel_rfl) (by kernel_rfl) (by rfl) ?_ HB ?_; rotate_left; (focus (intro w' _; go_simp; try with_reducible rfl)); simp only [Act.put, List.setIfInBounds_toArray, List.set_cons_zero, List.set_cons_succ]
     refine ready_take (i := 7) (v := ?_) rfl (by kernel_rfl) (by kernel_rfl) (by kernel_rfl) (by rfl) ?_ HB ?_; rotate_left; (focus (intro w' _; go_simp; try with_reducible rfl)); simp only [Act.put, List.setIfInBounds_toArray, List.set_cons_zero, List.set_cons_succ]
     refine ready_take (i := 8) (v := ?_) rfl (by kernel_rfl) (by kernel_rfl) (by kernel_rfl) (by rfl) ?_ HB ?_; rotate_left; (focus (intro w' _; go_simp; try with_reducible rfl)); simp only [Act.put, List.setIfInBounds_toArray, List.set_cons_zero, List.set_cons_succ]
     refine ready_take (i := 9) (v := ?_) rfl (by kernel_rfl) (by kernel_rfl) (by kernel_rfl) (by rfl) ?_ HB ?_; rotate_left; (focus (intro w' _; go_simp; try with_reducible rfl)); simp only [Act.put, List.setIfInBounds_toArray, List.set_cons_zero, List.set_cons_succ]
     refine rdy1 (i := 10) (by kernel_rfl) rfl (by rfl) (fun K hK => ?_)
     ·refine wp_alloc_two (fun g1 V t1 bb hg => ?_)
      have b1 := Nat.le_trans HB.size hg
      replace HB := bx HB bb
      have ne : g1 ≠ g2 := Nat.ne_of_gt (Nat.lt_of_lt_of_le t2.lt hg)
      replace t2 := t2.to bb
      replace r1 := r1.to bb
      replace r2 := r2.to bb
      refine hK.out _ _ HB ?_
      clear hK K bb hg
      simp only [Act.put, List.setIfInBounds_toArray, List.set_cons_zero, List.set_cons_succ]
      refine rdy1 (i := 12) (by kernel_rfl) rfl (by rfl) (fun K hK => ?_)
      ·refine wp_store_two (by rfl) (by rfl) t1 Fs.nil r1.fs (fun V u kp => ?_)
       replace t2 := kp.two _ _ _ (Ne.symm ne) t2
       replace r1 := kp.zc _ _ _ r1
       replace r2 := kp.zc _ _ _ r2
       replace HB := kp.bel _ _ HB b1
       clear t1
       have t1 := u
       refine hK.out _ _ HB ?_
       clear hK K kp u
       simp only [Act.put, List.setIfInBounds_toArray, List.set_cons_zero, List.set_cons_succ]
       refine rdy1 (i := 13) (by kernel_rfl) rfl (by rfl) (fun K hK => ?_)
       ·refine wp_store_two (by rfl) (by rfl) t2 Fs.nil r2.fs (fun V u kp => ?_)
        replace t1 := kp.two _ _ _ ne t1
        replace r1 := kp.zc _ _ _ r1
        replace r2 := kp.zc _ _ _ r2
        replace HB := kp.bel _ _ HB b2
        clear t2
        have t2 := u
        refine hK.out _ _ HB ?_
        clear hK K kp u
        simp only [Act.put, List.setIfInBounds_toArray, List.set_cons_zero, List.set_cons_succ]
        refine ready_take (i := 14) (v := ?_) rfl (by kernel_rfl) (by kernel_rfl) (by kernel_rfl) (by rfl) ?_ HB ?_; rotate_left; (focus (intro w' _; go_simp; try with_reducible rfl)); simp only [Act.put, List.setIfInBounds_toArray, List.set_cons_zero, List.set_cons_succ]
        exact wpAnyH_done (by kernel_rfl) ⟨rfl, g1, _, _, _, _, _, _, _, _, _, _, _, _, _, _, by rfl, ⟨t1, r1⟩, HB⟩ _
    ·refine wp_alloc_two (fun g1 V t1 bb hg => ?_)
     have b1 := Nat.le_trans HB.size hg
     replace HB := bx HB bb
     have ne : g1 ≠ g2 := Nat.ne_of_gt (Nat.lt_of_lt_of_le t2.lt hg)
     replace t2 := t2.to bb
     replace rn := rn.to bb
     refine hK.out _ _ HB ?_
     clear hK K bb hg
     simp only [Act.put, List.setIfInBounds_toArray, List.set_cons_zero, List.set_cons_succ]
     refine rdy1 (i := 5) (by kernel_rfl) rfl (by rfl) (fun K hK => ?_)
     ·go_simp
      refine (dm_z (rn.zs HSN.out) (hB.to HB) HQ0.out HSN.out).mono ?_
      rintro e V ⟨A3, c3, A4, c4, rfl, z1, z2, e1, e2, e3, e4, bb⟩
      have r1 : Zc V (.bool (decide (-p / q < 0))) (.slice A3 (dig b32 (-p / q).natAbs).length c3) (-p / q) := ⟨A3, c3, rfl, rfl, z1, e1, e2⟩
      have r2 : Zc V (.bool (decide (-p % q < 0))) (.slice A4 (dig b32 (-p % q).natAbs).length c4) (-p % q) := ⟨A4, c4, rfl, rfl, z2, e3, e4⟩
      replace HB := bx HB bb
      replace t1 := t1.to bb
      replace t2 := t2.to bb
      refine hK.out _ _ HB ?_
      clear hK K bb rn z1 z2 e1 e2 e3 e4
      refine ready_take (i := 6) (v := ?_) rfl (by kernel_rfl) (by kernel_rfl) (by kernel_rfl) (by rfl) ?_ HB ?_; rotate_left; (focus (intro w' _; go_simp; try with_reducible rfl)); simp only [Act.put, List.setIfInBounds_toArray, List.set_cons_zero, List.set_cons_succ]
      refine ready_take (i := 7) (v := ?_) rfl (by kernel_rfl) (by kernel_rfl) (by kernel_rfl) (by rfl) ?_ HB ?_; rotate_left; (focus (intro w' _; go_simp; try with_reducible rfl)); simp only [Act.put, List.setIfInBounds_toArray, List.set_cons_zero, List.set_cons_succ]
      refine ready_take (i := 8) (v := ?_) rfl (by kernel_rfl) (by kernel_rfl) (by kernel_rfl) (by rfl) ?_ HB ?_; rotate_left; (focus (intro w' _; go_simp; try with_reducible rfl)); simp only [Act.put, List.setIfInBounds_toArray, List.set_cons_zero, List.set_cons_succ]
      refine ready_take (i := 9) (v := ?_) rfl (by kernel_rfl) (by kernel_rfl) (by kernel_rfl) (by rfl) ?_ HB ?_; rotate_left; (focus (intro w' _; go_simp; try with_reducible rfl)); simp only [Act.put, List.setIfInBounds_toArray, List.set_cons_zero, List.set_cons_succ]
      refine rdy1 (i := 12) (by kernel_rfl) rfl (by rfl) (fun K hK => ?_)
      ·refine wp_store_two (by rfl) (by rfl) t1 Fs.nil r1.fs (fun V u kp => ?_)
       replace t2 := kp.two _ _ _ (Ne.symm ne) t2
       replace r1 := kp.zc _ _ _ r1
       replace r2 := kp.zc _ _ _ r2
       replace HB := kp.bel _ _ HB b1
       clear t1
       have t1 := u
       refine hK.out _ _ HB ?_
       clear hK K kp u
       simp only [Act.put, List.setIfInBounds_toArray, List.set_cons_zero, List.set_cons_succ]
       refine rdy1 (i := 13) (by kernel_rfl) rfl (by rfl) (fun K hK => ?_)
       ·refine wp_store_two (by rfl) (by rfl) t2 Fs.nil r2.fs (fun V u kp => ?_)
        replace t1 := kp.two _ _ _ ne t1
        replace r1 := kp.zc _ _ _ r1
        replace r2 := kp.zc _ _ _ r2
        replace HB := kp.bel _ _ HB b2
        clear t2
        have t2 := u
        refine hK.out _ _ HB ?_
        clear hK K kp u
        simp only [Act.put, List.setIfInBounds_toArray, List.set_cons_zero, List.set_cons_succ]
        refine ready_take (i := 14) (v := ?_) rfl (by kernel_rfl) (by kernel_rfl) (by kernel_rfl) (by rfl) ?_ HB ?_; rotate_left; (focus (intro w' _; go_simp; try with_reducible rfl)); simp only [Act.put, List.setIfInBounds_toArray, List.set_cons_zero, List.set_cons_succ]
        exact wpAnyH_done (by kernel_rfl) ⟨rfl, g1, _, _, _, _, _, _, _, _, _, _, _, _, _, _, by rfl, ⟨t1, r1⟩, HB⟩ _
   ·refine wp_alloc_two (fun g1 V t1 bb hg => ?_)
    have b1 := Nat.le_trans HB.size hg
    replace HB := bx HB bb
    have ne : g1 ≠ g2 := Nat.ne_of_gt (Nat.lt_of_lt_of_le t2.lt hg)
    replace t2 := t2.to bb
    refine hK.out _ _ HB ?_
    clear hK K bb hg
    simp only [Act.put, List.setIfInBounds_toArray, List.set_cons_zero, List.set_cons_succ]
    refine rdy1 (i := 2) (by kernel_rfl) rfl (by rfl) (fun K hK => ?_)
    ·go_simp
     refine (neg_z (hA.to HB).zi).mono ?_
     rintro e V ⟨xn, yn, rfl, rn, bb⟩
     replace HB := bx HB bb
     replace t1 := t1.to bb
     replace t2 := t2.to bb
     refine hK.out _ _ HB ?_
     clear hK K bb
     refine rdy1 (i := 5) (by kernel_rfl) rfl (by rfl) (fun K hK => ?_)
     ·go_simp
      refine (dm_z (rn.zs HSN.out) (hB.to HB) HQ0.out HSN.out).mono ?_
      rintro e V ⟨A3, c3, A4, c4, rfl, z1, z2, e1, e2, e3, e4, bb⟩
      have r1 : Zc V (.bool (decide (-p / q < 0))) (.slice A3 (dig b32 (-p / q).natAbs).length c3) (-p / q) := ⟨A3, c3, rfl, rfl, z1, e1, e2⟩
      have r2 : Zc V (.bool (decide (-p % q < 0))) (.slice A4 (dig b32 (-p % q).natAbs).length c4) (-p % q) := ⟨A4, c4, rfl, rfl, z2, e3, e4⟩
      replace HB := bx HB bb
      replace t1 := t1.to bb
      replace t2 := t2.to bb
      refine hK.out _ _ HB ?_
      clear hK K bb rn z1 z2 e1 e2 e3 e4
      refine ready_take (i := 6) (v := ?_) rfl (by kernel_rfl) (by kernel_rfl) (by kernel_rfl) (by rfl) ?_ HB ?_; rotate_left; (focus (intro w' _; go_simp; try with_reducible rfl)); simp only [Act.put, List.setIfInBounds_toArray, List.set_cons_zero, List.set_cons_succ]
      refine ready_take (i := 7) (v := ?_) rfl (by kernel_rfl) (by kernel_rfl) (by kernel_rfl) (by rfl) ?_ HB ?_; rotate_left; (focus (intro w' _; go_simp; try with_reducible rfl)); simp only [Act.put, List.setIfInBounds_toArray, List.set_cons_zero, List.set_cons_succ]
      refine ready_take (i := 8) (v := ?_) rfl (by kernel_rfl) (by kernel_rfl) (by kernel_rfl) (by rfl) ?_ HB ?_; rotate_left; (focus (intro w' _; go_simp; try with_reducible rfl)); simp only [Act.put, List.setIfInBounds_toArray, List.set_cons_zero, List.set_cons_succ]
      refine ready_take (i := 9) (v := ?_) rfl (by kernel_rfl) (by kernel_rfl) (by kernel_rfl) (by rfl) ?_ HB ?_; rotate_left; (focus (intro w' _; go_simp; try with_reducible rfl)); simp only [Act.put, List.setIfInBounds_toArray, List.set_cons_zero, List.set_cons_succ]
      refine rdy1 (i := 12) (by kernel_rfl) rfl (by rfl) (fun K hK => ?_)
      ·refine wp_store_two (by rfl) (by rfl) t1 Fs.nil r1.fs (fun V u kp => ?_)
       replace t2 := kp.two _ _ _ (Ne.symm ne) t2
       replace r1 := kp.zc _ _ _ r1
       replace r2 := kp.zc _ _ _ r2
       replace HB := kp.bel _ _ HB b1
       clear t1
       have t1 := u
       refine hK.out _ _ HB ?_
       clear hK K kp u
       simp only [Act.put, List.setIfInBounds_toArray, List.set_cons_zero, List.set_cons_succ]
       refine rdy1 (i := 13) (by kernel_rfl) rfl (by rfl) (fun K hK => ?_)
       ·refine wp_store_two (by rfl) (by rfl) t2 Fs.nil r2.fs (fun V u kp => ?_)
        replace t1 := kp.two _ _ _ ne t1
        replace r1 := kp.zc _ _ _ r1
        replace r2 := kp.zc _ _ _ r2
        replace HB := kp.bel _ _ HB b2
        clear t2
        have t2 := u
        refine hK.out _ _ HB ?_
        clear hK K kp u
        simp only [Act.put, List.setIfInBounds_toArray, List.set_cons_zero, List.set_cons_succ]
        refine ready_take (i := 14) (v := ?_) rfl (by kernel_rfl) (by kernel_rfl) (by kernel_rfl) (by rfl) ?_ HB ?_; rotate_left; (focus (intro w' _; go_simp; try with_reducible rfl)); simp only [Act.put, List.setIfInBounds_toArray, List.set_cons_zero, List.set_cons_succ]
        exact wpAnyH_done (by kernel_rfl) ⟨rfl, g1, _, _, _, _, _, _, _, _, _, _, _, _, _, _, by rfl, ⟨t1, r1⟩, HB⟩ _
 rintro v' V3 ⟨g1, x, y, u10, u11, u12, u13, u14, u15, u9, u16, u17, u18, u5, u6, rfl, C4, HB2⟩
 simp only [Act.put, List.setIfInBounds_toArray, List.set_cons_zero, List.set_cons_succ]
 replace tR := tR.to HB2
 replace HB := hx HB HB2
 clear HB2 t3 hA hB
 have k0 := C4.two.c0
 have k1 := C4.two.c1
 have HSF : Hid (Sg (-p / q)) := by
  show Sg _
  have h := HSN.out
  have h1 := Int.natAbs_ediv_le_natAbs (-p) q
  unfold Sg at *
  omega
 go_wp2_with fail
 refine (neg_z (C4.zc.zs HSF.out).zi).mono ?_
 rintro e V4 ⟨xr, yr, rfl, rz, bb⟩
 replace tR := tR.to bb
 replace HB := hx HB bb
 clear k0 k1 C4 bb
 obtain ⟨z, ez⟩ : ∃ z, Hid (-(-p / q) = z) := ⟨_, rfl⟩
 rw [ez.out] at rz
 have RZ := Hd rz
 obtain ⟨A5, c5, rfl, rfl, -⟩ := rz
 obtain ⟨V5, eV, u, kp, _⟩ := pack2 tR Fs.nil (.bool (decide (z < 0))) (.slice A5 (dig b32 z.natAbs).length c5)
 obtain ⟨v0, v1, v2, v3, _⟩ := tR
 have EV := Hd eV
 have KP := Hd kp
 have U := Hd u
 clear eV kp u
 go_wp2
 rw [EV.out]
 refine bodyPost_ret (v := .agg #[.bool (decide (z < 0)), .slice A5 (dig b32 z.natAbs).length c5]) (by simp [results, Tryz.f44, go_sem, U.out.c0, U.out.c1]) rfl ?_
 rw [HR.out, ez.out]
 exact ⟨_, _, rfl, KP.out.zc _ _ _ RZ.out, KP.out.bel _ _ HB.out (by omega)⟩
end Go.Proofs.YtbmnloelimmgiaaGreat
