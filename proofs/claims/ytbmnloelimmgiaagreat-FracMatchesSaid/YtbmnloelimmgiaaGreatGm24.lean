/- Parts: 3. -/
import Derived.Test.YtbmnloelimmgiaaGreatGm5
import Derived.Test.YtbmnloelimmgiaaGreatGm15
import Derived.Test.YtbmnloelimmgiaaGreatGm23
import Derived.Below
import Derived.ChangeOld
import Derived.Laws.EntriesVeiled
import Derived.Lib.SmallJoins
import Derived.OpenShut
import Derived.ProofKit
import Derived.ShutString
import Derived.WalkKit
set_option linter.unusedVariables false
set_option linter.unusedSimpArgs false
set_option maxRecDepth 100000
set_option maxHeartbeats 40000000

namespace Go.Proofs.YtbmnloelimmgiaaGreat
open Go.RowKit Go.Shelf
theorem match_core {a1 a2 a3 a4 b1 b2 b3 b4 : Value} {n1 n2 n3 n4 : Bool} {xs1 xs2 xs3 xs4 : List Nat} {w : World} (h1 : Qx w a1 a2 a3 a4 n1 xs1 n2 xs2) (h2 : Qx w b1 b2 b3 b4 n3 xs3 n4 xs4) (l1 : xs1.length <= 6) (l2 : xs2.length <= 6) (l3 : xs3.length <= 6) (l4 : xs4.length <= 6)
  (hL : ∀ (V : World) (g : Nat), V.heap[g]? = some (.cells #[a1, a2, a3, a4, b1, b2, b3, b4] 26 (0, 0)) -> Calls Tryz.prog 5 #[.slice (some ⟨g, 0, none⟩) 2 2] V fun e w' => e = .returned (.bool false) /\ Below V.heap.size V w') :
  Calls Tryz.prog 3 #[.agg #[a1, a2, a3, a4], .agg #[b1, b2, b3, b4]] w fun e w' => e = .returned (.bool true) /\ Below w.heap.size w w' := by
 obtain ⟨a, ha⟩ : ∃ a, rv (zof n1 (val b32 xs1)) (zof n2 (val b32 xs2)) = a := ⟨_, rfl⟩
 obtain ⟨b, hb'⟩ : ∃ b, rv (zof n3 (val b32 xs3)) (zof n4 (val b32 xs4)) = b := ⟨_, rfl⟩
 have qa : ∀ {V : World} {c1 c2 c3 c4 : Value}, Qx V c1 c2 c3 c4 n1 xs1 n2 xs2 -> Qi V c1 c2 c3 c4 a 6 := fun h => ha ▸ h.qi l1 l2 (by decide)
 have qb : ∀ {V : World} {c1 c2 c3 c4 : Value}, Qx V c1 c2 c3 c4 n3 xs3 n4 xs4 -> Qi V c1 c2 c3 c4 b 6 := fun h => hb' ▸ h.qi l3 l4 (by decide)
 have mA : Qm 6 a := (qa h1).qm (by decide)
 have mB : Qm 6 b := (qb h2).qm (by decide)
 have OA : Hid (∀ {V : World} {c1 c2 c3 c4 : Value}, Qx V c1 c2 c3 c4 n1 xs1 n2 xs2 -> Calls Tryz.prog 7 #[.agg #[c1, c2, c3, c4]] V fun e w' => ∃ a b c d, e = .returned (.agg #[a, b, c, d]) /\ Qx w' a b c d n1 xs1 n2 xs2 /\ Below V.heap.size V w') := fun h => own_q h (by omega) (by omega)
 have OB : Hid (∀ {V : World} {c1 c2 c3 c4 : Value}, Qx V c1 c2 c3 c4 n3 xs3 n4 xs4 -> Calls Tryz.prog 7 #[.agg #[c1, c2, c3, c4]] V fun e w' => ∃ a b c d, e = .returned (.agg #[a, b, c, d]) /\ Qx w' a b c d n3 xs3 n4 xs4 /\ Below V.heap.size V w') := fun h => own_q h (by omega) (by omega)
 have QA : Hid (∀ {V : World} {c1 c2 c3 c4 : Value}, Qx V c1 c2 c3 c4 n1 xs1 n2 xs2 -> Qi V c1 c2 c3 c4 a 6) := @qa
 have QB : Hid (∀ {V : World} {c1 c2 c3 c4 : Value}, Qx V c1 c2 c3 c4 n3 xs3 n4 xs4 -> Qi V c1 c2 c3 c4 b 6) := @qb
 clear ha hb' l1 l2 l3 l4 qa qb
 obtain ⟨W0, hW0⟩ : ∃ W0, W0 = ((w.alloc (.cells #[a1, a2, a3, a4] 26)).alloc (.cells #[b1, b2, b3, b4] 26)).alloc (.cells #[a1, a2, a3, a4, b1, b2, b3, b4] 26) := ⟨_, rfl⟩
 have hb : Below w.heap.size w W0 := by rw [hW0]; exact (((Below.refl _ _).alloc (Nat.le_refl _) _).alloc (by simp) _).alloc (by simp; omega) _
 have tA : Four W0 w.heap.size a1 a2 a3 a4 := by rw [hW0]; exact ((Four.new w _ _ _ _ _).alloc _).alloc _
 have tB : Four W0 (w.heap.size + 1) b1 b2 b3 b4 := by
  have h := Four.new (w.alloc (.cells #[a1, a2, a3, a4] 26)) b1 b2 b3 b4 26
  rw [World.size_alloc] at h
  rw [hW0]; exact h.alloc _
 have xA := h1.to hb
 have xB := h2.to hb
 have HL : Hid (Calls Tryz.prog 5 #[.slice (some ⟨w.heap.size + 1 + 1, 0, none⟩) 2 2] W0 fun e w' => e = .returned (.bool false) /\ Below W0.heap.size W0 w') := by
  have h := World.alloc_heap_new ((w.alloc (.cells #[a1, a2, a3, a4] 26)).alloc (.cells #[b1, b2, b3, b4] 26)) (.cells #[a1, a2, a3, a4, b1, b2, b3, b4] 26)
  rw [World.size_alloc, World.size_alloc, <- hW0] at h
  exact hL W0 (w.heap.size + 1 + 1) h
 have HW0 := Hd hW0
 have HB0 := Hd hb
 clear hL hW0 hb h1 h2
 go_enter Tryz.func3, Tryz.ntmps3
 go_wp2_with fail
 rw [<- HW0.out]
 clear HW0
 refine HL.out.mono ?_
 rintro e W1 ⟨rfl, bb⟩
 clear HL
 replace tA := tA.to bb
 replace tB := tB.to bb
 replace xA := xA.to bb
 replace xB := xB.to bb
 replace HB0 := hx HB0 bb
 clear bb
 go_wp2_with fail
 refine wp_cut (fun a' v' w' => ∃ (g1 g2 : Nat) (u10 u11 u12 u13 u20 u21 u22 u23 x0 x1 : Value), v' = ((((((a'.put (some 17) x0).put (some 18) (.agg #[u10, u11, u12, u13])).put (some 19) x1).put (some 20) (.agg #[u20, u21, u22, u23])).put (some 5) (.pointer (some ⟨g1, 0, none⟩))).put (some 6) (.pointer (some ⟨g2, 0, none⟩))) /\ Four w' g1 u10 u11 u12 u13 /\ Four w' g2 u20 u21 u22 u23 /\ Qx w' u10 u11 u12 u13 n1 xs1 n2 xs2 /\ Qx w' u20 u21 u22 u23 n3 xs3 n4 xs4 /\ Below W1.heap.size W1 w') ?_ ?_
 ·refine wp_region_planTo (S := fun w' => Below W1.heap.size W1 w') [(0, true), (2, true)] #[true, false, true, false, false, false, false, false] 6 (by kernel_rfl) (by kernel_rfl) (Below.refl _ _).drew ?_
  refine plan_take rfl (by rfl) (fun w' hS => load_four (by rfl) (tA.to hS)) ?_; simp only [Act.put, List.setIfInBounds_toArray, List.set_cons_zero, List.set_cons_succ]
  refine plan_take rfl (by rfl) (fun w' hS => load_four (by rfl) (tB.to hS)) ?_; simp only [Act.put, List.setIfInBounds_toArray, List.set_cons_zero, List.set_cons_succ]
  intro HB
  refine wpAnyH_ready (rs := [1, 4, 5]) (by kernel_rfl) (by simp) (ready_cons rfl (by rfl) (fun K hK => ?_) (ready_cons rfl (by rfl) (fun K hK => ?_) (ready_cons rfl (by rfl) (fun K hK => ?_) AllReadyH.nil)))
  ·go_simp
   refine (OA.out (xA.to HB)).mono ?_
   rintro e V ⟨u10, u11, u12, u13, rfl, r1, bb⟩
   replace HB := bx HB bb
   refine hK.out _ _ HB ?_
   clear hK K bb
   refine wpAnyH_ready (rs := [3, 4, 5]) (by kernel_rfl) (by simp) (ready_cons rfl (by rfl) (fun K hK => ?_) (ready_cons rfl (by rfl) (fun K hK => ?_) (ready_cons rfl (by rfl) (fun K hK => ?_) AllReadyH.nil)))
   ·go_simp
    refine (OB.out (xB.to HB)).mono ?_
    rintro e V ⟨u20, u21, u22, u23, rfl, r2, bb⟩
    replace HB := bx HB bb
    replace r1 := r1.to bb
    refine hK.out _ _ HB ?_
    clear hK K bb
    refine wpAnyH_ready (rs := [4, 5]) (by kernel_rfl) (by simp) (ready_cons rfl (by rfl) (fun K hK => ?_) (ready_cons rfl (by rfl) (fun K hK => ?_) AllReadyH.nil))
    ·refine wp_alloc_four (fun g1 V t1 bb hg => ?_)
     have b1 := Nat.le_trans HB.size hg
     replace HB := bx HB bb
     replace r1 := r1.to bb
     replace r2 := r2.to bb
     refine hK.out _ _ HB ?_
     clear hK K bb hg
     simp only [Act.put, List.setIfInBounds_toArray, List.set_cons_zero, List.set_cons_succ]
     refine rdy1 (i := 5) (by kernel_rfl) rfl (by rfl) (fun K hK => ?_)
     ·refine wp_alloc_four (fun g2 V t2 bb hg => ?_)
      have b2 := Nat.le_trans HB.size hg
      replace HB := bx HB bb
      have ne : g1 ≠ g2 := Nat.ne_of_lt (Nat.lt_of_lt_of_le t1.lt hg)
      replace t1 := t1.to bb
      replace r1 := r1.to bb
      replace r2 := r2.to bb
      refine hK.out _ _ HB ?_
      clear hK K bb hg
      simp only [Act.put, List.setIfInBounds_toArray, List.set_cons_zero, List.set_cons_succ]
      refine rdy1 (i := 6) (by kernel_rfl) rfl (by rfl) (fun K hK => ?_)
      ·refine wp_store_q (by rfl) (by rfl) t1 Fq.nil r1.fq (fun V u kp => ?_)
       replace t2 := kp.four (Ne.symm ne) t2
       replace r1 := kpQx kp r1
       replace r2 := kpQx kp r2
       replace HB := kp.bel _ _ HB b1
       clear t1
       have t1 := u
       refine hK.out _ _ HB ?_
       clear hK K kp u
       simp only [Act.put, List.setIfInBounds_toArray, List.set_cons_zero, List.set_cons_succ]
       refine rdy1 (i := 7) (by kernel_rfl) rfl (by rfl) (fun K hK => ?_)
       ·refine wp_store_q (by rfl) (by rfl) t2 Fq.nil r2.fq (fun V u kp => ?_)
        replace t1 := kp.four ne t1
        replace r1 := kpQx kp r1
        replace r2 := kpQx kp r2
        replace HB := kp.bel _ _ HB b2
        clear t2
        have t2 := u
        refine hK.out _ _ HB ?_
        clear hK K kp u
        simp only [Act.put, List.setIfInBounds_toArray, List.set_cons_zero, List.set_cons_succ]
        exact wpAnyH_done (by kernel_rfl) ⟨rfl, g1, g2, _, _, _, _, _, _, _, _, _, _,  by rfl, t1, t2, r1, r2, HB⟩ _
    ·refine wp_alloc_four (fun g2 V t2 bb hg => ?_)
     have b2 := Nat.le_trans HB.size hg
     replace HB := bx HB bb
     replace r1 := r1.to bb
     replace r2 := r2.to bb
     refine hK.out _ _ HB ?_
     clear hK K bb hg
     simp only [Act.put, List.setIfInBounds_toArray, List.set_cons_zero, List.set_cons_succ]
     refine rdy1 (i := 4) (by kernel_rfl) rfl (by rfl) (fun K hK => ?_)
     ·refine wp_alloc_four (fun g1 V t1 bb hg => ?_)
      have b1 := Nat.le_trans HB.size hg
      replace HB := bx HB bb
      have ne : g1 ≠ g2 := Nat.ne_of_gt (Nat.lt_of_lt_of_le t2.lt hg)
      replace t2 := t2.to bb
      replace r1 := r1.to bb
      replace r2 := r2.to bb
      refine hK.out _ _ HB ?_
      clear hK K bb hg
      simp only [Act.put, List.setIfInBounds_toArray, List.set_cons_zero, List.set_cons_succ]
      refine rdy1 (i := 6) (by kernel_rfl) rfl (by rfl) (fun K hK => ?_)
      ·refine wp_store_q (by rfl) (by rfl) t1 Fq.nil r1.fq (fun V u kp => ?_)
       replace t2 := kp.four (Ne.symm ne) t2
       replace r1 := kpQx kp r1
       replace r2 := kpQx kp r2
       replace HB := kp.bel _ _ HB b1
       clear t1
       have t1 := u
       refine hK.out _ _ HB ?_
       clear hK K kp u
       simp only [Act.put, List.setIfInBounds_toArray, List.set_cons_zero, List.set_cons_succ]
       refine rdy1 (i := 7) (by kernel_rfl) rfl (by rfl) (fun K hK => ?_)
       ·refine wp_store_q (by rfl) (by rfl) t2 Fq.nil r2.fq (fun V u kp => ?_)
        replace t1 := kp.four ne t1
        replace r1 := kpQx kp r1
        replace r2 := kpQx kp r2
        replace HB := kp.bel _ _ HB b2
        clear t2
        have t2 := u
        refine hK.out _ _ HB ?_
        clear hK K kp u
        simp only [Act.put, List.setIfInBounds_toArray, List.set_cons_zero, List.set_cons_succ]
        exact wpAnyH_done (by kernel_rfl) ⟨rfl, g1, g2, _, _, _, _, _, _, _, _, _, _,  by rfl, t1, t2, r1, r2, HB⟩ _
   ·refine wp_alloc_four (fun g1 V t1 bb hg => ?_)
    have b1 := Nat.le_trans HB.size hg
    replace HB := bx HB bb
    replace r1 := r1.to bb
    refine hK.out _ _ HB ?_
    clear hK K bb hg
    simp only [Act.put, List.setIfInBounds_toArray, List.set_cons_zero, List.set_cons_succ]
    refine wpAnyH_ready (rs := [3, 5]) (by kernel_rfl) (by simp) (ready_cons rfl (by rfl) (fun K hK => ?_) (ready_cons rfl (by rfl) (fun K hK => ?_) AllReadyH.nil))
    ·go_simp
     refine (OB.out (xB.to HB)).mono ?_
     rintro e V ⟨u20, u21, u22, u23, rfl, r2, bb⟩
     replace HB := bx HB bb
     replace t1 := t1.to bb
     replace r1 := r1.to bb
     refine hK.out _ _ HB ?_
     clear hK K bb
     refine rdy1 (i := 5) (by kernel_rfl) rfl (by rfl) (fun K hK => ?_)
     ·refine wp_alloc_four (fun g2 V t2 bb hg => ?_)
      have b2 := Nat.le_trans HB.size hg
      replace HB := bx HB bb
      have ne : g1 ≠ g2 := Nat.ne_of_lt (Nat.lt_of_lt_of_le t1.lt hg)
      replace t1 := t1.to bb
      replace r1 := r1.to bb
      replace r2 := r2.to bb
      refine hK.out _ _ HB ?_
      clear hK K bb hg
      simp only [Act.put, List.setIfInBounds_toArray, List.set_cons_zero, List.set_cons_succ]
      refine rdy1 (i := 6) (by kernel_rfl) rfl (by rfl) (fun K hK => ?_)
      ·refine wp_store_q (by rfl) (by rfl) t1 Fq.nil r1.fq (fun V u kp => ?_)
       replace t2 := kp.four (Ne.symm ne) t2
       replace r1 := kpQx kp r1
       replace r2 := kpQx kp r2
       replace HB := kp.bel _ _ HB b1
       clear t1
       have t1 := u
       refine hK.out _ _ HB ?_
       clear hK K kp u
       simp only [Act.put, List.setIfInBounds_toArray, List.set_cons_zero, List.set_cons_succ]
       refine rdy1 (i := 7) (by kernel_rfl) rfl (by rfl) (fun K hK => ?_)
       ·refine wp_store_q (by rfl) (by rfl) t2 Fq.nil r2.fq (fun V u kp => ?_)
        replace t1 := kp.four ne t1
        replace r1 := kpQx kp r1
        replace r2 := kpQx kp r2
        replace HB := kp.bel _ _ HB b2
        clear t2
        have t2 := u
        refine hK.out _ _ HB ?_
        clear hK K kp u
        simp only [Act.put, List.setIfInBounds_toArray, List.set_cons_zero, List.set_cons_succ]
        exact wpAnyH_done (by kernel_rfl) ⟨rfl, g1, g2, _, _, _, _, _, _, _, _, _, _,  by rfl, t1, t2, r1, r2, HB⟩ _
    ·refine wp_alloc_four (fun g2 V t2 bb hg => ?_)
     have b2 := Nat.le_trans HB.size hg
     replace HB := bx HB bb
     have ne : g1 ≠ g2 := Nat.ne_of_lt (Nat.lt_of_lt_of_le t1.lt hg)
     replace t1 := t1.to bb
     replace r1 := r1.to bb
     refine hK.out _ _ HB ?_
     clear hK K bb hg
     simp only [Act.put, List.setIfInBounds_toArray, List.set_cons_zero, List.set_cons_succ]
     refine rdy1 (i := 3) (by kernel_rfl) rfl (by rfl) (fun K hK => ?_)
     ·go_simp
      refine (OB.out (xB.to HB)).mono ?_
      rintro e V ⟨u20, u21, u22, u23, rfl, r2, bb⟩
      replace HB := bx HB bb
      replace t1 := t1.to bb
      replace t2 := t2.to bb
      replace r1 := r1.to bb
      refine hK.out _ _ HB ?_
      clear hK K bb
      refine rdy1 (i := 6) (by kernel_rfl) rfl (by rfl) (fun K hK => ?_)
      ·refine wp_store_q (by rfl) (by rfl) t1 Fq.nil r1.fq (fun V u kp => ?_)
       replace t2 := kp.four (Ne.symm ne) t2
       replace r1 := kpQx kp r1
       replace r2 := kpQx kp r2
       replace HB := kp.bel _ _ HB b1
       clear t1
       have t1 := u
       refine hK.out _ _ HB ?_
       clear hK K kp u
       simp only [Act.put, List.setIfInBounds_toArray, List.set_cons_zero, List.set_cons_succ]
       refine rdy1 (i := 7) (by kernel_rfl) rfl (by rfl) (fun K hK => ?_)
       ·refine wp_store_q (by rfl) (by rfl) t2 Fq.nil r2.fq (fun V u kp => ?_)
        replace t1 := kp.four ne t1
        replace r1 := kpQx kp r1
        replace r2 := kpQx kp r2
        replace HB := kp.bel _ _ HB b2
        clear t2
        have t2 := u
        refine hK.out _ _ HB ?_
        clear hK K kp u
        simp only [Act.put, List.setIfInBounds_toArray, List.set_cons_zero, List.set_cons_succ]
        exact wpAnyH_done (by kernel_rfl) ⟨rfl, g1, g2, _, _, _, _, _, _, _, _, _, _,  by rfl, t1, t2, r1, r2, HB⟩ _
   ·refine wp_alloc_four (fun g2 V t2 bb hg => ?_)
    have b2 := Nat.le_trans HB.size hg
    replace HB := bx HB bb
    replace r1 := r1.to bb
    refine hK.out _ _ HB ?_
    clear hK K bb hg
    simp only [Act.put, List.setIfInBounds_toArray, List.set_cons_zero, List.set_cons_succ]
    refine wpAnyH_ready (rs := [3, 4]) (by kernel_rfl) (by simp) (ready_cons rfl (by rfl) (fun K hK => ?_) (ready_cons rfl (by rfl) (fun K hK => ?_) AllReadyH.nil))
    ·go_simp
     refine (OB.out (xB.to HB)).mono ?_
     rintro e V ⟨u20, u21, u22, u23, rfl, r2, bb⟩
     replace HB := bx HB bb
     replace t2 := t2.to bb
     replace r1 := r1.to bb
     refine hK.out _ _ HB ?_
     clear hK K bb
     refine rdy1 (i := 4) (by kernel_rfl) rfl (by rfl) (fun K hK => ?_)
     ·refine wp_alloc_four (fun g1 V t1 bb hg => ?_)
      have b1 := Nat.le_trans HB.size hg
      replace HB := bx HB bb
      have ne : g1 ≠ g2 := Nat.ne_of_gt (Nat.lt_of_lt_of_le t2.lt hg)
      replace t2 := t2.to bb
      replace r1 := r1.to bb
      replace r2 := r2.to bb
      refine hK.out _ _ HB ?_
      clear hK K bb hg
      simp only [Act.put, List.setIfInBounds_toArray, List.set_cons_zero, List.set_cons_succ]
      refine rdy1 (i := 6) (by kernel_rfl) rfl (by rfl) (fun K hK => ?_)
      ·refine wp_store_q (by rfl) (by rfl) t1 Fq.nil r1.fq (fun V u kp => ?_)
       replace t2 := kp.four (Ne.symm ne) t2
       replace r1 := kpQx kp r1
       replace r2 := kpQx kp r2
       replace HB := kp.bel _ _ HB b1
       clear t1
       have t1 := u
       refine hK.out _ _ HB ?_
       clear hK K kp u
       simp only [Act.put, List.setIfInBounds_toArray, List.set_cons_zero, List.set_cons_succ]
       refine rdy1 (i := 7) (by kernel_rfl) rfl (by rfl) (fun K hK => ?_)
       ·refine wp_store_q (by rfl) (by rfl) t2 Fq.nil r2.fq (fun V u kp => ?_)
        replace t1 := kp.four ne t1
        replace r1 := kpQx kp r1
        replace r2 := kpQx kp r2
        replace HB := kp.bel _ _ HB b2
        clear t2
        have t2 := u
        refine hK.out _ _ HB ?_
        clear hK K kp u
        simp only [Act.put, List.setIfInBounds_toArray, List.set_cons_zero, List.set_cons_succ]
        exact wpAnyH_done (by kernel_rfl) ⟨rfl, g1, g2, _, _, _, _, _, _, _, _, _, _,  by rfl, t1, t2, r1, r2, HB⟩ _
    ·refine wp_alloc_four (fun g1 V t1 bb hg => ?_)
     have b1 := Nat.le_trans HB.size hg
     replace HB := bx HB bb
     have ne : g1 ≠ g2 := Nat.ne_of_gt (Nat.lt_of_lt_of_le t2.lt hg)
     replace t2 := t2.to bb
     replace r1 := r1.to bb
     refine hK.out _ _ HB ?_
     clear hK K bb hg
     simp only [Act.put, List.setIfInBounds_toArray, List.set_cons_zero, List.set_cons_succ]
     refine rdy1 (i := 3) (by kernel_rfl) rfl (by rfl) (fun K hK => ?_)
     ·go_simp
      refine (OB.out (xB.to HB)).mono ?_
      rintro e V ⟨u20, u21, u22, u23, rfl, r2, bb⟩
      replace HB := bx HB bb
      replace t1 := t1.to bb
      replace t2 := t2.to bb
      replace r1 := r1.to bb
      refine hK.out _ _ HB ?_
      clear hK K bb
      refine rdy1 (i := 6) (by kernel_rfl) rfl (by rfl) (fun K hK => ?_)
      ·refine wp_store_q (by rfl) (by rfl) t1 Fq.nil r1.fq (fun V u kp => ?_)
       replace t2 := kp.four (Ne.symm ne) t2
       replace r1 := kpQx kp r1
       replace r2 := kpQx kp r2
       replace HB := kp.bel _ _ HB b1
       clear t1
       have t1 := u
       refine hK.out _ _ HB ?_
       clear hK K kp u
       simp only [Act.put, List.setIfInBounds_toArray, List.set_cons_zero, List.set_cons_succ]
       refine rdy1 (i := 7) (by kernel_rfl) rfl (by rfl) (fun K hK => ?_)
       ·refine wp_store_q (by rfl) (by rfl) t2 Fq.nil r2.fq (fun V u kp => ?_)
        replace t1 := kp.four ne t1
        replace r1 := kpQx kp r1
        replace r2 := kpQx kp r2
        replace HB := kp.bel _ _ HB b2
        clear t2
        have t2 := u
        refine hK.out _ _ HB ?_
        clear hK K kp u
        simp only [Act.put, List.setIfInBounds_toArray, List.set_cons_zero, List.set_cons_succ]
        exact wpAnyH_done (by kernel_rfl) ⟨rfl, g1, g2, _, _, _, _, _, _, _, _, _, _,  by rfl, t1, t2, r1, r2, HB⟩ _
  ·refine wp_alloc_four (fun g1 V t1 bb hg => ?_)
   have b1 := Nat.le_trans HB.size hg
   replace HB := bx HB bb
   refine hK.out _ _ HB ?_
   clear hK K bb hg
   simp only [Act.put, List.setIfInBounds_toArray, List.set_cons_zero, List.set_cons_succ]
   refine wpAnyH_ready (rs := [1, 5]) (by kernel_rfl) (by simp) (ready_cons rfl (by rfl) (fun K hK => ?_) (ready_cons rfl (by rfl) (fun K hK => ?_) AllReadyH.nil))
   ·go_simp
    refine (OA.out (xA.to HB)).mono ?_
    rintro e V ⟨u10, u11, u12, u13, rfl, r1, bb⟩
    replace HB := bx HB bb
    replace t1 := t1.to bb
    refine hK.out _ _ HB ?_
    clear hK K bb
    refine wpAnyH_ready (rs := [3, 5]) (by kernel_rfl) (by simp) (ready_cons rfl (by rfl) (fun K hK => ?_) (ready_cons rfl (by rfl) (fun K hK => ?_) AllReadyH.nil))
    ·go_simp
     refine (OB.out (xB.to HB)).mono ?_
     rintro e V ⟨u20, u21, u22, u23, rfl, r2, bb⟩
     replace HB := bx HB bb
     replace t1 := t1.to bb
     replace r1 := r1.to bb
     refine hK.out _ _ HB ?_
     clear hK K bb
     refine rdy1 (i := 5) (by kernel_rfl) rfl (by rfl) (fun K hK => ?_)
     ·refine wp_alloc_four (fun g2 V t2 bb hg => ?_)
      have b2 := Nat.le_trans HB.size hg
      replace HB := bx HB bb
      have ne : g1 ≠ g2 := Nat.ne_of_lt (Nat.lt_of_lt_of_le t1.lt hg)
      replace t1 := t1.to bb
      replace r1 := r1.to bb
      replace r2 := r2.to bb
      refine hK.out _ _ HB ?_
      clear hK K bb hg
      simp only [Act.put, List.setIfInBounds_toArray, List.set_cons_zero, List.set_cons_succ]
      refine rdy1 (i := 6) (by kernel_rfl) rfl (by rfl) (fun K hK => ?_)
      ·refine wp_store_q (by rfl) (by rfl) t1 Fq.nil r1.fq (fun V u kp => ?_)
       replace t2 := kp.four (Ne.symm ne) t2
       replace r1 := kpQx kp r1
       replace r2 := kpQx kp r2
       replace HB := kp.bel _ _ HB b1
       clear t1
       have t1 := u
       refine hK.out _ _ HB ?_
       clear hK K kp u
       simp only [Act.put, List.setIfInBounds_toArray, List.set_cons_zero, List.set_cons_succ]
       refine rdy1 (i := 7) (by kernel_rfl) rfl (by rfl) (fun K hK => ?_)
       ·refine wp_store_q (by rfl) (by rfl) t2 Fq.nil r2.fq (fun V u kp => ?_)
        replace t1 := kp.four ne t1
        replace r1 := kpQx kp r1
        replace r2 := kpQx kp r2
        replace HB := kp.bel _ _ HB b2
        clear t2
        have t2 := u
        refine hK.out _ _ HB ?_
        clear hK K kp u
        simp only [Act.put, List.setIfInBounds_toArray, List.set_cons_zero, List.set_cons_succ]
        exact wpAnyH_done (by kernel_rfl) ⟨rfl, g1, g2, _, _, _, _, _, _, _, _, _, _,  by rfl, t1, t2, r1, r2, HB⟩ _
    ·refine wp_alloc_four (fun g2 V t2 bb hg => ?_)
     have b2 := Nat.le_trans HB.size hg
     replace HB := bx HB bb
     have ne : g1 ≠ g2 := Nat.ne_of_lt (Nat.lt_of_lt_of_le t1.lt hg)
     replace t1 := t1.to bb
     replace r1 := r1.to bb
     refine hK.out _ _ HB ?_
     clear hK K bb hg
     simp only [Act.put, List.setIfInBounds_toArray, List.set_cons_zero, List.set_cons_succ]
     refine rdy1 (i := 3) (by kernel_rfl) rfl (by rfl) (fun K hK => ?_)
     ·go_simp
      refine (OB.out (xB.to HB)).mono ?_
      rintro e V ⟨u20, u21, u22, u23, rfl, r2, bb⟩
      replace HB := bx HB bb
      replace t1 := t1.to bb
      replace t2 := t2.to bb
      replace r1 := r1.to bb
      refine hK.out _ _ HB ?_
      clear hK K bb
      refine rdy1 (i := 6) (by kernel_rfl) rfl (by rfl) (fun K hK => ?_)
      ·refine wp_store_q (by rfl) (by rfl) t1 Fq.nil r1.fq (fun V u kp => ?_)
       replace t2 := kp.four (Ne.symm ne) t2
       replace r1 := kpQx kp r1
       replace r2 := kpQx kp r2
       replace HB := kp.bel _ _ HB b1
       clear t1
       have t1 := u
       refine hK.out _ _ HB ?_
       clear hK K kp u
       simp only [Act.put, List.setIfInBounds_toArray, List.set_cons_zero, List.set_cons_succ]
       refine rdy1 (i := 7) (by kernel_rfl) rfl (by rfl) (fun K hK => ?_)
       ·refine wp_store_q (by rfl) (by rfl) t2 Fq.nil r2.fq (fun V u kp => ?_)
        replace t1 := kp.four ne t1
        replace r1 := kpQx kp r1
        replace r2 := kpQx kp r2
        replace HB := kp.bel _ _ HB b2
        clear t2
        have t2 := u
        refine hK.out _ _ HB ?_
        clear hK K kp u
        simp only [Act.put, List.setIfInBounds_toArray, List.set_cons_zero, List.set_cons_succ]
        exact wpAnyH_done (by kernel_rfl) ⟨rfl, g1, g2, _, _, _, _, _, _, _, _, _, _,  by rfl, t1, t2, r1, r2, HB⟩ _
   ·refine wp_alloc_four (fun g2 V t2 bb hg => ?_)
    have b2 := Nat.le_trans HB.size hg
    replace HB := bx HB bb
    have ne : g1 ≠ g2 := Nat.ne_of_lt (Nat.lt_of_lt_of_le t1.lt hg)
    replace t1 := t1.to bb
    refine hK.out _ _ HB ?_
    clear hK K bb hg
    simp only [Act.put, List.setIfInBounds_toArray, List.set_cons_zero, List.set_cons_succ]
    refine rdy1 (i := 1) (by kernel_rfl) rfl (by rfl) (fun K hK => ?_)
    ·go_simp
     refine (OA.out (xA.to HB)).mono ?_
     rintro e V ⟨u10, u11, u12, u13, rfl, r1, bb⟩
     replace HB := bx HB bb
     replace t1 := t1.to bb
     replace t2 := t2.to bb
     refine hK.out _ _ HB ?_
     clear hK K bb
     refine rdy1 (i := 3) (by kernel_rfl) rfl (by rfl) (fun K hK => ?_)
     ·go_simp
      refine (OB.out (xB.to HB)).mono ?_
      rintro e V ⟨u20, u21, u22, u23, rfl, r2, bb⟩
      replace HB := bx HB bb
      replace t1 := t1.to bb
      replace t2 := t2.to bb
      replace r1 := r1.to bb
      refine hK.out _ _ HB ?_
      clear hK K bb
      refine rdy1 (i := 6) (by kernel_rfl) rfl (by rfl) (fun K hK => ?_)
      ·refine wp_store_q (by rfl) (by rfl) t1 Fq.nil r1.fq (fun V u kp => ?_)
       replace t2 := kp.four (Ne.symm ne) t2
       replace r1 := kpQx kp r1
       replace r2 := kpQx kp r2
       replace HB := kp.bel _ _ HB b1
       clear t1
       have t1 := u
       refine hK.out _ _ HB ?_
       clear hK K kp u
       simp only [Act.put, List.setIfInBounds_toArray, List.set_cons_zero, List.set_cons_succ]
       refine rdy1 (i := 7) (by kernel_rfl) rfl (by rfl) (fun K hK => ?_)
       ·refine wp_store_q (by rfl) (by rfl) t2 Fq.nil r2.fq (fun V u kp => ?_)
        replace t1 := kp.four ne t1
        replace r1 := kpQx kp r1
        replace r2 := kpQx kp r2
        replace HB := kp.bel _ _ HB b2
        clear t2
        have t2 := u
        refine hK.out _ _ HB ?_
        clear hK K kp u
        simp only [Act.put, List.setIfInBounds_toArray, List.set_cons_zero, List.set_cons_succ]
        exact wpAnyH_done (by kernel_rfl) ⟨rfl, g1, g2, _, _, _, _, _, _, _, _, _, _,  by rfl, t1, t2, r1, r2, HB⟩ _
  ·refine wp_alloc_four (fun g2 V t2 bb hg => ?_)
   have b2 := Nat.le_trans HB.size hg
   replace HB := bx HB bb
   refine hK.out _ _ HB ?_
   clear hK K bb hg
   simp only [Act.put, List.setIfInBounds_toArray, List.set_cons_zero, List.set_cons_succ]
   refine wpAnyH_ready (rs := [1, 4]) (by kernel_rfl) (by simp) (ready_cons rfl (by rfl) (fun K hK => ?_) (ready_cons rfl (by rfl) (fun K hK => ?_) AllReadyH.nil))
   ·go_simp
    refine (OA.out (xA.to HB)).mono ?_
    rintro e V ⟨u10, u11, u12, u13, rfl, r1, bb⟩
    replace HB := bx HB bb
    replace t2 := t2.to bb
    refine hK.out _ _ HB ?_
    clear hK K bb
    refine wpAnyH_ready (rs := [3, 4]) (by kernel_rfl) (by simp) (ready_cons rfl (by rfl) (fun K hK => ?_) (ready_cons rfl (by rfl) (fun K hK => ?_) AllReadyH.nil))
    ·go_simp
     refine (OB.out (xB.to HB)).mono ?_
     rintro e V ⟨u20, u21, u22, u23, rfl, r2, bb⟩
     replace HB := bx HB bb
     replace t2 := t2.to bb
     replace r1 := r1.to bb
     refine hK.out _ _ HB ?_
     clear hK K bb
     refine rdy1 (i := 4) (by kernel_rfl) rfl (by rfl) (fun K hK => ?_)
     ·refine wp_alloc_four (fun g1 V t1 bb hg => ?_)
      have b1 := Nat.le_trans HB.size hg
      replace HB := bx HB bb
      have ne : g1 ≠ g2 := Nat.ne_of_gt (Nat.lt_of_lt_of_le t2.lt hg)
      replace t2 := t2.to bb
      replace r1 := r1.to bb
      replace r2 := r2.to bb
      refine hK.out _ _ HB ?_
      clear hK K bb hg
      simp only [Act.put, List.setIfInBounds_toArray, List.set_cons_zero, List.set_cons_succ]
      refine rdy1 (i := 6) (by kernel_rfl) rfl (by rfl) (fun K hK => ?_)
      ·refine wp_store_q (by rfl) (by rfl) t1 Fq.nil r1.fq (fun V u kp => ?_)
       replace t2 := kp.four (Ne.symm ne) t2
       replace r1 := kpQx kp r1
       replace r2 := kpQx kp r2
       replace HB := kp.bel _ _ HB b1
       clear t1
       have t1 := u
       refine hK.out _ _ HB ?_
       clear hK K kp u
       simp only [Act.put, List.setIfInBounds_toArray, List.set_cons_zero, List.set_cons_succ]
       refine rdy1 (i := 7) (by kernel_rfl) rfl (by rfl) (fun K hK => ?_)
       ·refine wp_store_q (by rfl) (by rfl) t2 Fq.nil r2.fq (fun V u kp => ?_)
        replace t1 := kp.four ne t1
        replace r1 := kpQx kp r1
        replace r2 := kpQx kp r2
        replace HB := kp.bel _ _ HB b2
        clear t2
        have t2 := u
        refine hK.out _ _ HB ?_
        clear hK K kp u
        simp only [Act.put, List.setIfInBounds_toArray, List.set_cons_zero, List.set_cons_succ]
        exact wpAnyH_done (by kernel_rfl) ⟨rfl, g1, g2, _, _, _, _, _, _, _, _, _, _,  by rfl, t1, t2, r1, r2, HB⟩ _
    ·refine wp_alloc_four (fun g1 V t1 bb hg => ?_)
     have b1 := Nat.le_trans HB.size hg
     replace HB := bx HB bb
     have ne : g1 ≠ g2 := Nat.ne_of_gt (Nat.lt_of_lt_of_le t2.lt hg)
     replace t2 := t2.to bb
     replace r1 := r1.to bb
     refine hK.out _ _ HB ?_
     clear hK K bb hg
     simp only [Act.put, List.setIfInBounds_toArray, List.set_cons_zero, List.set_cons_succ]
     refine rdy1 (i := 3) (by kernel_rfl) rfl (by rfl) (fun K hK => ?_)
     ·go_simp
      refine (OB.out (xB.to HB)).mono ?_
      rintro e V ⟨u20, u21, u22, u23, rfl, r2, bb⟩
      replace HB := bx HB bb
      replace t1 := t1.to bb
      replace t2 := t2.to bb
      replace r1 := r1.to bb
      refine hK.out _ _ HB ?_
      clear hK K bb
      refine rdy1 (i := 6) (by kernel_rfl) rfl (by rfl) (fun K hK => ?_)
      ·refine wp_store_q (by rfl) (by rfl) t1 Fq.nil r1.fq (fun V u kp => ?_)
       replace t2 := kp.four (Ne.symm ne) t2
       replace r1 := kpQx kp r1
       replace r2 := kpQx kp r2
       replace HB := kp.bel _ _ HB b1
       clear t1
       have t1 := u
       refine hK.out _ _ HB ?_
       clear hK K kp u
       simp only [Act.put, List.setIfInBounds_toArray, List.set_cons_zero, List.set_cons_succ]
       refine rdy1 (i := 7) (by kernel_rfl) rfl (by rfl) (fun K hK => ?_)
       ·refine wp_store_q (by rfl) (by rfl) t2 Fq.nil r2.fq (fun V u kp => ?_)
        replace t1 := kp.four ne t1
        replace r1 := kpQx kp r1
        replace r2 := kpQx kp r2
        replace HB := kp.bel _ _ HB b2
        clear t2
        have t2 := u
        refine hK.out _ _ HB ?_
        clear hK K kp u
        simp only [Act.put, List.setIfInBounds_toArray, List.set_cons_zero, List.set_cons_succ]
        exact wpAnyH_done (by kernel_rfl) ⟨rfl, g1, g2, _, _, _, _, _, _, _, _, _, _,  by rfl, t1, t2, r1, r2, HB⟩ _
   ·refine wp_alloc_four (fun g1 V t1 bb hg => ?_)
    have b1 := Nat.le_trans HB.size hg
    replace HB := bx HB bb
    have ne : g1 ≠ g2 := Nat.ne_of_gt (Nat.lt_of_lt_of_le t2.lt hg)
    replace t2 := t2.to bb
    refine hK.out _ _ HB ?_
    clear hK K bb hg
    simp only [Act.put, List.setIfInBounds_toArray, List.set_cons_zero, List.set_cons_succ]
    refine rdy1 (i := 1) (by kernel_rfl) rfl (by rfl) (fun K hK => ?_)
    ·go_simp
     refine (OA.out (xA.to HB)).mono ?_
     rintro e V ⟨u10, u11, u12, u13, rfl, r1, bb⟩
     replace HB := bx HB bb
     replace t1 := t1.to bb
     replace t2 := t2.to bb
     refine hK.out _ _ HB ?_
     clear hK K bb
     refine rdy1 (i := 3) (by kernel_rfl) rfl (by rfl) (fun K hK => ?_)
     ·go_simp
      refine (OB.out (xB.to HB)).mono ?_
      rintro e V ⟨u20, u21, u22, u23, rfl, r2, bb⟩
      replace HB := bx HB bb
      replace t1 := t1.to bb
      replace t2 := t2.to bb
      replace r1 := r1.to bb
      refine hK.out _ _ HB ?_
      clear hK K bb
      refine rdy1 (i := 6) (by kernel_rfl) rfl (by rfl) (fun K hK => ?_)
      ·refine wp_store_q (by rfl) (by rfl) t1 Fq.nil r1.fq (fun V u kp => ?_)
       replace t2 := kp.four (Ne.symm ne) t2
       replace r1 := kpQx kp r1
       replace r2 := kpQx kp r2
       replace HB := kp.bel _ _ HB b1
       clear t1
       have t1 := u
       refine hK.out _ _ HB ?_
       clear hK K kp u
       simp only [Act.put, List.setIfInBounds_toArray, List.set_cons_zero, List.set_cons_succ]
       refine rdy1 (i := 7) (by kernel_rfl) rfl (by rfl) (fun K hK => ?_)
       ·refine wp_store_q (by rfl) (by rfl) t2 Fq.nil r2.fq (fun V u kp => ?_)
        replace t1 := kp.four ne t1
        replace r1 := kpQx kp r1
        replace r2 := kpQx kp r2
        replace HB := kp.bel _ _ HB b2
        clear t2
        have t2 := u
        refine hK.out _ _ HB ?_
        clear hK K kp u
        simp only [Act.put, List.setIfInBounds_toArray, List.set_cons_zero, List.set_cons_succ]
        exact wpAnyH_done (by kernel_rfl) ⟨rfl, g1, g2, _, _, _, _, _, _, _, _, _, _,  by rfl, t1, t2, r1, r2, HB⟩ _
 rintro v' W2 ⟨gX, gY, X0, X1, X2, X3, Y0, Y1, Y2, Y3, _, _, rfl, tX, tY, xX, xY, HB⟩
 simp only [Act.put, List.setIfInBounds_toArray, List.set_cons_zero, List.set_cons_succ]
 replace tA := tA.to HB
 replace tB := tB.to HB
 replace xA := xA.to HB
 replace xB := xB.to HB
 replace HB0 := hx HB0 HB
 clear HB OA OB
 have VA : Qb W2 w.heap.size a1 a2 a3 a4 a 6 := ⟨tA, QA.out xA⟩
 have VB : Qb W2 (w.heap.size + 1) b1 b2 b3 b4 b 6 := ⟨tB, QB.out xB⟩
 have VX : Qb W2 gX X0 X1 X2 X3 a 6 := ⟨tX, QA.out xX⟩
 have VY : Qb W2 gY Y0 Y1 Y2 Y3 b 6 := ⟨tY, QB.out xY⟩
 clear tA tB tX tY QA QB
 obtain ⟨ev, hev⟩ : ∃ v, errD b = v := ⟨_, rfl⟩
 have EV := Hd hev
 clear hev
 have mD : Qm 12 (a / b) := mA.div mB
 have k0 := VX.four.c0
 have l0 := VY.four.c0
 have k1 := VX.four.c1
 have l1 := VY.four.c1
 have k2 := VX.four.c2
 have l2 := VY.four.c2
 have k3 := VX.four.c3
 have l3 := VY.four.c3
 go_wp2_with fail
 refine (div_e VX.qi VY.qi (by decide) (by decide) (by decide) EV.out).mono ?_
 rintro e VD ⟨_, _, _, _, rfl, cD, bb⟩
 clear k0 k1 k2 k3 l0 l1 l2 l3
 replace VA := VA.to bb
 replace VB := VB.to bb
 replace VX := VX.to bb
 replace VY := VY.to bb
 replace xA := xA.to bb
 replace xB := xB.to bb
 replace xX := xX.to bb
 replace xY := xY.to bb
 replace HB0 := hx HB0 bb
 clear bb
 obtain ⟨⟨nD1, AD1, jD1, mD1, rfl, rfl⟩, ⟨nD2, AD2, jD2, mD2, rfl, rfl⟩⟩ := cD.fq
 have tD := Four.new VD (.bool nD1) (.slice AD1 jD1 mD1) (.bool nD2) (.slice AD2 jD2 mD2) 26
 have bb := (Below.refl VD.heap.size VD).alloc (Nat.le_refl _) (.cells #[.bool nD1, .slice AD1 jD1 mD1, .bool nD2, .slice AD2 jD2 mD2] 26)
 replace cD := cD.to bb
 replace VA := VA.to bb
 replace VB := VB.to bb
 replace VX := VX.to bb
 replace VY := VY.to bb
 replace xA := xA.to bb
 replace xB := xB.to bb
 replace xX := xX.to bb
 replace xY := xY.to bb
 replace HB0 := hx HB0 bb
 clear bb
 have k0 := VA.four.c0
 have l0 := VB.four.c0
 have k1 := VA.four.c1
 have l1 := VB.four.c1
 have k2 := VA.four.c2
 have l2 := VB.four.c2
 have k3 := VA.four.c3
 have l3 := VB.four.c3
 go_wp2_with fail
 obtain ⟨WD, hWD⟩ : ∃ W, W = VD.alloc (.cells #[.bool nD1, .slice AD1 jD1 mD1, .bool nD2, .slice AD2 jD2 mD2] 26) := ⟨_, rfl⟩
 obtain ⟨gD, hgD⟩ : ∃ g, g = VD.heap.size := ⟨_, rfl⟩
 rw [<- hWD, <- hgD]
 rw [<- hWD, <- hgD] at tD
 rw [<- hWD] at HB0 VA VB VX VY xA xB xX xY cD k0 k1 k2 k3 l0 l1 l2 l3
 clear hWD hgD
 have VDv : Qb WD gD _ _ _ _ (a / b) 12 := ⟨tD, cD.qi mD (by decide)⟩
 clear tD
 refine (rdiv_q VA.qi VB.qi (by decide) (by decide) (by decide) EV.out).mono ?_
 rintro e VE ⟨_, _, _, _, rfl, cE, bb⟩
 clear k0 k1 k2 k3 l0 l1 l2 l3
 replace VA := VA.to bb
 replace VB := VB.to bb
 replace VX := VX.to bb
 replace VY := VY.to bb
 replace VDv := VDv.to bb
 replace xA := xA.to bb
 replace xB := xB.to bb
 replace xX := xX.to bb
 replace xY := xY.to bb
 replace cD := cD.to bb
 replace HB0 := hx HB0 bb
 clear bb
 obtain ⟨⟨nE1, AE1, jE1, mE1, rfl, rfl⟩, ⟨nE2, AE2, jE2, mE2, rfl, rfl⟩⟩ := cE.fq
 have tE := Four.new VE (.bool nE1) (.slice AE1 jE1 mE1) (.bool nE2) (.slice AE2 jE2 mE2) 26
 have bb := (Below.refl VE.heap.size VE).alloc (Nat.le_refl _) (.cells #[.bool nE1, .slice AE1 jE1 mE1, .bool nE2, .slice AE2 jE2 mE2] 26)
 replace cE := cE.to bb
 replace VA := VA.to bb
 replace VB := VB.to bb
 replace VX := VX.to bb
 replace VY := VY.to bb
 replace VDv := VDv.to bb
 replace xA := xA.to bb
 replace xB := xB.to bb
 replace xX := xX.to bb
 replace xY := xY.to bb
 replace cD := cD.to bb
 replace HB0 := hx HB0 bb
 clear bb
 go_wp2_with fail
 obtain ⟨WE, hWE⟩ : ∃ W, W = VE.alloc (.cells #[.bool nE1, .slice AE1 jE1 mE1, .bool nE2, .slice AE2 jE2 mE2] 26) := ⟨_, rfl⟩
 obtain ⟨gE, hgE⟩ : ∃ g, g = VE.heap.size := ⟨_, rfl⟩
 rw [<- hWE, <- hgE]
 rw [<- hWE, <- hgE] at tE
 rw [<- hWE] at HB0 VA VB VX VY VDv xA xB xX xY cD cE
 clear hWE hgE
 have VEv : Qb WE gE _ _ _ _ (a / b) 12 := ⟨tE, cE.qi mD (by decide)⟩
 clear tE
 obtain ⟨W3, hW3⟩ : ∃ W, W = WE := ⟨_, rfl⟩
 subst hW3
 have mr1 : Qm 13 (a + b) := by have h := mA.add mB; exact h
 have mr2 : Qm 13 (a + b) := by have h := mA.add mB; exact h
 have mr3 : Qm 13 (a - b) := by have h := mA.sub mB; exact h
 have mr4 : Qm 13 (a - b) := by have h := mA.sub mB; exact h
 have mr5 : Qm 12 (a * b) := by have h := mA.mul mB; exact h
 have mr6 : Qm 12 (a * b) := by have h := mA.mul mB; exact h
 refine wp_region_plan (S := fun w' => Below W3.heap.size W3 w') [(0, true), (1, true), (2, true), (3, false), (4, true), (5, true), (6, true), (7, true), (8, true), (9, true), (10, true), (11, true), (12, true), (13, true), (15, true), (16, true), (14, false), (17, false), (18, false), (19, true), (20, true), (21, true), (22, true), (23, true), (24, true), (26, true), (27, true), (25, false), (28, false), (29, false), (30, true), (31, true), (32, true), (33, true), (34, true), (35, true), (37, true), (38, true), (36, false), (39, false), (40, false), (41, true), (42, true)] (by kernel_rfl) (by kernel_rfl) (Below.refl _ _).drew ?_
 have HB := (Below.refl W3.heap.size W3).drew
 refine plan_take (v := ?_) rfl (by rfl) ?_ ?_; rotate_left; (focus (intro w' _; go_simp; try with_reducible rfl)); simp only [Act.put, List.setIfInBounds_toArray, List.set_cons_zero, List.set_cons_succ]
 refine plan_take rfl (by rfl) (fun w' hS => load_four (by rfl) (VDv.four.to hS)) ?_; simp only [Act.put, List.setIfInBounds_toArray, List.set_cons_zero, List.set_cons_succ]
 refine plan_take rfl (by rfl) (fun w' hS => load_four (by rfl) (VEv.four.to hS)) ?_; simp only [Act.put, List.setIfInBounds_toArray, List.set_cons_zero, List.set_cons_succ]
 refine plan_call rfl (by rfl) (fun K hK => ?_)
 go_simp
 refine (is_q (cD.to HB) (cE.to HB) (v := true) (decide_eq_true rfl)).mono ?_
 rintro e V ⟨rfl, bb⟩
 replace HB := bx HB bb
 refine hK.out _ _ HB ?_
 clear hK K bb
 refine plan_take (v := ?_) rfl (by rfl) ?_ ?_; rotate_left; (focus (intro w' _; go_simp; try with_reducible rfl)); simp only [Act.put, List.setIfInBounds_toArray, List.set_cons_zero, List.set_cons_succ]
 refine plan_take (v := ?_) rfl (by rfl) ?_ ?_; rotate_left; (focus (intro w' _; go_simp; try with_reducible rfl)); simp only [Act.put, List.setIfInBounds_toArray, List.set_cons_zero, List.set_cons_succ]
 refine plan_take (v := ?_) rfl (by rfl) ?_ ?_; rotate_left; (focus (intro w' _; go_simp; try with_reducible rfl)); simp only [Act.put, List.setIfInBounds_toArray, List.set_cons_zero, List.set_cons_succ]
 refine plan_take (v := ?_) rfl (by rfl) ?_ ?_; rotate_left; (focus (intro w' _; go_simp; try with_reducible rfl)); simp only [Act.put, List.setIfInBounds_toArray, List.set_cons_zero, List.set_cons_succ]
 refine plan_take (v := ?_) rfl (by rfl) ?_ ?_; rotate_left; (focus (intro w' _; go_simp; try with_reducible rfl)); simp only [Act.put, List.setIfInBounds_toArray, List.set_cons_zero, List.set_cons_succ]
 refine plan_take (v := ?_) rfl (by rfl) ?_ ?_; rotate_left; (focus (intro w' _; go_simp; try with_reducible rfl)); simp only [Act.put, List.setIfInBounds_toArray, List.set_cons_zero, List.set_cons_succ]
 refine plan_take (v := ?_) rfl (by rfl) ?_ ?_; rotate_left; (focus (intro w' _; go_simp; try with_reducible rfl)); simp only [Act.put, List.setIfInBounds_toArray, List.set_cons_zero, List.set_cons_succ]
 refine plan_take (v := ?_) rfl (by rfl) ?_ ?_; rotate_left; (focus (intro w' _; go_simp; try with_reducible rfl)); simp only [Act.put, List.setIfInBounds_toArray, List.set_cons_zero, List.set_cons_succ]
 refine plan_take rfl (by rfl) (fun w' hS => load_four (by rfl) (VX.four.to hS)) ?_; simp only [Act.put, List.setIfInBounds_toArray, List.set_cons_zero, List.set_cons_succ]
 refine plan_take rfl (by rfl) (fun w' hS => load_four (by rfl) (VY.four.to hS)) ?_; simp only [Act.put, List.setIfInBounds_toArray, List.set_cons_zero, List.set_cons_succ]
 refine plan_take rfl (by rfl) (fun w' hS => load_four (by rfl) (VA.four.to hS)) ?_; simp only [Act.put, List.setIfInBounds_toArray, List.set_cons_zero, List.set_cons_succ]
 refine plan_take rfl (by rfl) (fun w' hS => load_four (by rfl) (VB.four.to hS)) ?_; simp only [Act.put, List.setIfInBounds_toArray, List.set_cons_zero, List.set_cons_succ]
 refine plan_call rfl (by rfl) (fun K hK => ?_)
 go_simp
 refine (add_q (VX.qi.to HB) (VY.qi.to HB) (by decide) (by decide) (by decide)).mono ?_
 rintro e V ⟨ur1, vr1, xr1, yr1, rfl, r1, bb⟩
 replace HB := bx HB bb
 refine hK.out _ _ HB ?_
 clear hK K bb
 refine plan_call rfl (by rfl) (fun K hK => ?_)
 go_simp
 refine (radd_q (VA.qi.to HB) (VB.qi.to HB) (by decide) (by decide) (by decide)).mono ?_
 rintro e V ⟨ur2, vr2, xr2, yr2, rfl, r2, bb⟩
 replace HB := bx HB bb
 replace r1 := r1.to bb
 refine hK.out _ _ HB ?_
 clear hK K bb
 refine plan_call rfl (by rfl) (fun K hK => ?_)
 go_simp
 refine (is_q r1 r2 (v := true) (decide_eq_true rfl)).mono ?_
 rintro e V ⟨rfl, bb⟩
 replace HB := bx HB bb
 clear r1
 clear r2
 refine hK.out _ _ HB ?_
 clear hK K bb
 refine plan_take (v := ?_) rfl (by rfl) ?_ ?_; rotate_left; (focus (intro w' _; go_simp; try with_reducible rfl)); simp only [Act.put, List.setIfInBounds_toArray, List.set_cons_zero, List.set_cons_succ]
 refine plan_take (v := ?_) rfl (by rfl) ?_ ?_; rotate_left; (focus (intro w' _; go_simp; try with_reducible rfl)); simp only [Act.put, List.setIfInBounds_toArray, List.set_cons_zero, List.set_cons_succ]
 refine plan_take (v := ?_) rfl (by rfl) ?_ ?_; rotate_left; (focus (intro w' _; go_simp; try with_reducible rfl)); simp only [Act.put, List.setIfInBounds_toArray, List.set_cons_zero, List.set_cons_succ]
 refine plan_take (v := ?_) rfl (by rfl) ?_ ?_; rotate_left; (focus (intro w' _; go_simp; try with_reducible rfl)); simp only [Act.put, List.setIfInBounds_toArray, List.set_cons_zero, List.set_cons_succ]
 refine plan_take rfl (by rfl) (fun w' hS => load_four (by rfl) (VX.four.to hS)) ?_; simp only [Act.put, List.setIfInBounds_toArray, List.set_cons_zero, List.set_cons_succ]
 refine plan_take rfl (by rfl) (fun w' hS => load_four (by rfl) (VY.four.to hS)) ?_; simp only [Act.put, List.setIfInBounds_toArray, List.set_cons_zero, List.set_cons_succ]
 refine plan_take rfl (by rfl) (fun w' hS => load_four (by rfl) (VA.four.to hS)) ?_; simp only [Act.put, List.setIfInBounds_toArray, List.set_cons_zero, List.set_cons_succ]
 refine plan_take rfl (by rfl) (fun w' hS => load_four (by rfl) (VB.four.to hS)) ?_; simp only [Act.put, List.setIfInBounds_toArray, List.set_cons_zero, List.set_cons_succ]
 refine plan_call rfl (by rfl) (fun K hK => ?_)
 go_simp
 refine (sub_q (VX.qi.to HB) (VY.qi.to HB) (by decide) (by decide) (by decide)).mono ?_
 rintro e V ⟨ur3, vr3, xr3, yr3, rfl, r3, bb⟩
 replace HB := bx HB bb
 refine hK.out _ _ HB ?_
 clear hK K bb
 refine plan_call rfl (by rfl) (fun K hK => ?_)
 go_simp
 refine (rsub_q (VA.qi.to HB) (VB.qi.to HB) (by decide) (by decide) (by decide)).mono ?_
 rintro e V ⟨ur4, vr4, xr4, yr4, rfl, r4, bb⟩
 replace HB := bx HB bb
 replace r3 := r3.to bb
 refine hK.out _ _ HB ?_
 clear hK K bb
 refine plan_call rfl (by rfl) (fun K hK => ?_)
 go_simp
 refine (is_q r3 r4 (v := true) (decide_eq_true rfl)).mono ?_
 rintro e V ⟨rfl, bb⟩
 replace HB := bx HB bb
 clear r3
 clear r4
 refine hK.out _ _ HB ?_
 clear hK K bb
 refine plan_take (v := ?_) rfl (by rfl) ?_ ?_; rotate_left; (focus (intro w' _; go_simp; try with_reducible rfl)); simp only [Act.put, List.setIfInBounds_toArray, List.set_cons_zero, List.set_cons_succ]
 refine plan_take (v := ?_) rfl (by rfl) ?_ ?_; rotate_left; (focus (intro w' _; go_simp; try with_reducible rfl)); simp only [Act.put, List.setIfInBounds_toArray, List.set_cons_zero, List.set_cons_succ]
 refine plan_take (v := ?_) rfl (by rfl) ?_ ?_; rotate_left; (focus (intro w' _; go_simp; try with_reducible rfl)); simp only [Act.put, List.setIfInBounds_toArray, List.set_cons_zero, List.set_cons_succ]
 refine plan_take (v := ?_) rfl (by rfl) ?_ ?_; rotate_left; (focus (intro w' _; go_simp; try with_reducible rfl)); simp only [Act.put, List.setIfInBounds_toArray, List.set_cons_zero, List.set_cons_succ]
 refine plan_take rfl (by rfl) (fun w' hS => load_four (by rfl) (VX.four.to hS)) ?_; simp only [Act.put, List.setIfInBounds_toArray, List.set_cons_zero, List.set_cons_succ]
 refine plan_take rfl (by rfl) (fun w' hS => load_four (by rfl) (VY.four.to hS)) ?_; simp only [Act.put, List.setIfInBounds_toArray, List.set_cons_zero, List.set_cons_succ]
 refine plan_take rfl (by rfl) (fun w' hS => load_four (by rfl) (VA.four.to hS)) ?_; simp only [Act.put, List.setIfInBounds_toArray, List.set_cons_zero, List.set_cons_succ]
 refine plan_take rfl (by rfl) (fun w' hS => load_four (by rfl) (VB.four.to hS)) ?_; simp only [Act.put, List.setIfInBounds_toArray, List.set_cons_zero, List.set_cons_succ]
 refine plan_call rfl (by rfl) (fun K hK => ?_)
 go_simp
 refine (mul_q (VX.qi.to HB) (VY.qi.to HB) (by decide) (by decide) (by decide)).mono ?_
 rintro e V ⟨ur5, vr5, xr5, yr5, rfl, r5, bb⟩
 replace HB := bx HB bb
 refine hK.out _ _ HB ?_
 clear hK K bb
 refine plan_call rfl (by rfl) (fun K hK => ?_)
 go_simp
 refine (rmul_q (VA.qi.to HB) (VB.qi.to HB) (by decide) (by decide) (by decide)).mono ?_
 rintro e V ⟨ur6, vr6, xr6, yr6, rfl, r6, bb⟩
 replace HB := bx HB bb
 replace r5 := r5.to bb
 refine hK.out _ _ HB ?_
 clear hK K bb
 refine plan_call rfl (by rfl) (fun K hK => ?_)
 go_simp
 refine (is_q r5 r6 (v := true) (decide_eq_true rfl)).mono ?_
 rintro e V ⟨rfl, bb⟩
 replace HB := bx HB bb
 clear r5
 clear r6
 refine hK.out _ _ HB ?_
 clear hK K bb
 refine plan_take (v := ?_) rfl (by rfl) ?_ ?_; rotate_left; (focus (intro w' _; go_simp; try with_reducible rfl)); simp only [Act.put, List.setIfInBounds_toArray, List.set_cons_zero, List.set_cons_succ]
 refine plan_take (v := ?_) rfl (by rfl) ?_ ?_; rotate_left; (focus (intro w' _; go_simp; try with_reducible rfl)); simp only [Act.put, List.setIfInBounds_toArray, List.set_cons_zero, List.set_cons_succ]
 refine plan_done ?_
 replace VA := VA.to HB
 replace VB := VB.to HB
 replace VX := VX.to HB
 replace VY := VY.to HB
 replace VDv := VDv.to HB
 replace VEv := VEv.to HB
 replace xA := xA.to HB
 replace xB := xB.to HB
 replace xX := xX.to HB
 replace xY := xY.to HB
 replace cD := cD.to HB
 replace cE := cE.to HB
 replace HB0 := hx HB0 HB
 clear HB
 go_wp2_with fail
 obtain ⟨W4, hW4⟩ : ∃ W, W = V := ⟨_, rfl⟩
 subst hW4
 obtain ⟨s, hs⟩ : ∃ s, sgnQ a = s := ⟨_, rfl⟩
 have HS := Hd hs
 clear hs
 have mr7 : Qm 6 (-a) := by have h := mA.neg; exact h
 have mr8 : Qm 6 (-a) := by have h := mA.neg; exact h
 have mr9 : Qm 6 (a).abs := by have h := mA.abs; exact h
 have mr10 : Qm 6 (a).abs := by have h := mA.abs; exact h
 have mr11 : Qm 6 (minQ a b) := by have h := Qm.min mA mB; exact h
 have mr12 : Qm 6 (minQ a b) := by have h := Qm.min mA mB; exact h
 have mr13 : Qm 6 (maxQ a b) := by have h := Qm.max mA mB; exact h
 have mr14 : Qm 6 (maxQ a b) := by have h := Qm.max mA mB; exact h
 refine wp_region_plan (S := fun w' => Below W4.heap.size W4 w') [(0, true), (1, true), (3, true), (2, false), (4, false), (5, false), (6, true), (7, true), (8, true), (9, true), (11, true), (10, false), (12, false), (13, false), (14, true), (15, true), (16, true), (17, true), (18, true), (19, true), (21, true), (22, true), (20, false), (23, false), (24, false), (25, true), (26, true), (27, true), (28, true), (29, true), (30, true), (32, true), (33, true), (31, false), (34, false), (35, false), (36, true), (37, true), (38, true), (39, true), (41, true), (40, false), (42, false), (43, true), (44, true)] (by kernel_rfl) (by kernel_rfl) (Below.refl _ _).drew ?_
 have HB := (Below.refl W4.heap.size W4).drew
 refine plan_take (v := ?_) rfl (by rfl) ?_ ?_; rotate_left; (focus (intro w' _; go_simp; try with_reducible rfl)); simp only [Act.put, List.setIfInBounds_toArray, List.set_cons_zero, List.set_cons_succ]
 refine plan_take rfl (by rfl) (fun w' hS => load_four (by rfl) (VX.four.to hS)) ?_; simp only [Act.put, List.setIfInBounds_toArray, List.set_cons_zero, List.set_cons_succ]
 refine plan_take rfl (by rfl) (fun w' hS => load_four (by rfl) (VA.four.to hS)) ?_; simp only [Act.put, List.setIfInBounds_toArray, List.set_cons_zero, List.set_cons_succ]
 refine plan_call rfl (by rfl) (fun K hK => ?_)
 go_simp
 refine (neg_q (VX.qi.to HB) (by decide) (by decide)).mono ?_
 rintro e V ⟨ur7, vr7, xr7, yr7, rfl, r7, bb⟩
 replace HB := bx HB bb
 refine hK.out _ _ HB ?_
 clear hK K bb
 refine plan_call rfl (by rfl) (fun K hK => ?_)
 go_simp
 refine (rneg_q (VA.qi.to HB) (by decide) (by decide)).mono ?_
 rintro e V ⟨ur8, vr8, xr8, yr8, rfl, r8, bb⟩
 replace HB := bx HB bb
 replace r7 := r7.to bb
 refine hK.out _ _ HB ?_
 clear hK K bb
 refine plan_call rfl (by rfl) (fun K hK => ?_)
 go_simp
 refine (is_q r7 r8 (v := true) (decide_eq_true rfl)).mono ?_
 rintro e V ⟨rfl, bb⟩
 replace HB := bx HB bb
 clear r7
 clear r8
 refine hK.out _ _ HB ?_
 clear hK K bb
 refine plan_take (v := ?_) rfl (by rfl) ?_ ?_; rotate_left; (focus (intro w' _; go_simp; try with_reducible rfl)); simp only [Act.put, List.setIfInBounds_toArray, List.set_cons_zero, List.set_cons_succ]
 refine plan_take (v := ?_) rfl (by rfl) ?_ ?_; rotate_left; (focus (intro w' _; go_simp; try with_reducible rfl)); simp only [Act.put, List.setIfInBounds_toArray, List.set_cons_zero, List.set_cons_succ]
 refine plan_take (v := ?_) rfl (by rfl) ?_ ?_; rotate_left; (focus (intro w' _; go_simp; try with_reducible rfl)); simp only [Act.put, List.setIfInBounds_toArray, List.set_cons_zero, List.set_cons_succ]
 refine plan_take rfl (by rfl) (fun w' hS => load_four (by rfl) (VX.four.to hS)) ?_; simp only [Act.put, List.setIfInBounds_toArray, List.set_cons_zero, List.set_cons_succ]
 refine plan_take rfl (by rfl) (fun w' hS => load_four (by rfl) (VA.four.to hS)) ?_; simp only [Act.put, List.setIfInBounds_toArray, List.set_cons_zero, List.set_cons_succ]
 refine plan_call rfl (by rfl) (fun K hK => ?_)
 go_simp
 refine (abs_q (VX.qi.to HB) (by decide) (by decide)).mono ?_
 rintro e V ⟨ur9, vr9, xr9, yr9, rfl, r9, bb⟩
 replace HB := bx HB bb
 refine hK.out _ _ HB ?_
 clear hK K bb
 refine plan_call rfl (by rfl) (fun K hK => ?_)
 go_simp
 refine (rabs_q (VA.qi.to HB) (by decide) (by decide)).mono ?_
 rintro e V ⟨ur10, vr10, xr10, yr10, rfl, r10, bb⟩
 replace HB := bx HB bb
 replace r9 := r9.to bb
 refine hK.out _ _ HB ?_
 clear hK K bb
 refine plan_call rfl (by rfl) (fun K hK => ?_)
 go_simp
 refine (is_q r9 r10 (v := true) (decide_eq_true rfl)).mono ?_
 rintro e V ⟨rfl, bb⟩
 replace HB := bx HB bb
 clear r9
 clear r10
 refine hK.out _ _ HB ?_
 clear hK K bb
 refine plan_take (v := ?_) rfl (by rfl) ?_ ?_; rotate_left; (focus (intro w' _; go_simp; try with_reducible rfl)); simp only [Act.put, List.setIfInBounds_toArray, List.set_cons_zero, List.set_cons_succ]
 refine plan_take (v := ?_) rfl (by rfl) ?_ ?_; rotate_left; (focus (intro w' _; go_simp; try with_reducible rfl)); simp only [Act.put, List.setIfInBounds_toArray, List.set_cons_zero, List.set_cons_succ]
 refine plan_take (v := ?_) rfl (by rfl) ?_ ?_; rotate_left; (focus (intro w' _; go_simp; try with_reducible rfl)); simp only [Act.put, List.setIfInBounds_toArray, List.set_cons_zero, List.set_cons_succ]
 refine plan_take (v := ?_) rfl (by rfl) ?_ ?_; rotate_left; (focus (intro w' _; go_simp; try with_reducible rfl)); simp only [Act.put, List.setIfInBounds_toArray, List.set_cons_zero, List.set_cons_succ]
 refine plan_take rfl (by rfl) (fun w' hS => load_four (by rfl) (VX.four.to hS)) ?_; simp only [Act.put, List.setIfInBounds_toArray, List.set_cons_zero, List.set_cons_succ]
 refine plan_take rfl (by rfl) (fun w' hS => load_four (by rfl) (VY.four.to hS)) ?_; simp only [Act.put, List.setIfInBounds_toArray, List.set_cons_zero, List.set_cons_succ]
 refine plan_take rfl (by rfl) (fun w' hS => load_four (by rfl) (VA.four.to hS)) ?_; simp only [Act.put, List.setIfInBounds_toArray, List.set_cons_zero, List.set_cons_succ]
 refine plan_take rfl (by rfl) (fun w' hS => load_four (by rfl) (VB.four.to hS)) ?_; simp only [Act.put, List.setIfInBounds_toArray, List.set_cons_zero, List.set_cons_succ]
 refine plan_call rfl (by rfl) (fun K hK => ?_)
 go_simp
 refine (min_q (VX.qi.to HB) (VY.qi.to HB) (by decide) (by decide) (by decide)).mono ?_
 rintro e V ⟨ur11, vr11, xr11, yr11, rfl, r11, bb⟩
 replace HB := bx HB bb
 refine hK.out _ _ HB ?_
 clear hK K bb
 refine plan_call rfl (by rfl) (fun K hK => ?_)
 go_simp
 refine (rmin_q (VA.qi.to HB) (VB.qi.to HB) (by decide) (by decide) (by decide)).mono ?_
 rintro e V ⟨ur12, vr12, xr12, yr12, rfl, r12, bb⟩
 replace HB := bx HB bb
 replace r11 := r11.to bb
 refine hK.out _ _ HB ?_
 clear hK K bb
 refine plan_call rfl (by rfl) (fun K hK => ?_)
 go_simp
 refine (is_q r11 r12 (v := true) (decide_eq_true rfl)).mono ?_
 rintro e V ⟨rfl, bb⟩
 replace HB := bx HB bb
 clear r11
 clear r12
 refine hK.out _ _ HB ?_
 clear hK K bb
 refine plan_take (v := ?_) rfl (by rfl) ?_ ?_; rotate_left; (focus (intro w' _; go_simp; try with_reducible rfl)); simp only [Act.put, List.setIfInBounds_toArray, List.set_cons_zero, List.set_cons_succ]
 refine plan_take (v := ?_) rfl (by rfl) ?_ ?_; rotate_left; (focus (intro w' _; go_simp; try with_reducible rfl)); simp only [Act.put, List.setIfInBounds_toArray, List.set_cons_zero, List.set_cons_succ]
 refine plan_take (v := ?_) rfl (by rfl) ?_ ?_; rotate_left; (focus (intro w' _; go_simp; try with_reducible rfl)); simp only [Act.put, List.setIfInBounds_toArray, List.set_cons_zero, List.set_cons_succ]
 refine plan_take (v := ?_) rfl (by rfl) ?_ ?_; rotate_left; (focus (intro w' _; go_simp; try with_reducible rfl)); simp only [Act.put, List.setIfInBounds_toArray, List.set_cons_zero, List.set_cons_succ]
 refine plan_take rfl (by rfl) (fun w' hS => load_four (by rfl) (VX.four.to hS)) ?_; simp only [Act.put, List.setIfInBounds_toArray, List.set_cons_zero, List.set_cons_succ]
 refine plan_take rfl (by rfl) (fun w' hS => load_four (by rfl) (VY.four.to hS)) ?_; simp only [Act.put, List.setIfInBounds_toArray, List.set_cons_zero, List.set_cons_succ]
 refine plan_take rfl (by rfl) (fun w' hS => load_four (by rfl) (VA.four.to hS)) ?_; simp only [Act.put, List.setIfInBounds_toArray, List.set_cons_zero, List.set_cons_succ]
 refine plan_take rfl (by rfl) (fun w' hS => load_four (by rfl) (VB.four.to hS)) ?_; simp only [Act.put, List.setIfInBounds_toArray, List.set_cons_zero, List.set_cons_succ]
 refine plan_call rfl (by rfl) (fun K hK => ?_)
 go_simp
 refine (max_q (VX.qi.to HB) (VY.qi.to HB) (by decide) (by decide) (by decide)).mono ?_
 rintro e V ⟨ur13, vr13, xr13, yr13, rfl, r13, bb⟩
 replace HB := bx HB bb
 refine hK.out _ _ HB ?_
 clear hK K bb
 refine plan_call rfl (by rfl) (fun K hK => ?_)
 go_simp
 refine (rmax_q (VA.qi.to HB) (VB.qi.to HB) (by decide) (by decide) (by decide)).mono ?_
 rintro e V ⟨ur14, vr14, xr14, yr14, rfl, r14, bb⟩
 replace HB := bx HB bb
 replace r13 := r13.to bb
 refine hK.out _ _ HB ?_
 clear hK K bb
 refine plan_call rfl (by rfl) (fun K hK => ?_)
 go_simp
 refine (is_q r13 r14 (v := true) (decide_eq_true rfl)).mono ?_
 rintro e V ⟨rfl, bb⟩
 replace HB := bx HB bb
 clear r13
 clear r14
 refine hK.out _ _ HB ?_
 clear hK K bb
 refine plan_take (v := ?_) rfl (by rfl) ?_ ?_; rotate_left; (focus (intro w' _; go_simp; try with_reducible rfl)); simp only [Act.put, List.setIfInBounds_toArray, List.set_cons_zero, List.set_cons_succ]
 refine plan_take (v := ?_) rfl (by rfl) ?_ ?_; rotate_left; (focus (intro w' _; go_simp; try with_reducible rfl)); simp only [Act.put, List.setIfInBounds_toArray, List.set_cons_zero, List.set_cons_succ]
 refine plan_take (v := ?_) rfl (by rfl) ?_ ?_; rotate_left; (focus (intro w' _; go_simp; try with_reducible rfl)); simp only [Act.put, List.setIfInBounds_toArray, List.set_cons_zero, List.set_cons_succ]
 refine plan_take rfl (by rfl) (fun w' hS => load_four (by rfl) (VX.four.to hS)) ?_; simp only [Act.put, List.setIfInBounds_toArray, List.set_cons_zero, List.set_cons_succ]
 refine plan_take rfl (by rfl) (fun w' hS => load_four (by rfl) (VA.four.to hS)) ?_; simp only [Act.put, List.setIfInBounds_toArray, List.set_cons_zero, List.set_cons_succ]
 refine plan_call rfl (by rfl) (fun K hK => ?_)
 go_simp
 refine (sign_q (VX.qi.to HB) HS.out).mono ?_
 rintro e V ⟨rfl, bb⟩
 replace HB := bx HB bb
 refine hK.out _ _ HB ?_
 clear hK K bb
 refine plan_call rfl (by rfl) (fun K hK => ?_)
 go_simp
 refine (rsign_q (VA.qi.to HB) (by decide) HS.out).mono ?_
 rintro e V ⟨rfl, bb⟩
 replace HB := bx HB bb
 refine hK.out _ _ HB ?_
 clear hK K bb
 refine plan_take (v := ?_) rfl (by rfl) ?_ ?_; rotate_left; (focus (intro w' _; go_simp; try with_reducible rfl)); simp only [Act.put, List.setIfInBounds_toArray, List.set_cons_zero, List.set_cons_succ]
 refine plan_take (v := ?_) rfl (by rfl) ?_ ?_; rotate_left; (focus (intro w' _; go_simp; try with_reducible rfl)); simp only [Act.put, List.setIfInBounds_toArray, List.set_cons_zero, List.set_cons_succ]
 refine plan_done ?_
 replace VA := VA.to HB
 replace VB := VB.to HB
 replace VX := VX.to HB
 replace VY := VY.to HB
 replace VDv := VDv.to HB
 replace VEv := VEv.to HB
 replace xA := xA.to HB
 replace xB := xB.to HB
 replace xX := xX.to HB
 replace xY := xY.to HB
 replace cD := cD.to HB
 replace cE := cE.to HB
 replace HB0 := hx HB0 HB
 clear HB
 go_wp2_with fail
 obtain ⟨W5, hW5⟩ : ∃ W, W = V := ⟨_, rfl⟩
 subst hW5
 obtain ⟨c, hc⟩ : ∃ c, cmpQ a b = c := ⟨_, rfl⟩
 have HC := Hd hc
 obtain ⟨d, hd⟩ : ∃ d, decide (a = b) = d := ⟨_, rfl⟩
 have HD := Hd hd
 clear hc hd HS EV
 refine wp_region_plan (S := fun w' => Below W5.heap.size W5 w') [(0, true), (1, true), (3, true), (4, true), (2, false), (5, false), (6, true), (7, true), (8, true), (9, true), (11, true), (12, true), (10, false), (13, false), (14, true), (15, true), (16, true), (17, true), (18, true), (19, true), (20, false), (21, true), (22, true), (23, true), (24, true), (25, true), (26, false), (27, true), (28, true), (29, false), (30, true), (31, true)] (by kernel_rfl) (by kernel_rfl) (Below.refl _ _).drew ?_
 have HB := (Below.refl W5.heap.size W5).drew
 refine plan_take rfl (by rfl) (fun w' hS => load_four (by rfl) (VX.four.to hS)) ?_; simp only [Act.put, List.setIfInBounds_toArray, List.set_cons_zero, List.set_cons_succ]
 refine plan_take rfl (by rfl) (fun w' hS => load_four (by rfl) (VY.four.to hS)) ?_; simp only [Act.put, List.setIfInBounds_toArray, List.set_cons_zero, List.set_cons_succ]
 refine plan_take rfl (by rfl) (fun w' hS => load_four (by rfl) (VA.four.to hS)) ?_; simp only [Act.put, List.setIfInBounds_toArray, List.set_cons_zero, List.set_cons_succ]
 refine plan_take rfl (by rfl) (fun w' hS => load_four (by rfl) (VB.four.to hS)) ?_; simp only [Act.put, List.setIfInBounds_toArray, List.set_cons_zero, List.set_cons_succ]
 refine plan_call rfl (by rfl) (fun K hK => ?_)
 go_simp
 refine (cmp_q (VX.qi.to HB) (VY.qi.to HB) (by decide) (by decide) (by decide) HC.out).mono ?_
 rintro e V ⟨rfl, bb⟩
 replace HB := bx HB bb
 refine hK.out _ _ HB ?_
 clear hK K bb
 refine plan_call rfl (by rfl) (fun K hK => ?_)
 go_simp
 refine (rcmp_q (VA.qi.to HB) (VB.qi.to HB) (by decide) (by decide) (by decide) HC.out).mono ?_
 rintro e V ⟨rfl, bb⟩
 replace HB := bx HB bb
 refine hK.out _ _ HB ?_
 clear hK K bb
 refine plan_take (v := ?_) rfl (by rfl) ?_ ?_; rotate_left; (focus (intro w' _; go_simp; try with_reducible rfl)); simp only [Act.put, List.setIfInBounds_toArray, List.set_cons_zero, List.set_cons_succ]
 refine plan_take (v := ?_) rfl (by rfl) ?_ ?_; rotate_left; (focus (intro w' _; go_simp; try with_reducible rfl)); simp only [Act.put, List.setIfInBounds_toArray, List.set_cons_zero, List.set_cons_succ]
 refine plan_take rfl (by rfl) (fun w' hS => load_four (by rfl) (VX.four.to hS)) ?_; simp only [Act.put, List.setIfInBounds_toArray, List.set_cons_zero, List.set_cons_succ]
 refine plan_take rfl (by rfl) (fun w' hS => load_four (by rfl) (VY.four.to hS)) ?_; simp only [Act.put, List.setIfInBounds_toArray, List.set_cons_zero, List.set_cons_succ]
 refine plan_take rfl (by rfl) (fun w' hS => load_four (by rfl) (VA.four.to hS)) ?_; simp only [Act.put, List.setIfInBounds_toArray, List.set_cons_zero, List.set_cons_succ]
 refine plan_take rfl (by rfl) (fun w' hS => load_four (by rfl) (VB.four.to hS)) ?_; simp only [Act.put, List.setIfInBounds_toArray, List.set_cons_zero, List.set_cons_succ]
 refine plan_call rfl (by rfl) (fun K hK => ?_)
 go_simp
 refine (equal_q (VX.qi.to HB) (VY.qi.to HB) (by decide) (by decide) (by decide) HD.out).mono ?_
 rintro e V ⟨rfl, bb⟩
 replace HB := bx HB bb
 refine hK.out _ _ HB ?_
 clear hK K bb
 refine plan_call rfl (by rfl) (fun K hK => ?_)
 go_simp
 refine (rsame_q (VA.qi.to HB) (VB.qi.to HB) (by decide) (by decide) (by decide) HD.out).mono ?_
 rintro e V ⟨rfl, bb⟩
 replace HB := bx HB bb
 refine hK.out _ _ HB ?_
 clear hK K bb
 refine plan_take (v := ?_) rfl (by rfl) ?_ ?_; rotate_left; (focus (intro w' _; go_simp; try with_reducible rfl)); simp only [Act.put, List.setIfInBounds_toArray, List.set_cons_zero, List.set_cons_succ]
 refine plan_take (v := ?_) rfl (by rfl) ?_ ?_; rotate_left; (focus (intro w' _; go_simp; try with_reducible rfl)); simp only [Act.put, List.setIfInBounds_toArray, List.set_cons_zero, List.set_cons_succ]
 refine plan_take (v := ?_) rfl (by rfl) ?_ ?_; rotate_left; (focus (intro w' _; go_simp; try with_reducible rfl)); simp only [Act.put, List.setIfInBounds_toArray, List.set_cons_zero, List.set_cons_succ]
 refine plan_take (v := ?_) rfl (by rfl) ?_ ?_; rotate_left; (focus (intro w' _; go_simp; try with_reducible rfl)); simp only [Act.put, List.setIfInBounds_toArray, List.set_cons_zero, List.set_cons_succ]
 refine plan_take rfl (by rfl) (fun w' hS => load_four (by rfl) (VX.four.to hS)) ?_; simp only [Act.put, List.setIfInBounds_toArray, List.set_cons_zero, List.set_cons_succ]
 refine plan_take rfl (by rfl) (fun w' hS => load_four (by rfl) (VA.four.to hS)) ?_; simp only [Act.put, List.setIfInBounds_toArray, List.set_cons_zero, List.set_cons_succ]
 refine plan_call rfl (by rfl) (fun K hK => ?_)
 go_simp
 refine (is_x (xX.to HB) (xA.to HB)).mono ?_
 rintro e V ⟨rfl, bb⟩
 replace HB := bx HB bb
 refine hK.out _ _ HB ?_
 clear hK K bb
 refine plan_take (v := ?_) rfl (by rfl) ?_ ?_; rotate_left; (focus (intro w' _; go_simp; try with_reducible rfl)); simp only [Act.put, List.setIfInBounds_toArray, List.set_cons_zero, List.set_cons_succ]
 refine plan_take (v := ?_) rfl (by rfl) ?_ ?_; rotate_left; (focus (intro w' _; go_simp; try with_reducible rfl)); simp only [Act.put, List.setIfInBounds_toArray, List.set_cons_zero, List.set_cons_succ]
 refine plan_take (v := ?_) rfl (by rfl) ?_ ?_; rotate_left; (focus (intro w' _; go_simp; try with_reducible rfl)); simp only [Act.put, List.setIfInBounds_toArray, List.set_cons_zero, List.set_cons_succ]
 refine plan_take rfl (by rfl) (fun w' hS => load_four (by rfl) (VY.four.to hS)) ?_; simp only [Act.put, List.setIfInBounds_toArray, List.set_cons_zero, List.set_cons_succ]
 refine plan_take rfl (by rfl) (fun w' hS => load_four (by rfl) (VB.four.to hS)) ?_; simp only [Act.put, List.setIfInBounds_toArray, List.set_cons_zero, List.set_cons_succ]
 refine plan_call rfl (by rfl) (fun K hK => ?_)
 go_simp
 refine (is_x (xY.to HB) (xB.to HB)).mono ?_
 rintro e V ⟨rfl, bb⟩
 replace HB := bx HB bb
 refine hK.out _ _ HB ?_
 clear hK K bb
 refine plan_take (v := ?_) rfl (by rfl) ?_ ?_; rotate_left; (focus (intro w' _; go_simp; try with_reducible rfl)); simp only [Act.put, List.setIfInBounds_toArray, List.set_cons_zero, List.set_cons_succ]
 refine plan_take (v := ?_) rfl (by rfl) ?_ ?_; rotate_left; (focus (intro w' _; go_simp; try with_reducible rfl)); simp only [Act.put, List.setIfInBounds_toArray, List.set_cons_zero, List.set_cons_succ]
 refine plan_call rfl (by rfl) (fun K hK => ?_)
 go_simp
 refine (falive_any _).mono ?_
 rintro e V ⟨rfl, bb⟩
 replace HB := bx HB bb
 refine hK.out _ _ HB ?_
 clear hK K bb
 refine plan_take (v := ?_) rfl (by rfl) ?_ ?_; rotate_left; (focus (intro w' _; go_simp; try with_reducible rfl)); simp only [Act.put, List.setIfInBounds_toArray, List.set_cons_zero, List.set_cons_succ]
 refine plan_take (v := ?_) rfl (by rfl) ?_ ?_; rotate_left; (focus (intro w' _; go_simp; try with_reducible rfl)); simp only [Act.put, List.setIfInBounds_toArray, List.set_cons_zero, List.set_cons_succ]
 refine plan_done ?_
 have HE := hx HB0 HB
 clear HB
 go_wp2
 go_ret
 exact ⟨rfl, HE.out⟩
theorem match_long {a1 a2 a3 a4 b1 b2 b3 b4 : Value} {w : World} 
  (hL : ∀ (V : World) (g : Nat), V.heap[g]? = some (.cells #[a1, a2, a3, a4, b1, b2, b3, b4] 26 (0, 0)) -> Calls Tryz.prog 5 #[.slice (some ⟨g, 0, none⟩) 2 2] V fun e w' => e = .returned (.bool true) /\ Below V.heap.size V w') :
  Calls Tryz.prog 3 #[.agg #[a1, a2, a3, a4], .agg #[b1, b2, b3, b4]] w fun e w' => e = .returned (.bool true) /\ Below w.heap.size w w' := by
 obtain ⟨W0, hW0⟩ : ∃ W0, W0 = ((w.alloc (.cells #[a1, a2, a3, a4] 26)).alloc (.cells #[b1, b2, b3, b4] 26)).alloc (.cells #[a1, a2, a3, a4, b1, b2, b3, b4] 26) := ⟨_, rfl⟩
 have hb : Below w.heap.size w W0 := by rw [hW0]; exact (((Below.refl _ _).alloc (Nat.le_refl _) _).alloc (by simp) _).alloc (by simp; omega) _
 have HL : Hid (Calls Tryz.prog 5 #[.slice (some ⟨w.heap.size + 1 + 1, 0, none⟩) 2 2] W0 fun e w' => e = .returned (.bool true) /\ Below W0.heap.size W0 w') := by
  have h := World.alloc_heap_new ((w.alloc (.cells #[a1, a2, a3, a4] 26)).alloc (.cells #[b1, b2, b3, b4] 26)) (.cells #[a1, a2, a3, a4, b1, b2, b3, b4] 26)
  rw [World.size_alloc, World.size_alloc, <- hW0] at h
  exact hL W0 (w.heap.size + 1 + 1) h
 have HW0 := Hd hW0
 have HB0 := Hd hb
 clear hL hW0 hb
 go_enter Tryz.func3, Tryz.ntmps3
 go_wp2_with fail
 rw [<- HW0.out]
 clear HW0
 refine HL.out.mono ?_
 rintro e W1 ⟨rfl, bb⟩
 clear HL
 replace HB0 := hx HB0 bb
 clear bb
 go_wp2_with fail
 refine (falive_any _).mono ?_
 rintro e w' ⟨rfl, b⟩
 have HE := hx HB0 b
 clear b HB0
 go_wp2
 go_ret
 exact ⟨rfl, HE.out⟩
end Go.Proofs.YtbmnloelimmgiaaGreat

namespace Go.Proofs.YtbmnloelimmgiaaGreat
open Go.ChangeShapes Go.WideShapes Go.ChangeAt Go.RowKit Go.Joins
theorem cellsZ : Tryz.prog.cellsOf 24 = 2 := by kernel_rfl
theorem cellsU : Tryz.prog.cellsOf 62 = 1 := by kernel_rfl
theorem laidOut : laidOutB Tryz.prog = true := by kernel_rfl
theorem own : ownKnob Tryz.prog.godebug = none := by kernel_rfl
theorem nats_of {zs : List Int} (h : ∀ n ∈ zs, (Lit.int .u32 n).wf = true) : ∃ xs : List Nat, zs = xs.map (fun n : Nat => (n : Int)) /\ Dg b32 xs := by
 induction zs with
 | nil => exact ⟨[], rfl, fun d hd => by cases hd⟩
 | cons z zs ih =>
  obtain ⟨xs, rfl, hx⟩ := ih (fun n hn => h n (List.mem_cons_of_mem _ hn))
  have hz := h z List.mem_cons_self
  have hz' := bounds_u32 hz
  exact ⟨z.toNat :: xs, by simp; omega, Dg.cons (by unfold b32; omega) hx⟩
end Go.Proofs.YtbmnloelimmgiaaGreat

namespace Go.Proofs.YtbmnloelimmgiaaGreat
open Go.ChangeShapes Go.WideShapes Go.ChangeAt Go.RowKit Go.Joins
theorem cellsB : Tryz.prog.cellsOf 4 = 1 := by kernel_rfl
theorem cellsS : Tryz.prog.cellsOf 22 = 1 := by kernel_rfl
theorem cellsQ : Tryz.prog.cellsOf 26 = 4 := by kernel_rfl
def Zx2 (W : World) (x y : Value) : Prop := ∃ n A c xs, x = .bool n /\ y = .slice A xs.length c /\ Rd .u32 W W.heap.size A xs /\ Dg b32 xs /\ xs.length <= c /\ c <= 9223372036854775807
theorem trod_z {H : Type} {enc : TypeId × Value -> H} {W : World} {base : Nat} {spare : Nat -> Bool} {held : Bool} {fuel : Nat} {c0 c1 : Value} {x : DataW H × List MemPlace}
  (hs : ∀ b, spare b = true) (h : DataW.trod enc Tryz.prog W base spare held fuel 24 [c0, c1] = some x) : Zx2 W c0 c1 := by
 obtain ⟨y0, y1, m, hx, _, h0, h1⟩ := trod_struct2 (f0 := _) (f1 := _) (show Tryz.prog.underlying 24 = _ from Tryz.underlying24) h
 replace h0 : DataW.trod enc Tryz.prog W base spare held m 4 [c0] = some y0 := by
  rw [show Tryz.prog.cellsOf _ = 1 from cellsB] at h0
  simpa using h0
 replace h1 : DataW.trod enc Tryz.prog W base spare held m 22 [c1] = some y1 := by
  rw [show Tryz.prog.cellsOf _ = 1 from cellsS] at h1
  simpa using h1
 obtain ⟨n, hc0, _⟩ := DataW.trod_bool Tryz.underlying4 h0
 obtain rfl : c0 = .bool n := by simpa using hc0
 rcases open_ints Tryz.underlying22 Tryz.underlying62 cellsU h1 with ⟨hcs, _⟩ | ⟨x, l, c, zs, hcs, _, hl, hm, hz, _, hcell, hwz⟩
 ·obtain rfl : c1 = .slice none 0 0 := by simpa using hcs
  exact ⟨n, none, 0, [], rfl, rfl, Rd.nil, Dg.nil, Nat.le_refl _, by decide⟩
 ·obtain rfl : c1 = .slice (some x) l c := by simpa using hcs
  rw [hs, if_pos rfl] at hz
  obtain ⟨xs, rfl, hx⟩ := nats_of hwz
  rw [List.length_map] at hz
  have hlen : (xs.take l).length = l := by rw [List.length_take]; omega
  refine ⟨n, some x, c, xs.take l, rfl, by rw [hlen], ?_, hx.take l, by rw [hlen]; exact hl, Nat.le_trans hm (by decide)⟩
  intro k hk
  rw [hlen] at hk
  obtain ⟨b, off, rfl, hc⟩ := Go.ints_at hcell (by rw [List.length_map]; omega)
  have hck := hc k (by rw [List.length_map]; omega)
  refine ⟨b, off, rfl, World.block_lt_of_cell? W _ hck, ?_⟩
  rw [hck]
  have hk' : k < xs.length := by omega
  simp [hk']
theorem array4 {α : Type} {cs : Array α} (h : cs.size = 4) : ∃ c0 c1 c2 c3, cs = #[c0, c1, c2, c3] := by
 obtain ⟨l⟩ := cs
 match l, h with
 | [c0, c1, c2, c3], _ => exact ⟨c0, c1, c2, c3, rfl⟩
theorem trod_q {H : Type} {enc : TypeId × Value -> H} {W : World} {base : Nat} {spare : Nat -> Bool} {held : Bool} {fuel : Nat} {c0 c1 c2 c3 : Value} {x : DataW H × List MemPlace}
  (hs : ∀ b, spare b = true) (h : DataW.trod enc Tryz.prog W base spare held fuel 26 [c0, c1, c2, c3] = some x) : Zx2 W c0 c1 /\ Zx2 W c2 c3 := by
 obtain ⟨y0, y1, m, hx, _, h0, h1⟩ := trod_struct2 (f0 := _) (f1 := _) (show Tryz.prog.underlying 26 = _ from Tryz.underlying26) h
 replace h0 : DataW.trod enc Tryz.prog W base spare held m 24 [c0, c1] = some y0 := by
  rw [show Tryz.prog.cellsOf _ = 2 from cellsZ] at h0
  simpa using h0
 replace h1 : DataW.trod enc Tryz.prog W base spare held m 24 [c2, c3] = some y1 := by
  rw [show Tryz.prog.cellsOf _ = 2 from cellsZ] at h1
  simpa using h1
 exact ⟨trod_z hs h0, trod_z hs h1⟩
theorem open_q {H : Type} {enc : TypeId × Value -> H} {W : World} {base : Nat} {spare : Nat -> Bool} {held : Bool} {r : Reach} {b0 : Nat} {v : Value} {d : DataW H} {p : List MemPlace}
  (hs : ∀ b, spare b = true) (hv : Value.okWide Tryz.prog W r b0 26 v) (h : DataW.Trod enc Tryz.prog W base spare held 26 v d p) :
  ∃ c0 c1 c2 c3, v = .agg #[c0, c1, c2, c3] /\ Zx2 W c0 c1 /\ Zx2 W c2 c3 := by
 obtain ⟨cs, rfl, hsz⟩ := okWide_struct Tryz.underlying26 hv
 obtain ⟨c0, c1, c2, c3, rfl⟩ := array4 (hsz.trans cellsQ)
 obtain ⟨fuel, hf⟩ := h
 exact ⟨c0, c1, c2, c3, rfl, trod_q hs hf⟩
end Go.Proofs.YtbmnloelimmgiaaGreat
