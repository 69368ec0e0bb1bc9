/- Parts: DivMatch. -/
import Derived.Test.YtoaghihhobggoaaDv15
import Derived.Test.YtoaghihhobggoaaDv27
set_option linter.unusedVariables false
set_option linter.unusedSimpArgs false

namespace Go.Proofs.Ytoaghihhobggoaa
open Go.RowKit Go.Shelf

set_option maxRecDepth 100000 in
set_option maxHeartbeats 20000000 in
theorem div_core {x1 y1 x2 y2 : Value} {n1 n2 : Bool} {xs1 xs2 : List Nat} {w : World} (h1 : Zx w x1 y1 n1 xs1) (h2 : Zx w x2 y2 n2 xs2) (k1 : xs1.length ≤ 12) (k2 : xs2.length ≤ 12)
    (hL : ∀ (V : World) (g : Nat), V.cell? ⟨g, 1, none⟩ = some y1 → V.cell? ⟨g, 3, none⟩ = some y2 → Calls Try.prog 9 #[.slice (some ⟨g, 0, none⟩) 2 2] V fun e w' => e = .returned (.bool false) ∧ w' = V) :
    Calls Try.prog 4 #[.agg #[x1, y1], .agg #[x2, y2]] w fun e w' => e = .returned (.bool true) ∧ Below w.heap.size w w' := by
  obtain ⟨W0, hW0⟩ : ∃ W0, W0 = ((w.alloc (.cells #[x1, y1] 24)).alloc (.cells #[x2, y2] 24)).alloc (.cells #[x1, y1, x2, y2] 24) := ⟨_, rfl⟩
  have hb : Below w.heap.size w W0 := by rw [hW0]; exact (((Below.refl _ _).alloc (Nat.le_refl _) _).alloc (by simp) _).alloc (by simp; omega) _
  have X3 : Xb W0 w.heap.size x1 y1 n1 xs1 := ⟨by rw [hW0]; exact ((Two.new w _ _ _).alloc _).alloc _, h1.to hb⟩
  have X4 : Xb W0 (w.heap.size + 1) x2 y2 n2 xs2 := ⟨by
    have h := Two.new (w.alloc (.cells #[x1, y1] 24)) x2 y2 24
    rw [World.size_alloc] at h
    rw [hW0]; exact h.alloc _, h2.to hb⟩
  have HL : Hid (Calls Try.prog 9 #[.slice (some ⟨w.heap.size + 1 + 1, 0, none⟩) 2 2] W0 fun e w' => e = .returned (.bool false) ∧ w' = W0) := by
    have h := World.alloc_heap_new ((w.alloc (.cells #[x1, y1] 24)).alloc (.cells #[x2, y2] 24)) (.cells #[x1, y1, x2, y2] 24)
    rw [World.size_alloc, World.size_alloc, ← hW0] at h
    exact hL W0 (w.heap.size + 1 + 1) (by simp [World.cell?, h]) (by simp [World.cell?, h])
  have HW0 := Lib.hid hW0
  have HB0 := Lib.hid hb
  clear hL h1 h2 hW0 hb
  go_enter Try.func4, Try.ntmps4
  go_wp2_with fail
  rw [← HW0.out]
  refine HL.out.mono ?_
  rintro e W1 ⟨rfl, rfl⟩
  clear HL
  go_wp2_with fail
  refine wp_cut (fun a' v' w' => ∃ g1 g2 x7 y7 x8 y8, v' = (((((a'.put (some 18) (.agg #[x1, y1])).put (some 19) (.agg #[x7, y7])).put (some 20) (.agg #[x2, y2])).put (some 21) (.agg #[x8, y8])).put (some 5) (.pointer (some ⟨g1, 0, none⟩))).put (some 6) (.pointer (some ⟨g2, 0, none⟩)) ∧ Xb w' g1 x7 y7 n1 xs1 ∧ Xb w' g2 x8 y8 n2 xs2 ∧ Below W1.heap.size W1 w') ?_ ?_
  · refine wp_region_planTo (S := fun w' => Below W1.heap.size W1 w') [(0, true), (2, true)] #[true, false, true, false, false, false, false, false] 6 (by kernel_rfl) (by kernel_rfl) (Below.refl _ _).drew ?_
    refine plan_take rfl (by rfl) (fun w' hS => load_two (by rfl) (X3.two.to hS)) ?_; simp only [Act.put, List.setIfInBounds_toArray, List.set_cons_zero, List.set_cons_succ]
    refine plan_take rfl (by rfl) (fun w' hS => load_two (by rfl) (X4.two.to hS)) ?_; simp only [Act.put, List.setIfInBounds_toArray, List.set_cons_zero, List.set_cons_succ]
    intro HB
    refine wpAnyH_ready (rs := [1, 4, 5]) (by kernel_rfl) (by simp) (ready_cons rfl (by rfl) (fun K hK => ?_) (ready_cons rfl (by rfl) (fun K hK => ?_) (ready_cons rfl (by rfl) (fun K hK => ?_) AllReadyH.nil)))
    · go_simp
      refine (own_x (X3.zx.to HB) k1).mono ?_
      rintro e V ⟨x7, y7, rfl, r1, bb⟩
      replace HB := HB.trans (bb.mono HB.size)
      refine hK.out _ _ HB ?_
      clear hK K bb
      refine wpAnyH_ready (rs := [3, 4, 5]) (by kernel_rfl) (by simp) (ready_cons rfl (by rfl) (fun K hK => ?_) (ready_cons rfl (by rfl) (fun K hK => ?_) (ready_cons rfl (by rfl) (fun K hK => ?_) AllReadyH.nil)))
      · go_simp
        refine (own_x (X4.zx.to HB) k2).mono ?_
        rintro e V ⟨x8, y8, rfl, r2, bb⟩
        replace HB := HB.trans (bb.mono HB.size)
        replace r1 := r1.to bb
        refine hK.out _ _ HB ?_
        clear hK K bb
        refine wpAnyH_ready (rs := [4, 5]) (by kernel_rfl) (by simp) (ready_cons rfl (by rfl) (fun K hK => ?_) (ready_cons rfl (by rfl) (fun K hK => ?_) AllReadyH.nil))
        · refine wp_alloc_two (fun g1 V t1 bb hg => ?_)
          have b1 := Nat.le_trans HB.size hg
          replace HB := HB.trans (bb.mono HB.size)
          replace r1 := r1.to bb
          replace r2 := r2.to bb
          refine hK.out _ _ HB ?_
          clear hK K bb hg
          simp only [Act.put, List.setIfInBounds_toArray, List.set_cons_zero, List.set_cons_succ]
          refine wpAnyH_ready (rs := [5]) (by kernel_rfl) (by simp) (ready_cons rfl (by rfl) (fun K hK => ?_) AllReadyH.nil)
          · refine wp_alloc_two (fun g2 V t2 bb hg => ?_)
            have b2 := Nat.le_trans HB.size hg
            replace HB := HB.trans (bb.mono HB.size)
            have ne12 : g1 ≠ g2 := Nat.ne_of_lt (Nat.lt_of_lt_of_le t1.lt hg)
            replace t1 := t1.to bb
            replace r1 := r1.to bb
            replace r2 := r2.to bb
            refine hK.out _ _ HB ?_
            clear hK K bb hg
            simp only [Act.put, List.setIfInBounds_toArray, List.set_cons_zero, List.set_cons_succ]
            refine wpAnyH_ready (rs := [6]) (by kernel_rfl) (by simp) (ready_cons rfl (by rfl) (fun K hK => ?_) AllReadyH.nil)
            · refine wp_store_two (by rfl) (by rfl) t1 Fs.nil r1.fs (fun V u kp => ?_)
              replace t2 := kp.two _ _ _ (Ne.symm ne12) t2
              replace r1 := r1.kp kp
              replace r2 := r2.kp kp
              replace HB := kp.bel _ _ HB b1
              clear t1
              have t1 := u
              refine hK.out _ _ HB ?_
              clear hK K kp u
              simp only [Act.put, List.setIfInBounds_toArray, List.set_cons_zero, List.set_cons_succ]
              refine wpAnyH_ready (rs := [7]) (by kernel_rfl) (by simp) (ready_cons rfl (by rfl) (fun K hK => ?_) AllReadyH.nil)
              · refine wp_store_two (by rfl) (by rfl) t2 Fs.nil r2.fs (fun V u kp => ?_)
                replace t1 := kp.two _ _ _ ne12 t1
                replace r1 := r1.kp kp
                replace r2 := r2.kp kp
                replace HB := kp.bel _ _ HB b2
                clear t2
                have t2 := u
                refine hK.out _ _ HB ?_
                clear hK K kp u
                simp only [Act.put, List.setIfInBounds_toArray, List.set_cons_zero, List.set_cons_succ]
                exact wpAnyH_done (by kernel_rfl) ⟨rfl, g1, g2, x7, y7, x8, y8, by simp only [Act.put, List.setIfInBounds_toArray, List.set_cons_zero, List.set_cons_succ], ⟨t1, r1⟩, ⟨t2, r2⟩, HB⟩ _
        · refine wp_alloc_two (fun g2 V t2 bb hg => ?_)
          have b2 := Nat.le_trans HB.size hg
          replace HB := HB.trans (bb.mono HB.size)
          replace r1 := r1.to bb
          replace r2 := r2.to bb
          refine hK.out _ _ HB ?_
          clear hK K bb hg
          simp only [Act.put, List.setIfInBounds_toArray, List.set_cons_zero, List.set_cons_succ]
          refine wpAnyH_ready (rs := [4]) (by kernel_rfl) (by simp) (ready_cons rfl (by rfl) (fun K hK => ?_) AllReadyH.nil)
          · refine wp_alloc_two (fun g1 V t1 bb hg => ?_)
            have b1 := Nat.le_trans HB.size hg
            replace HB := HB.trans (bb.mono HB.size)
            have ne12 : g1 ≠ g2 := Nat.ne_of_gt (Nat.lt_of_lt_of_le t2.lt hg)
            replace t2 := t2.to bb
            replace r1 := r1.to bb
            replace r2 := r2.to bb
            refine hK.out _ _ HB ?_
            clear hK K bb hg
            simp only [Act.put, List.setIfInBounds_toArray, List.set_cons_zero, List.set_cons_succ]
            refine wpAnyH_ready (rs := [6]) (by kernel_rfl) (by simp) (ready_cons rfl (by rfl) (fun K hK => ?_) AllReadyH.nil)
            · refine wp_store_two (by rfl) (by rfl) t1 Fs.nil r1.fs (fun V u kp => ?_)
              replace t2 := kp.two _ _ _ (Ne.symm ne12) t2
              replace r1 := r1.kp kp
              replace r2 := r2.kp kp
              replace HB := kp.bel _ _ HB b1
              clear t1
              have t1 := u
              refine hK.out _ _ HB ?_
              clear hK K kp u
              simp only [Act.put, List.setIfInBounds_toArray, List.set_cons_zero, List.set_cons_succ]
              refine wpAnyH_ready (rs := [7]) (by kernel_rfl) (by simp) (ready_cons rfl (by rfl) (fun K hK => ?_) AllReadyH.nil)
              · refine wp_store_two (by rfl) (by rfl) t2 Fs.nil r2.fs (fun V u kp => ?_)
                replace t1 := kp.two _ _ _ ne12 t1
                replace r1 := r1.kp kp
                replace r2 := r2.kp kp
                replace HB := kp.bel _ _ HB b2
                clear t2
                have t2 := u
                refine hK.out _ _ HB ?_
                clear hK K kp u
                simp only [Act.put, List.setIfInBounds_toArray, List.set_cons_zero, List.set_cons_succ]
                exact wpAnyH_done (by kernel_rfl) ⟨rfl, g1, g2, x7, y7, x8, y8, by simp only [Act.put, List.setIfInBounds_toArray, List.set_cons_zero, List.set_cons_succ], ⟨t1, r1⟩, ⟨t2, r2⟩, HB⟩ _
      · refine wp_alloc_two (fun g1 V t1 bb hg => ?_)
        have b1 := Nat.le_trans HB.size hg
        replace HB := HB.trans (bb.mono HB.size)
        replace r1 := r1.to bb
        refine hK.out _ _ HB ?_
        clear hK K bb hg
        simp only [Act.put, List.setIfInBounds_toArray, List.set_cons_zero, List.set_cons_succ]
        refine wpAnyH_ready (rs := [3, 5]) (by kernel_rfl) (by simp) (ready_cons rfl (by rfl) (fun K hK => ?_) (ready_cons rfl (by rfl) (fun K hK => ?_) AllReadyH.nil))
        · go_simp
          refine (own_x (X4.zx.to HB) k2).mono ?_
          rintro e V ⟨x8, y8, rfl, r2, bb⟩
          replace HB := HB.trans (bb.mono HB.size)
          replace t1 := t1.to bb
          replace r1 := r1.to bb
          refine hK.out _ _ HB ?_
          clear hK K bb
          refine wpAnyH_ready (rs := [5]) (by kernel_rfl) (by simp) (ready_cons rfl (by rfl) (fun K hK => ?_) AllReadyH.nil)
          · refine wp_alloc_two (fun g2 V t2 bb hg => ?_)
            have b2 := Nat.le_trans HB.size hg
            replace HB := HB.trans (bb.mono HB.size)
            have ne12 : g1 ≠ g2 := Nat.ne_of_lt (Nat.lt_of_lt_of_le t1.lt hg)
            replace t1 := t1.to bb
            replace r1 := r1.to bb
            replace r2 := r2.to bb
            refine hK.out _ _ HB ?_
            clear hK K bb hg
            simp only [Act.put, List.setIfInBounds_toArray, List.set_cons_zero, List.set_cons_succ]
            refine wpAnyH_ready (rs := [6]) (by kernel_rfl) (by simp) (ready_cons rfl (by rfl) (fun K hK => ?_) AllReadyH.nil)
            · refine wp_store_two (by rfl) (by rfl) t1 Fs.nil r1.fs (fun V u kp => ?_)
              replace t2 := kp.two _ _ _ (Ne.symm ne12) t2
              replace r1 := r1.kp kp
              replace r2 := r2.kp kp
              replace HB := kp.bel _ _ HB b1
              clear t1
              have t1 := u
              refine hK.out _ _ HB ?_
              clear hK K kp u
              simp only [Act.put, List.setIfInBounds_toArray, List.set_cons_zero, List.set_cons_succ]
              refine wpAnyH_ready (rs := [7]) (by kernel_rfl) (by simp) (ready_cons rfl (by rfl) (fun K hK => ?_) AllReadyH.nil)
              · refine wp_store_two (by rfl) (by rfl) t2 Fs.nil r2.fs (fun V u kp => ?_)
                replace t1 := kp.two _ _ _ ne12 t1
                replace r1 := r1.kp kp
                replace r2 := r2.kp kp
                replace HB := kp.bel _ _ HB b2
                clear t2
                have t2 := u
                refine hK.out _ _ HB ?_
                clear hK K kp u
                simp only [Act.put, List.setIfInBounds_toArray, List.set_cons_zero, List.set_cons_succ]
                exact wpAnyH_done (by kernel_rfl) ⟨rfl, g1, g2, x7, y7, x8, y8, by simp only [Act.put, List.setIfInBounds_toArray, List.set_cons_zero, List.set_cons_succ], ⟨t1, r1⟩, ⟨t2, r2⟩, HB⟩ _
        · refine wp_alloc_two (fun g2 V t2 bb hg => ?_)
          have b2 := Nat.le_trans HB.size hg
          replace HB := HB.trans (bb.mono HB.size)
          have ne12 : g1 ≠ g2 := Nat.ne_of_lt (Nat.lt_of_lt_of_le t1.lt hg)
          replace t1 := t1.to bb
          replace r1 := r1.to bb
          refine hK.out _ _ HB ?_
          clear hK K bb hg
          simp only [Act.put, List.setIfInBounds_toArray, List.set_cons_zero, List.set_cons_succ]
          refine wpAnyH_ready (rs := [3]) (by kernel_rfl) (by simp) (ready_cons rfl (by rfl) (fun K hK => ?_) AllReadyH.nil)
          · go_simp
            refine (own_x (X4.zx.to HB) k2).mono ?_
            rintro e V ⟨x8, y8, rfl, r2, bb⟩
            replace HB := HB.trans (bb.mono HB.size)
            replace t1 := t1.to bb
            replace t2 := t2.to bb
            replace r1 := r1.to bb
            refine hK.out _ _ HB ?_
            clear hK K bb
            refine wpAnyH_ready (rs := [6]) (by kernel_rfl) (by simp) (ready_cons rfl (by rfl) (fun K hK => ?_) AllReadyH.nil)
            · refine wp_store_two (by rfl) (by rfl) t1 Fs.nil r1.fs (fun V u kp => ?_)
              replace t2 := kp.two _ _ _ (Ne.symm ne12) t2
              replace r1 := r1.kp kp
              replace r2 := r2.kp kp
              replace HB := kp.bel _ _ HB b1
              clear t1
              have t1 := u
              refine hK.out _ _ HB ?_
              clear hK K kp u
              simp only [Act.put, List.setIfInBounds_toArray, List.set_cons_zero, List.set_cons_succ]
              refine wpAnyH_ready (rs := [7]) (by kernel_rfl) (by simp) (ready_cons rfl (by rfl) (fun K hK => ?_) AllReadyH.nil)
              · refine wp_store_two (by rfl) (by rfl) t2 Fs.nil r2.fs (fun V u kp => ?_)
                replace t1 := kp.two _ _ _ ne12 t1
                replace r1 := r1.kp kp
                replace r2 := r2.kp kp
                replace HB := kp.bel _ _ HB b2
                clear t2
                have t2 := u
                refine hK.out _ _ HB ?_
                clear hK K kp u
                simp only [Act.put, List.setIfInBounds_toArray, List.set_cons_zero, List.set_cons_succ]
                exact wpAnyH_done (by kernel_rfl) ⟨rfl, g1, g2, x7, y7, x8, y8, by simp only [Act.put, List.setIfInBounds_toArray, List.set_cons_zero, List.set_cons_succ], ⟨t1, r1⟩, ⟨t2, r2⟩, HB⟩ _
      · refine wp_alloc_two (fun g2 V t2 bb hg => ?_)
        have b2 := Nat.le_trans HB.size hg
        replace HB := HB.trans (bb.mono HB.size)
        replace r1 := r1.to bb
        refine hK.out _ _ HB ?_
        clear hK K bb hg
        simp only [Act.put, List.setIfInBounds_toArray, List.set_cons_zero, List.set_cons_succ]
        refine wpAnyH_ready (rs := [3, 4]) (by kernel_rfl) (by simp) (ready_cons rfl (by rfl) (fun K hK => ?_) (ready_cons rfl (by rfl) (fun K hK => ?_) AllReadyH.nil))
        · go_simp
          refine (own_x (X4.zx.to HB) k2).mono ?_
          rintro e V ⟨x8, y8, rfl, r2, bb⟩
          replace HB := HB.trans (bb.mono HB.size)
          replace t2 := t2.to bb
          replace r1 := r1.to bb
          refine hK.out _ _ HB ?_
          clear hK K bb
          refine wpAnyH_ready (rs := [4]) (by kernel_rfl) (by simp) (ready_cons rfl (by rfl) (fun K hK => ?_) AllReadyH.nil)
          · refine wp_alloc_two (fun g1 V t1 bb hg => ?_)
            have b1 := Nat.le_trans HB.size hg
            replace HB := HB.trans (bb.mono HB.size)
            have ne12 : g1 ≠ g2 := Nat.ne_of_gt (Nat.lt_of_lt_of_le t2.lt hg)
            replace t2 := t2.to bb
            replace r1 := r1.to bb
            replace r2 := r2.to bb
            refine hK.out _ _ HB ?_
            clear hK K bb hg
            simp only [Act.put, List.setIfInBounds_toArray, List.set_cons_zero, List.set_cons_succ]
            refine wpAnyH_ready (rs := [6]) (by kernel_rfl) (by simp) (ready_cons rfl (by rfl) (fun K hK => ?_) AllReadyH.nil)
            · refine wp_store_two (by rfl) (by rfl) t1 Fs.nil r1.fs (fun V u kp => ?_)
              replace t2 := kp.two _ _ _ (Ne.symm ne12) t2
              replace r1 := r1.kp kp
              replace r2 := r2.kp kp
              replace HB := kp.bel _ _ HB b1
              clear t1
              have t1 := u
              refine hK.out _ _ HB ?_
              clear hK K kp u
              simp only [Act.put, List.setIfInBounds_toArray, List.set_cons_zero, List.set_cons_succ]
              refine wpAnyH_ready (rs := [7]) (by kernel_rfl) (by simp) (ready_cons rfl (by rfl) (fun K hK => ?_) AllReadyH.nil)
              · refine wp_store_two (by rfl) (by rfl) t2 Fs.nil r2.fs (fun V u kp => ?_)
                replace t1 := kp.two _ _ _ ne12 t1
                replace r1 := r1.kp kp
                replace r2 := r2.kp kp
                replace HB := kp.bel _ _ HB b2
                clear t2
                have t2 := u
                refine hK.out _ _ HB ?_
                clear hK K kp u
                simp only [Act.put, List.setIfInBounds_toArray, List.set_cons_zero, List.set_cons_succ]
                exact wpAnyH_done (by kernel_rfl) ⟨rfl, g1, g2, x7, y7, x8, y8, by simp only [Act.put, List.setIfInBounds_toArray, List.set_cons_zero, List.set_cons_succ], ⟨t1, r1⟩, ⟨t2, r2⟩, HB⟩ _
        · refine wp_alloc_two (fun g1 V t1 bb hg => ?_)
          have b1 := Nat.le_trans HB.size hg
          replace HB := HB.trans (bb.mono HB.size)
          have ne12 : g1 ≠ g2 := Nat.ne_of_gt (Nat.lt_of_lt_of_le t2.lt hg)
          replace t2 := t2.to bb
          replace r1 := r1.to bb
          refine hK.out _ _ HB ?_
          clear hK K bb hg
          simp only [Act.put, List.setIfInBounds_toArray, List.set_cons_zero, List.set_cons_succ]
          refine wpAnyH_ready (rs := [3]) (by kernel_rfl) (by simp) (ready_cons rfl (by rfl) (fun K hK => ?_) AllReadyH.nil)
          · go_simp
            refine (own_x (X4.zx.to HB) k2).mono ?_
            rintro e V ⟨x8, y8, rfl, r2, bb⟩
            replace HB := HB.trans (bb.mono HB.size)
            replace t1 := t1.to bb
            replace t2 := t2.to bb
            replace r1 := r1.to bb
            refine hK.out _ _ HB ?_
            clear hK K bb
            refine wpAnyH_ready (rs := [6]) (by kernel_rfl) (by simp) (ready_cons rfl (by rfl) (fun K hK => ?_) AllReadyH.nil)
            · refine wp_store_two (by rfl) (by rfl) t1 Fs.nil r1.fs (fun V u kp => ?_)
              replace t2 := kp.two _ _ _ (Ne.symm ne12) t2
              replace r1 := r1.kp kp
              replace r2 := r2.kp kp
              replace HB := kp.bel _ _ HB b1
              clear t1
              have t1 := u
              refine hK.out _ _ HB ?_
              clear hK K kp u
              simp only [Act.put, List.setIfInBounds_toArray, List.set_cons_zero, List.set_cons_succ]
              refine wpAnyH_ready (rs := [7]) (by kernel_rfl) (by simp) (ready_cons rfl (by rfl) (fun K hK => ?_) AllReadyH.nil)
              · refine wp_store_two (by rfl) (by rfl) t2 Fs.nil r2.fs (fun V u kp => ?_)
                replace t1 := kp.two _ _ _ ne12 t1
                replace r1 := r1.kp kp
                replace r2 := r2.kp kp
                replace HB := kp.bel _ _ HB b2
                clear t2
                have t2 := u
                refine hK.out _ _ HB ?_
                clear hK K kp u
                simp only [Act.put, List.setIfInBounds_toArray, List.set_cons_zero, List.set_cons_succ]
                exact wpAnyH_done (by kernel_rfl) ⟨rfl, g1, g2, x7, y7, x8, y8, by simp only [Act.put, List.setIfInBounds_toArray, List.set_cons_zero, List.set_cons_succ], ⟨t1, r1⟩, ⟨t2, r2⟩, HB⟩ _
    · refine wp_alloc_two (fun g1 V t1 bb hg => ?_)
      have b1 := Nat.le_trans HB.size hg
      replace HB := HB.trans (bb.mono HB.size)
      refine hK.out _ _ HB ?_
      clear hK K bb hg
      simp only [Act.put, List.setIfInBounds_toArray, List.set_cons_zero, List.set_cons_succ]
      refine wpAnyH_ready (rs := [1, 5]) (by kernel_rfl) (by simp) (ready_cons rfl (by rfl) (fun K hK => ?_) (ready_cons rfl (by rfl) (fun K hK => ?_) AllReadyH.nil))
      · go_simp
        refine (own_x (X3.zx.to HB) k1).mono ?_
        rintro e V ⟨x7, y7, rfl, r1, bb⟩
        replace HB := HB.trans (bb.mono HB.size)
        replace t1 := t1.to bb
        refine hK.out _ _ HB ?_
        clear hK K bb
        refine wpAnyH_ready (rs := [3, 5]) (by kernel_rfl) (by simp) (ready_cons rfl (by rfl) (fun K hK => ?_) (ready_cons rfl (by rfl) (fun K hK => ?_) AllReadyH.nil))
        · go_simp
          refine (own_x (X4.zx.to HB) k2).mono ?_
          rintro e V ⟨x8, y8, rfl, r2, bb⟩
          replace HB := HB.trans (bb.mono HB.size)
          replace t1 := t1.to bb
          replace r1 := r1.to bb
          refine hK.out _ _ HB ?_
          clear hK K bb
          refine wpAnyH_ready (rs := [5]) (by kernel_rfl) (by simp) (ready_cons rfl (by rfl) (fun K hK => ?_) AllReadyH.nil)
          · refine wp_alloc_two (fun g2 V t2 bb hg => ?_)
            have b2 := Nat.le_trans HB.size hg
            replace HB := HB.trans (bb.mono HB.size)
            have ne12 : g1 ≠ g2 := Nat.ne_of_lt (Nat.lt_of_lt_of_le t1.lt hg)
            replace t1 := t1.to bb
            replace r1 := r1.to bb
            replace r2 := r2.to bb
            refine hK.out _ _ HB ?_
            clear hK K bb hg
            simp only [Act.put, List.setIfInBounds_toArray, List.set_cons_zero, List.set_cons_succ]
            refine wpAnyH_ready (rs := [6]) (by kernel_rfl) (by simp) (ready_cons rfl (by rfl) (fun K hK => ?_) AllReadyH.nil)
            · refine wp_store_two (by rfl) (by rfl) t1 Fs.nil r1.fs (fun V u kp => ?_)
              replace t2 := kp.two _ _ _ (Ne.symm ne12) t2
              replace r1 := r1.kp kp
              replace r2 := r2.kp kp
              replace HB := kp.bel _ _ HB b1
              clear t1
              have t1 := u
              refine hK.out _ _ HB ?_
              clear hK K kp u
              simp only [Act.put, List.setIfInBounds_toArray, List.set_cons_zero, List.set_cons_succ]
              refine wpAnyH_ready (rs := [7]) (by kernel_rfl) (by simp) (ready_cons rfl (by rfl) (fun K hK => ?_) AllReadyH.nil)
              · refine wp_store_two (by rfl) (by rfl) t2 Fs.nil r2.fs (fun V u kp => ?_)
                replace t1 := kp.two _ _ _ ne12 t1
                replace r1 := r1.kp kp
                replace r2 := r2.kp kp
                replace HB := kp.bel _ _ HB b2
                clear t2
                have t2 := u
                refine hK.out _ _ HB ?_
                clear hK K kp u
                simp only [Act.put, List.setIfInBounds_toArray, List.set_cons_zero, List.set_cons_succ]
                exact wpAnyH_done (by kernel_rfl) ⟨rfl, g1, g2, x7, y7, x8, y8, by simp only [Act.put, List.setIfInBounds_toArray, List.set_cons_zero, List.set_cons_succ], ⟨t1, r1⟩, ⟨t2, r2⟩, HB⟩ _
        · refine wp_alloc_two (fun g2 V t2 bb hg => ?_)
          have b2 := Nat.le_trans HB.size hg
          replace HB := HB.trans (bb.mono HB.size)
          have ne12 : g1 ≠ g2 := Nat.ne_of_lt (Nat.lt_of_lt_of_le t1.lt hg)
          replace t1 := t1.to bb
          replace r1 := r1.to bb
          refine hK.out _ _ HB ?_
          clear hK K bb hg
          simp only [Act.put, List.setIfInBounds_toArray, List.set_cons_zero, List.set_cons_succ]
          refine wpAnyH_ready (rs := [3]) (by kernel_rfl) (by simp) (ready_cons rfl (by rfl) (fun K hK => ?_) AllReadyH.nil)
          · go_simp
            refine (own_x (X4.zx.to HB) k2).mono ?_
            rintro e V ⟨x8, y8, rfl, r2, bb⟩
            replace HB := HB.trans (bb.mono HB.size)
            replace t1 := t1.to bb
            replace t2 := t2.to bb
            replace r1 := r1.to bb
            refine hK.out _ _ HB ?_
            clear hK K bb
            refine wpAnyH_ready (rs := [6]) (by kernel_rfl) (by simp) (ready_cons rfl (by rfl) (fun K hK => ?_) AllReadyH.nil)
            · refine wp_store_two (by rfl) (by rfl) t1 Fs.nil r1.fs (fun V u kp => ?_)
              replace t2 := kp.two _ _ _ (Ne.symm ne12) t2
              replace r1 := r1.kp kp
              replace r2 := r2.kp kp
              replace HB := kp.bel _ _ HB b1
              clear t1
              have t1 := u
              refine hK.out _ _ HB ?_
              clear hK K kp u
              simp only [Act.put, List.setIfInBounds_toArray, List.set_cons_zero, List.set_cons_succ]
              refine wpAnyH_ready (rs := [7]) (by kernel_rfl) (by simp) (ready_cons rfl (by rfl) (fun K hK => ?_) AllReadyH.nil)
              · refine wp_store_two (by rfl) (by rfl) t2 Fs.nil r2.fs (fun V u kp => ?_)
                replace t1 := kp.two _ _ _ ne12 t1
                replace r1 := r1.kp kp
                replace r2 := r2.kp kp
                replace HB := kp.bel _ _ HB b2
                clear t2
                have t2 := u
                refine hK.out _ _ HB ?_
                clear hK K kp u
                simp only [Act.put, List.setIfInBounds_toArray, List.set_cons_zero, List.set_cons_succ]
                exact wpAnyH_done (by kernel_rfl) ⟨rfl, g1, g2, x7, y7, x8, y8, by simp only [Act.put, List.setIfInBounds_toArray, List.set_cons_zero, List.set_cons_succ], ⟨t1, r1⟩, ⟨t2, r2⟩, HB⟩ _
      · refine wp_alloc_two (fun g2 V t2 bb hg => ?_)
        have b2 := Nat.le_trans HB.size hg
        replace HB := HB.trans (bb.mono HB.size)
        have ne12 : g1 ≠ g2 := Nat.ne_of_lt (Nat.lt_of_lt_of_le t1.lt hg)
        replace t1 := t1.to bb
        refine hK.out _ _ HB ?_
        clear hK K bb hg
        simp only [Act.put, List.setIfInBounds_toArray, List.set_cons_zero, List.set_cons_succ]
        refine wpAnyH_ready (rs := [1]) (by kernel_rfl) (by simp) (ready_cons rfl (by rfl) (fun K hK => ?_) AllReadyH.nil)
        · go_simp
          refine (own_x (X3.zx.to HB) k1).mono ?_
          rintro e V ⟨x7, y7, rfl, r1, bb⟩
          replace HB := HB.trans (bb.mono HB.size)
          replace t1 := t1.to bb
          replace t2 := t2.to bb
          refine hK.out _ _ HB ?_
          clear hK K bb
          refine wpAnyH_ready (rs := [3]) (by kernel_rfl) (by simp) (ready_cons rfl (by rfl) (fun K hK => ?_) AllReadyH.nil)
          · go_simp
            refine (own_x (X4.zx.to HB) k2).mono ?_
            rintro e V ⟨x8, y8, rfl, r2, bb⟩
            replace HB := HB.trans (bb.mono HB.size)
            replace t1 := t1.to bb
            replace t2 := t2.to bb
            replace r1 := r1.to bb
            refine hK.out _ _ HB ?_
            clear hK K bb
            refine wpAnyH_ready (rs := [6]) (by kernel_rfl) (by simp) (ready_cons rfl (by rfl) (fun K hK => ?_) AllReadyH.nil)
            · refine wp_store_two (by rfl) (by rfl) t1 Fs.nil r1.fs (fun V u kp => ?_)
              replace t2 := kp.two _ _ _ (Ne.symm ne12) t2
              replace r1 := r1.kp kp
              replace r2 := r2.kp kp
              replace HB := kp.bel _ _ HB b1
              clear t1
              have t1 := u
              refine hK.out _ _ HB ?_
              clear hK K kp u
              simp only [Act.put, List.setIfInBounds_toArray, List.set_cons_zero, List.set_cons_succ]
              refine wpAnyH_ready (rs := [7]) (by kernel_rfl) (by simp) (ready_cons rfl (by rfl) (fun K hK => ?_) AllReadyH.nil)
              · refine wp_store_two (by rfl) (by rfl) t2 Fs.nil r2.fs (fun V u kp => ?_)
                replace t1 := kp.two _ _ _ ne12 t1
                replace r1 := r1.kp kp
                replace r2 := r2.kp kp
                replace HB := kp.bel _ _ HB b2
                clear t2
                have t2 := u
                refine hK.out _ _ HB ?_
                clear hK K kp u
                simp only [Act.put, List.setIfInBounds_toArray, List.set_cons_zero, List.set_cons_succ]
                exact wpAnyH_done (by kernel_rfl) ⟨rfl, g1, g2, x7, y7, x8, y8, by simp only [Act.put, List.setIfInBounds_toArray, List.set_cons_zero, List.set_cons_succ], ⟨t1, r1⟩, ⟨t2, r2⟩, HB⟩ _
    · refine wp_alloc_two (fun g2 V t2 bb hg => ?_)
      have b2 := Nat.le_trans HB.size hg
      replace HB := HB.trans (bb.mono HB.size)
      refine hK.out _ _ HB ?_
      clear hK K bb hg
      simp only [Act.put, List.setIfInBounds_toArray, List.set_cons_zero, List.set_cons_succ]
      refine wpAnyH_ready (rs := [1, 4]) (by kernel_rfl) (by simp) (ready_cons rfl (by rfl) (fun K hK => ?_) (ready_cons rfl (by rfl) (fun K hK => ?_) AllReadyH.nil))
      · go_simp
        refine (own_x (X3.zx.to HB) k1).mono ?_
        rintro e V ⟨x7, y7, rfl, r1, bb⟩
        replace HB := HB.trans (bb.mono HB.size)
        replace t2 := t2.to bb
        refine hK.out _ _ HB ?_
        clear hK K bb
        refine wpAnyH_ready (rs := [3, 4]) (by kernel_rfl) (by simp) (ready_cons rfl (by rfl) (fun K hK => ?_) (ready_cons rfl (by rfl) (fun K hK => ?_) AllReadyH.nil))
        · go_simp
          refine (own_x (X4.zx.to HB) k2).mono ?_
          rintro e V ⟨x8, y8, rfl, r2, bb⟩
          replace HB := HB.trans (bb.mono HB.size)
          replace t2 := t2.to bb
          replace r1 := r1.to bb
          refine hK.out _ _ HB ?_
          clear hK K bb
          refine wpAnyH_ready (rs := [4]) (by kernel_rfl) (by simp) (ready_cons rfl (by rfl) (fun K hK => ?_) AllReadyH.nil)
          · refine wp_alloc_two (fun g1 V t1 bb hg => ?_)
            have b1 := Nat.le_trans HB.size hg
            replace HB := HB.trans (bb.mono HB.size)
            have ne12 : g1 ≠ g2 := Nat.ne_of_gt (Nat.lt_of_lt_of_le t2.lt hg)
            replace t2 := t2.to bb
            replace r1 := r1.to bb
            replace r2 := r2.to bb
            refine hK.out _ _ HB ?_
            clear hK K bb hg
            simp only [Act.put, List.setIfInBounds_toArray, List.set_cons_zero, List.set_cons_succ]
            refine wpAnyH_ready (rs := [6]) (by kernel_rfl) (by simp) (ready_cons rfl (by rfl) (fun K hK => ?_) AllReadyH.nil)
            · refine wp_store_two (by rfl) (by rfl) t1 Fs.nil r1.fs (fun V u kp => ?_)
              replace t2 := kp.two _ _ _ (Ne.symm ne12) t2
              replace r1 := r1.kp kp
              replace r2 := r2.kp kp
              replace HB := kp.bel _ _ HB b1
              clear t1
              have t1 := u
              refine hK.out _ _ HB ?_
              clear hK K kp u
              simp only [Act.put, List.setIfInBounds_toArray, List.set_cons_zero, List.set_cons_succ]
              refine wpAnyH_ready (rs := [7]) (by kernel_rfl) (by simp) (ready_cons rfl (by rfl) (fun K hK => ?_) AllReadyH.nil)
              · refine wp_store_two (by rfl) (by rfl) t2 Fs.nil r2.fs (fun V u kp => ?_)
                replace t1 := kp.two _ _ _ ne12 t1
                replace r1 := r1.kp kp
                replace r2 := r2.kp kp
                replace HB := kp.bel _ _ HB b2
                clear t2
                have t2 := u
                refine hK.out _ _ HB ?_
                clear hK K kp u
                simp only [Act.put, List.setIfInBounds_toArray, List.set_cons_zero, List.set_cons_succ]
                exact wpAnyH_done (by kernel_rfl) ⟨rfl, g1, g2, x7, y7, x8, y8, by simp only [Act.put, List.setIfInBounds_toArray, List.set_cons_zero, List.set_cons_succ], ⟨t1, r1⟩, ⟨t2, r2⟩, HB⟩ _
        · refine wp_alloc_two (fun g1 V t1 bb hg => ?_)
          have b1 := Nat.le_trans HB.size hg
          replace HB := HB.trans (bb.mono HB.size)
          have ne12 : g1 ≠ g2 := Nat.ne_of_gt (Nat.lt_of_lt_of_le t2.lt hg)
          replace t2 := t2.to bb
          replace r1 := r1.to bb
          refine hK.out _ _ HB ?_
          clear hK K bb hg
          simp only [Act.put, List.setIfInBounds_toArray, List.set_cons_zero, List.set_cons_succ]
          refine wpAnyH_ready (rs := [3]) (by kernel_rfl) (by simp) (ready_cons rfl (by rfl) (fun K hK => ?_) AllReadyH.nil)
          · go_simp
            refine (own_x (X4.zx.to HB) k2).mono ?_
            rintro e V ⟨x8, y8, rfl, r2, bb⟩
            replace HB := HB.trans (bb.mono HB.size)
            replace t1 := t1.to bb
            replace t2 := t2.to bb
            replace r1 := r1.to bb
            refine hK.out _ _ HB ?_
            clear hK K bb
            refine wpAnyH_ready (rs := [6]) (by kernel_rfl) (by simp) (ready_cons rfl (by rfl) (fun K hK => ?_) AllReadyH.nil)
            · refine wp_store_two (by rfl) (by rfl) t1 Fs.nil r1.fs (fun V u kp => ?_)
              replace t2 := kp.two _ _ _ (Ne.symm ne12) t2
              replace r1 := r1.kp kp
              replace r2 := r2.kp kp
              replace HB := kp.bel _ _ HB b1
              clear t1
              have t1 := u
              refine hK.out _ _ HB ?_
              clear hK K kp u
              simp only [Act.put, List.setIfInBounds_toArray, List.set_cons_zero, List.set_cons_succ]
              refine wpAnyH_ready (rs := [7]) (by kernel_rfl) (by simp) (ready_cons rfl (by rfl) (fun K hK => ?_) AllReadyH.nil)
              · refine wp_store_two (by rfl) (by rfl) t2 Fs.nil r2.fs (fun V u kp => ?_)
                replace t1 := kp.two _ _ _ ne12 t1
                replace r1 := r1.kp kp
                replace r2 := r2.kp kp
                replace HB := kp.bel _ _ HB b2
                clear t2
                have t2 := u
                refine hK.out _ _ HB ?_
                clear hK K kp u
                simp only [Act.put, List.setIfInBounds_toArray, List.set_cons_zero, List.set_cons_succ]
                exact wpAnyH_done (by kernel_rfl) ⟨rfl, g1, g2, x7, y7, x8, y8, by simp only [Act.put, List.setIfInBounds_toArray, List.set_cons_zero, List.set_cons_succ], ⟨t1, r1⟩, ⟨t2, r2⟩, HB⟩ _
      · refine wp_alloc_two (fun g1 V t1 bb hg => ?_)
        have b1 := Nat.le_trans HB.size hg
        replace HB := HB.trans (bb.mono HB.size)
        have ne12 : g1 ≠ g2 := Nat.ne_of_gt (Nat.lt_of_lt_of_le t2.lt hg)
        replace t2 := t2.to bb
        refine hK.out _ _ HB ?_
        clear hK K bb hg
        simp only [Act.put, List.setIfInBounds_toArray, List.set_cons_zero, List.set_cons_succ]
        refine wpAnyH_ready (rs := [1]) (by kernel_rfl) (by simp) (ready_cons rfl (by rfl) (fun K hK => ?_) AllReadyH.nil)
        · go_simp
          refine (own_x (X3.zx.to HB) k1).mono ?_
          rintro e V ⟨x7, y7, rfl, r1, bb⟩
          replace HB := HB.trans (bb.mono HB.size)
          replace t1 := t1.to bb
          replace t2 := t2.to bb
          refine hK.out _ _ HB ?_
          clear hK K bb
          refine wpAnyH_ready (rs := [3]) (by kernel_rfl) (by simp) (ready_cons rfl (by rfl) (fun K hK => ?_) AllReadyH.nil)
          · go_simp
            refine (own_x (X4.zx.to HB) k2).mono ?_
            rintro e V ⟨x8, y8, rfl, r2, bb⟩
            replace HB := HB.trans (bb.mono HB.size)
            replace t1 := t1.to bb
            replace t2 := t2.to bb
            replace r1 := r1.to bb
            refine hK.out _ _ HB ?_
            clear hK K bb
            refine wpAnyH_ready (rs := [6]) (by kernel_rfl) (by simp) (ready_cons rfl (by rfl) (fun K hK => ?_) AllReadyH.nil)
            · refine wp_store_two (by rfl) (by rfl) t1 Fs.nil r1.fs (fun V u kp => ?_)
              replace t2 := kp.two _ _ _ (Ne.symm ne12) t2
              replace r1 := r1.kp kp
              replace r2 := r2.kp kp
              replace HB := kp.bel _ _ HB b1
              clear t1
              have t1 := u
              refine hK.out _ _ HB ?_
              clear hK K kp u
              simp only [Act.put, List.setIfInBounds_toArray, List.set_cons_zero, List.set_cons_succ]
              refine wpAnyH_ready (rs := [7]) (by kernel_rfl) (by simp) (ready_cons rfl (by rfl) (fun K hK => ?_) AllReadyH.nil)
              · refine wp_store_two (by rfl) (by rfl) t2 Fs.nil r2.fs (fun V u kp => ?_)
                replace t1 := kp.two _ _ _ ne12 t1
                replace r1 := r1.kp kp
                replace r2 := r2.kp kp
                replace HB := kp.bel _ _ HB b2
                clear t2
                have t2 := u
                refine hK.out _ _ HB ?_
                clear hK K kp u
                simp only [Act.put, List.setIfInBounds_toArray, List.set_cons_zero, List.set_cons_succ]
                exact wpAnyH_done (by kernel_rfl) ⟨rfl, g1, g2, x7, y7, x8, y8, by simp only [Act.put, List.setIfInBounds_toArray, List.set_cons_zero, List.set_cons_succ], ⟨t1, r1⟩, ⟨t2, r2⟩, HB⟩ _
  rintro v' W2 ⟨g7, g8, x7, y7, x8, y8, rfl, X7, X8, HB⟩
  simp only [Act.put, List.setIfInBounds_toArray, List.set_cons_zero, List.set_cons_succ]
  replace X3 := X3.to HB
  replace X4 := X4.to HB
  replace HB0 := Lib.hid (HB0.out.trans (HB.mono HB0.out.size))
  clear HB
  clear HW0
  obtain ⟨q, eq⟩ : ∃ q : Int, Hid (zof n1 (val b32 xs1) / zof n2 (val b32 xs2) = q) := ⟨_, rfl⟩
  obtain ⟨r, er⟩ : ∃ r : Int, Hid (dr (zof n1 (val b32 xs1)) (zof n2 (val b32 xs2)) = r) := ⟨_, rfl⟩
  obtain ⟨k, ek⟩ : ∃ k : Int, Hid (de (zof n2 (val b32 xs2)) = k) := ⟨_, rfl⟩
  have hdm := dm_x (X7.zl (Below.refl _ _) k1) (X8.zl (Below.refl _ _) k2)
  rw [eq.out, er.out, ek.out] at hdm
  have HDM := Lib.hid hdm
  clear hdm
  have q1 := X7.two.c0
  have q2 := X7.two.c1
  have q3 := X8.two.c0
  have q4 := X8.two.c1
  go_wp2_with fail
  refine HDM.out.mono ?_
  rintro e W3 ⟨_, _, _, _, rfl, ⟨Aq, cq, rfl, rfl, a1, a2, a3⟩, ⟨Ar, cr, rfl, rfl, b1, b2, b3⟩, HB⟩
  have RQ : Hid (Zc W3 (.bool (decide (q < 0))) (.slice Aq (dig b32 q.natAbs).length cq) q) := ⟨Aq, cq, rfl, rfl, a1, a2, a3⟩
  have RR : Hid (Zc W3 (.bool (decide (r < 0))) (.slice Ar (dig b32 r.natAbs).length cr) r) := ⟨Ar, cr, rfl, rfl, b1, b2, b3⟩
  clear q1 q2 q3 q4 a1 a2 a3 b1 b2 b3 HDM
  replace X3 := X3.to HB
  replace X4 := X4.to HB
  replace X7 := X7.to HB
  replace X8 := X8.to HB
  replace HB0 := Lib.hid (HB0.out.trans (HB.mono HB0.out.size))
  clear HB
  obtain ⟨W4, hW4⟩ : ∃ W4, W4 = (W3.alloc (.cells #[.bool (decide (q < 0)), .slice Aq (dig b32 q.natAbs).length cq] 24)).alloc (.cells #[.bool (decide (r < 0)), .slice Ar (dig b32 r.natAbs).length cr] 24) := ⟨_, rfl⟩
  have HB : Below W3.heap.size W3 W4 := by rw [hW4]; exact ((Below.refl _ _).alloc (Nat.le_refl _) _).alloc (by simp) _
  have Y7 : Two W4 W3.heap.size (.bool (decide (q < 0))) (.slice Aq (dig b32 q.natAbs).length cq) := by rw [hW4]; exact (Two.new W3 _ _ _).alloc _
  have Y8 : Two W4 (W3.heap.size + 1) (.bool (decide (r < 0))) (.slice Ar (dig b32 r.natAbs).length cr) := by
    have h := Two.new (W3.alloc (.cells #[.bool (decide (q < 0)), .slice Aq (dig b32 q.natAbs).length cq] 24)) (.bool (decide (r < 0))) (.slice Ar (dig b32 r.natAbs).length cr) 24
    rw [World.size_alloc] at h
    rw [hW4]; exact h
  replace X3 := X3.to HB
  replace X4 := X4.to HB
  replace X7 := X7.to HB
  replace X8 := X8.to HB
  replace RQ := Lib.hid (Zc.to RQ.out HB)
  replace RR := Lib.hid (Zc.to RR.out HB)
  replace HB0 := Lib.hid (HB0.out.trans (HB.mono HB0.out.size))
  clear HB
  have hrd := rd_x (X3.zl (Below.refl _ _) k1) (X4.zl (Below.refl _ _) k2)
  rw [eq.out, er.out, ek.out] at hrd
  have HRD := Lib.hid hrd
  clear hrd
  have HW4 := Lib.hid hW4
  have q3 := X3.two.c0
  have q4 := X3.two.c1
  have q5 := X4.two.c0
  have q6 := X4.two.c1
  rw [hW4] at q3 q4 q5 q6
  clear hW4
  go_wp2_with fail
  rw [← HW4.out]
  refine HRD.out.mono ?_
  rintro e W5 ⟨_, _, _, _, rfl, ⟨Bq, dq, rfl, rfl, a1, a2, a3⟩, ⟨Br, ds, rfl, rfl, b1, b2, b3⟩, HB⟩
  have SQ : Hid (Zc W5 (.bool (decide (q < 0))) (.slice Bq (dig b32 q.natAbs).length dq) q) := ⟨Bq, dq, rfl, rfl, a1, a2, a3⟩
  have SR : Hid (Zc W5 (.bool (decide (r < 0))) (.slice Br (dig b32 r.natAbs).length ds) r) := ⟨Br, ds, rfl, rfl, b1, b2, b3⟩
  clear q3 q4 q5 q6 a1 a2 a3 b1 b2 b3 HRD HW4
  replace X3 := X3.to HB
  replace X4 := X4.to HB
  replace X7 := X7.to HB
  replace X8 := X8.to HB
  replace Y7 := Y7.to HB
  replace Y8 := Y8.to HB
  replace RQ := Lib.hid (Zc.to RQ.out HB)
  replace RR := Lib.hid (Zc.to RR.out HB)
  replace HB0 := Lib.hid (HB0.out.trans (HB.mono HB0.out.size))
  clear HB
  obtain ⟨W6, hW6⟩ : ∃ W6, W6 = (W5.alloc (.cells #[.bool (decide (q < 0)), .slice Bq (dig b32 q.natAbs).length dq] 24)).alloc (.cells #[.bool (decide (r < 0)), .slice Br (dig b32 r.natAbs).length ds] 24) := ⟨_, rfl⟩
  have HB : Below W5.heap.size W5 W6 := by rw [hW6]; exact ((Below.refl _ _).alloc (Nat.le_refl _) _).alloc (by simp) _
  have Z7 : Two W6 W5.heap.size (.bool (decide (q < 0))) (.slice Bq (dig b32 q.natAbs).length dq) := by rw [hW6]; exact (Two.new W5 _ _ _).alloc _
  have Z8 : Two W6 (W5.heap.size + 1) (.bool (decide (r < 0))) (.slice Br (dig b32 r.natAbs).length ds) := by
    have h := Two.new (W5.alloc (.cells #[.bool (decide (q < 0)), .slice Bq (dig b32 q.natAbs).length dq] 24)) (.bool (decide (r < 0))) (.slice Br (dig b32 r.natAbs).length ds) 24
    rw [World.size_alloc] at h
    rw [hW6]; exact h
  replace X3 := X3.to HB
  replace X4 := X4.to HB
  replace X7 := X7.to HB
  replace X8 := X8.to HB
  replace Y7 := Y7.to HB
  replace Y8 := Y8.to HB
  replace RQ := Lib.hid (Zc.to RQ.out HB)
  replace RR := Lib.hid (Zc.to RR.out HB)
  replace SQ := Lib.hid (Zc.to SQ.out HB)
  replace SR := Lib.hid (Zc.to SR.out HB)
  replace HB0 := Lib.hid (HB0.out.trans (HB.mono HB0.out.size))
  clear HB
  have HW6 := Lib.hid hW6
  clear hW6
  go_wp2_with fail
  rw [← HW6.out]
  refine wp_region_plan (S := fun w' => Below W6.heap.size W6 w') [(0, true), (1, true), (2, false), (3, true), (4, true), (5, true), (6, false), (7, true), (8, true), (9, true), (10, true), (11, true), (12, true), (13, true), (14, true), (15, true), (17, true), (18, true), (16, false), (19, false), (20, false), (21, true), (22, true), (23, true), (24, true), (25, false), (26, true), (27, true), (28, true), (29, true), (30, false), (31, true), (32, true), (33, false), (34, true), (35, true)] (by kernel_rfl) (by kernel_rfl) (Below.refl _ _).drew ?_
  have HB := (Below.refl W6.heap.size W6).drew
  refine plan_take rfl (by rfl) (fun w' hS => load_two (by rfl) (Y7.to hS)) ?_; simp only [Act.put, List.setIfInBounds_toArray, List.set_cons_zero, List.set_cons_succ]
  refine plan_take rfl (by rfl) (fun w' hS => load_two (by rfl) (Z7.to hS)) ?_; simp only [Act.put, List.setIfInBounds_toArray, List.set_cons_zero, List.set_cons_succ]
  refine plan_call rfl (by rfl) (fun K hK => ?_)
  go_simp
  refine (same_t (Zc.to RQ.out HB) (Zc.to SQ.out HB) rfl).mono ?_
  rintro e V ⟨rfl, bb⟩
  replace HB := HB.trans (bb.mono HB.size)
  refine hK.out _ _ HB ?_
  clear hK K bb
  refine plan_take (v := ?_) rfl (by rfl) ?_ ?_; rotate_left; (focus (intro w' _; go_simp; try with_reducible rfl)); simp only [Act.put, List.setIfInBounds_toArray, List.set_cons_zero, List.set_cons_succ]
  refine plan_take rfl (by rfl) (fun w' hS => load_two (by rfl) (Y8.to hS)) ?_; simp only [Act.put, List.setIfInBounds_toArray, List.set_cons_zero, List.set_cons_succ]
  refine plan_take rfl (by rfl) (fun w' hS => load_two (by rfl) (Z8.to hS)) ?_; simp only [Act.put, List.setIfInBounds_toArray, List.set_cons_zero, List.set_cons_succ]
  refine plan_call rfl (by rfl) (fun K hK => ?_)
  go_simp
  refine (same_t (Zc.to RR.out HB) (Zc.to SR.out HB) rfl).mono ?_
  rintro e V ⟨rfl, bb⟩
  replace HB := HB.trans (bb.mono HB.size)
  refine hK.out _ _ HB ?_
  clear hK K bb
  refine plan_take (v := ?_) rfl (by rfl) ?_ ?_; rotate_left; (focus (intro w' _; go_simp; try with_reducible rfl)); simp only [Act.put, List.setIfInBounds_toArray, List.set_cons_zero, List.set_cons_succ]
  refine plan_take (v := ?_) rfl (by rfl) ?_ ?_; rotate_left; (focus (intro w' _; go_simp; try with_reducible rfl)); simp only [Act.put, List.setIfInBounds_toArray, List.set_cons_zero, List.set_cons_succ]
  refine plan_take (v := ?_) rfl (by rfl) ?_ ?_; rotate_left; (focus (intro w' _; go_simp; try with_reducible rfl)); simp only [Act.put, List.setIfInBounds_toArray, List.set_cons_zero, List.set_cons_succ]
  refine plan_take (v := ?_) rfl (by rfl) ?_ ?_; rotate_left; (focus (intro w' _; go_simp; try with_reducible rfl)); simp only [Act.put, List.setIfInBounds_toArray, List.set_cons_zero, List.set_cons_succ]
  refine plan_take (v := ?_) rfl (by rfl) ?_ ?_; rotate_left; (focus (intro w' _; go_simp; try with_reducible rfl)); simp only [Act.put, List.setIfInBounds_toArray, List.set_cons_zero, List.set_cons_succ]
  refine plan_take (v := ?_) rfl (by rfl) ?_ ?_; rotate_left; (focus (intro w' _; go_simp; try with_reducible rfl)); simp only [Act.put, List.setIfInBounds_toArray, List.set_cons_zero, List.set_cons_succ]
  refine plan_take (v := ?_) rfl (by rfl) ?_ ?_; rotate_left; (focus (intro w' _; go_simp; try with_reducible rfl)); simp only [Act.put, List.setIfInBounds_toArray, List.set_cons_zero, List.set_cons_succ]
  refine plan_take rfl (by rfl) (fun w' hS => load_two (by rfl) (X7.two.to hS)) ?_; simp only [Act.put, List.setIfInBounds_toArray, List.set_cons_zero, List.set_cons_succ]
  refine plan_take rfl (by rfl) (fun w' hS => load_two (by rfl) (X8.two.to hS)) ?_; simp only [Act.put, List.setIfInBounds_toArray, List.set_cons_zero, List.set_cons_succ]
  refine plan_take rfl (by rfl) (fun w' hS => load_two (by rfl) (X3.two.to hS)) ?_; simp only [Act.put, List.setIfInBounds_toArray, List.set_cons_zero, List.set_cons_succ]
  refine plan_take rfl (by rfl) (fun w' hS => load_two (by rfl) (X4.two.to hS)) ?_; simp only [Act.put, List.setIfInBounds_toArray, List.set_cons_zero, List.set_cons_succ]
  refine plan_call rfl (by rfl) (fun K hK => ?_)
  go_simp
  refine (gcd_x (X7.zl HB k1) (X8.zl HB k2)).mono ?_
  rintro e V ⟨ura, vra, rfl, ra, bb⟩
  replace HB := HB.trans (bb.mono HB.size)
  refine hK.out _ _ HB ?_
  clear hK K bb
  refine plan_call rfl (by rfl) (fun K hK => ?_)
  go_simp
  refine (rgcd_z (X3.zl HB k1) (X4.zl HB k2)).mono ?_
  rintro e V ⟨urb, vrb, rfl, rb, bb⟩
  replace HB := HB.trans (bb.mono HB.size)
  replace ra := ra.to bb
  refine hK.out _ _ HB ?_
  clear hK K bb
  refine plan_call rfl (by rfl) (fun K hK => ?_)
  go_simp
  refine (same_t ra rb rfl).mono ?_
  rintro e V ⟨rfl, bb⟩
  replace HB := HB.trans (bb.mono HB.size)
  clear ra rb
  refine hK.out _ _ HB ?_
  clear hK K bb
  refine plan_take (v := ?_) rfl (by rfl) ?_ ?_; rotate_left; (focus (intro w' _; go_simp; try with_reducible rfl)); simp only [Act.put, List.setIfInBounds_toArray, List.set_cons_zero, List.set_cons_succ]
  refine plan_take (v := ?_) rfl (by rfl) ?_ ?_; rotate_left; (focus (intro w' _; go_simp; try with_reducible rfl)); simp only [Act.put, List.setIfInBounds_toArray, List.set_cons_zero, List.set_cons_succ]
  refine plan_take rfl (by rfl) (fun w' hS => load_two (by rfl) (X7.two.to hS)) ?_; simp only [Act.put, List.setIfInBounds_toArray, List.set_cons_zero, List.set_cons_succ]
  refine plan_take rfl (by rfl) (fun w' hS => load_two (by rfl) (X3.two.to hS)) ?_; simp only [Act.put, List.setIfInBounds_toArray, List.set_cons_zero, List.set_cons_succ]
  refine plan_call rfl (by rfl) (fun K hK => ?_)
  go_simp
  refine (same_x (X7.zx.to HB) (X3.zx.to HB)).mono ?_
  rintro e V ⟨rfl, bb⟩
  replace HB := HB.trans (bb.mono HB.size)
  refine hK.out _ _ HB ?_
  clear hK K bb
  refine plan_take (v := ?_) rfl (by rfl) ?_ ?_; rotate_left; (focus (intro w' _; go_simp; try with_reducible rfl)); simp only [Act.put, List.setIfInBounds_toArray, List.set_cons_zero, List.set_cons_succ]
  refine plan_take (v := ?_) rfl (by rfl) ?_ ?_; rotate_left; (focus (intro w' _; go_simp; try with_reducible rfl)); simp only [Act.put, List.setIfInBounds_toArray, List.set_cons_zero, List.set_cons_succ]
  refine plan_take rfl (by rfl) (fun w' hS => load_two (by rfl) (X8.two.to hS)) ?_; simp only [Act.put, List.setIfInBounds_toArray, List.set_cons_zero, List.set_cons_succ]
  refine plan_take rfl (by rfl) (fun w' hS => load_two (by rfl) (X4.two.to hS)) ?_; simp only [Act.put, List.setIfInBounds_toArray, List.set_cons_zero, List.set_cons_succ]
  refine plan_call rfl (by rfl) (fun K hK => ?_)
  go_simp
  refine (same_x (X8.zx.to HB) (X4.zx.to HB)).mono ?_
  rintro e V ⟨rfl, bb⟩
  replace HB := HB.trans (bb.mono HB.size)
  refine hK.out _ _ HB ?_
  clear hK K bb
  refine plan_take (v := ?_) rfl (by rfl) ?_ ?_; rotate_left; (focus (intro w' _; go_simp; try with_reducible rfl)); simp only [Act.put, List.setIfInBounds_toArray, List.set_cons_zero, List.set_cons_succ]
  refine plan_take (v := ?_) rfl (by rfl) ?_ ?_; rotate_left; (focus (intro w' _; go_simp; try with_reducible rfl)); simp only [Act.put, List.setIfInBounds_toArray, List.set_cons_zero, List.set_cons_succ]
  refine plan_call rfl (by rfl) (fun K hK => ?_)
  go_simp
  refine (alive_any _).mono ?_
  rintro e V ⟨rfl, bb⟩
  replace HB := HB.trans (bb.mono HB.size)
  refine hK.out _ _ HB ?_
  clear hK K bb
  refine plan_take (v := ?_) rfl (by rfl) ?_ ?_; rotate_left; (focus (intro w' _; go_simp; try with_reducible rfl)); simp only [Act.put, List.setIfInBounds_toArray, List.set_cons_zero, List.set_cons_succ]
  refine plan_take (v := ?_) rfl (by rfl) ?_ ?_; rotate_left; (focus (intro w' _; go_simp; try with_reducible rfl)); simp only [Act.put, List.setIfInBounds_toArray, List.set_cons_zero, List.set_cons_succ]
  refine plan_done ?_
  replace HB0 := Lib.hid (HB0.out.trans (HB.mono HB0.out.size))
  clear HB
  go_wp2
  go_ret
  exact ⟨by rfl, HB0.out⟩
end Go.Proofs.Ytoaghihhobggoaa
