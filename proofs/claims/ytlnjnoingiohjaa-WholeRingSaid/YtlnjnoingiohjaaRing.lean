/- The law WholeRing: the walk. -/
import Derived.Test.YtlnjnoingiohjaaStep
import Derived.Test.YtlnjnoingiohjaaLong
import Derived.Test.YtlnjnoingiohjaaAliveWalk
import Derived.Laws.EntriesVeiled
namespace Go.Proofs.Ytlnjnoingiohjaa
open Go.RowKit Go.Shelf

theorem cmpZ_sub (a b : Int) : sgn (a - b) = cmpZ a b := by
  unfold sgn cmpZ
  repeat' split
  all_goals omega
theorem cmpZ_anti (a b : Int) : IntKind.i64.wrap (-(cmpZ b a)) = cmpZ a b := by
  rcases Int.lt_trichotomy a b with h | h | h
  · rw [show cmpZ b a = 1 from by simp [cmpZ, h]; omega, show cmpZ a b = -1 from by simp [cmpZ, h]]; decide
  · subst h; rw [cmpZ_self]; decide
  · rw [show cmpZ b a = -1 from by simp [cmpZ, h], show cmpZ a b = 1 from by simp [cmpZ, h]; omega]; decide
theorem cmpZ_add (a b c : Int) : cmpZ (a + c) (b + c) = cmpZ a b := by
  unfold cmpZ
  repeat' split
  all_goals omega
theorem sgn_ge (a : Int) : decide (0 ≤ sgn a) = decide (0 ≤ a) := by
  rw [decide_eq_decide]
  unfold sgn
  repeat' split
  all_goals omega
theorem sign_v {w : World} {x y : Value} {a v : Int} (h : Zi w x y a) (hv : sgn a = v) : Calls Try.prog 29 #[.agg #[x, y]] w fun e w' => e = .returned (.int .i64 v) ∧ Below w.heap.size w w' := by
  subst hv; exact sign_z h
theorem cmp_v {w : World} {x y x' y' : Value} {a b v : Int} (h : Zi w x y a) (h' : Zi w x' y' b) (hv : cmpZ a b = v) : Calls Try.prog 31 #[.agg #[x, y], .agg #[x', y']] w fun e w' => e = .returned (.int .i64 v) ∧ Below w.heap.size w w' := by
  subst hv; exact cmp_z h h'
theorem same_v {w : World} {x y x' y' : Value} {a b : Int} {v : Bool} (h : Zc w x y a) (h' : Zc w x' y' b) (hv : decide (a = b) = v) : Calls Try.prog 14 #[.agg #[x, y], .agg #[x', y']] w fun e w' => e = .returned (.bool v) ∧ Below w.heap.size w w' := by
  subst hv; exact same_c h h'
theorem abs_eq (a b : Int) : decide (a - b + b = (a.natAbs : Int)) = decide (0 ≤ a) := by
  rw [decide_eq_decide]; omega

set_option maxRecDepth 100000 in
set_option maxHeartbeats 20000000 in
theorem ring_core {x1 y1 x2 y2 x3 y3 : Value} {a b c : Int} {w : World} (h1 : Zi w x1 y1 a) (h2 : Zi w x2 y2 b) (h3 : Zi w x3 y3 c) (m1 : Sm 12 a) (m2 : Sm 12 b) (m3 : Sm 12 c)
    (hL : ∀ (V : World) (g : Nat), V.cell? ⟨g, 1, none⟩ = some y1 → V.cell? ⟨g, 3, none⟩ = some y2 → V.cell? ⟨g, 5, none⟩ = some y3 → Calls Try.prog 9 #[.slice (some ⟨g, 0, none⟩) 3 3] V fun e w' => e = .returned (.bool false) ∧ w' = V) :
    Calls Try.prog 6 #[.agg #[x1, y1], .agg #[x2, y2], .agg #[x3, y3]] w fun e w' => e = .returned (.bool true) ∧ Below w.heap.size w w' := by
  have s8 : Sm 13 (a + b) := m1.add m2
  have s9 : Sm 13 (b + c) := m2.add m3
  have s10 : Sm 24 (a * b) := m1.mul m2
  have s11 : Sm 24 (b * c) := m2.mul m3
  have s12 : Sm 13 (a - b) := m1.sub m2
  obtain ⟨W0, hW0⟩ : ∃ W0, W0 = (((w.alloc (.cells #[x1, y1] 24)).alloc (.cells #[x2, y2] 24)).alloc (.cells #[x3, y3] 24)).alloc (.cells #[x1, y1, x2, y2, x3, y3] 24) := ⟨_, rfl⟩
  have hb : Below w.heap.size w W0 := by rw [hW0]; exact ((((Below.refl _ _).alloc (Nat.le_refl _) _).alloc (by simp) _).alloc (by simp; omega) _).alloc (by simp; omega) _
  have HA : Zb W0 w.heap.size x1 y1 a := ⟨by rw [hW0]; exact (((Two.new w _ _ _).alloc _).alloc _).alloc _, h1.to hb⟩
  have HBb : Zb W0 (w.heap.size + 1) x2 y2 b := ⟨by
    have h := Two.new (w.alloc (.cells #[x1, y1] 24)) x2 y2 24
    rw [World.size_alloc] at h
    rw [hW0]; exact (h.alloc _).alloc _, h2.to hb⟩
  have HC : Zb W0 (w.heap.size + 1 + 1) x3 y3 c := ⟨by
    have h := Two.new ((w.alloc (.cells #[x1, y1] 24)).alloc (.cells #[x2, y2] 24)) x3 y3 24
    rw [World.size_alloc, World.size_alloc] at h
    rw [hW0]; exact h.alloc _, h3.to hb⟩
  have HL : Hid (Calls Try.prog 9 #[.slice (some ⟨w.heap.size + 1 + 1 + 1, 0, none⟩) 3 3] W0 fun e w' => e = .returned (.bool false) ∧ w' = W0) := by
    have h := World.alloc_heap_new (((w.alloc (.cells #[x1, y1] 24)).alloc (.cells #[x2, y2] 24)).alloc (.cells #[x3, y3] 24)) (.cells #[x1, y1, x2, y2, x3, y3] 24)
    rw [World.size_alloc, World.size_alloc, World.size_alloc, ← hW0] at h
    exact hL W0 (w.heap.size + 1 + 1 + 1) (by simp [World.cell?, h]) (by simp [World.cell?, h]) (by simp [World.cell?, h])
  have HW0 := Lib.hid hW0
  have HB0 := Lib.hid hb
  clear hL h1 h2 h3 hW0 hb
  go_enter Try.func6, Try.ntmps6
  go_wp2_with fail
  rw [← HW0.out]
  refine HL.out.mono ?_
  rintro e W1 ⟨rfl, rfl⟩
  clear HL
  go_wp2_with fail
  have bsz := HB0.out.size
  refine wp_cut (fun a' v' w' => ∃ g1 g2 x8 y8 x9 y9, v' = (((((((a'.put (some 19) (.agg #[x1, y1])).put (some 20) (.agg #[x2, y2])).put (some 21) (.agg #[x8, y8])).put (some 22) (.agg #[x2, y2])).put (some 23) (.agg #[x3, y3])).put (some 24) (.agg #[x9, y9])).put (some 8) (.pointer (some ⟨g1, 0, none⟩))).put (some 9) (.pointer (some ⟨g2, 0, none⟩)) ∧ Cb w' g1 x8 y8 (a + b) ∧ Cb w' g2 x9 y9 (b + c) ∧ Below W1.heap.size W1 w') ?_ ?_
  · refine wp_region_planTo (S := fun w' => Below W1.heap.size W1 w') [(0, true), (1, true), (3, true), (4, true)] #[true, true, false, true, true, false, false, false, false, false] 6 (by kernel_rfl) (by kernel_rfl) (Below.refl _ _).drew ?_
    refine plan_take rfl (by rfl) (fun w' hS => load_two (by rfl) (HA.two.to hS)) ?_; simp only [Act.put, List.setIfInBounds_toArray, List.set_cons_zero, List.set_cons_succ]
    refine plan_take rfl (by rfl) (fun w' hS => load_two (by rfl) (HBb.two.to hS)) ?_; simp only [Act.put, List.setIfInBounds_toArray, List.set_cons_zero, List.set_cons_succ]
    refine plan_take rfl (by rfl) (fun w' hS => load_two (by rfl) (HBb.two.to hS)) ?_; simp only [Act.put, List.setIfInBounds_toArray, List.set_cons_zero, List.set_cons_succ]
    refine plan_take rfl (by rfl) (fun w' hS => load_two (by rfl) (HC.two.to hS)) ?_; simp only [Act.put, List.setIfInBounds_toArray, List.set_cons_zero, List.set_cons_succ]
    intro HB
    refine wpAnyH_ready (rs := [2, 6, 7]) (by kernel_rfl) (by simp) (ready_cons rfl (by rfl) (fun K hK => ?_) (ready_cons rfl (by rfl) (fun K hK => ?_) (ready_cons rfl (by rfl) (fun K hK => ?_) AllReadyH.nil)))
    · go_simp
      refine (add_z (HA.to HB).zi (HBb.to HB).zi).mono ?_
      rintro e V ⟨x8, y8, rfl, r1, bb⟩
      replace HB := HB.trans (bb.mono HB.size)
      refine hK.out _ _ HB ?_
      clear hK K bb
      refine wpAnyH_ready (rs := [5, 6, 7]) (by kernel_rfl) (by simp) (ready_cons rfl (by rfl) (fun K hK => ?_) (ready_cons rfl (by rfl) (fun K hK => ?_) (ready_cons rfl (by rfl) (fun K hK => ?_) AllReadyH.nil)))
      · go_simp
        refine (add_z (HBb.to HB).zi (HC.to HB).zi).mono ?_
        rintro e V ⟨x9, y9, rfl, r2, bb⟩
        replace HB := HB.trans (bb.mono HB.size)
        replace r1 := r1.to bb
        refine hK.out _ _ HB ?_
        clear hK K bb
        refine wpAnyH_ready (rs := [6, 7]) (by kernel_rfl) (by simp) (ready_cons rfl (by rfl) (fun K hK => ?_) (ready_cons rfl (by rfl) (fun K hK => ?_) AllReadyH.nil))
        · refine wp_alloc_two (fun g1 V t1 bb hg => ?_)
          have b1 := Nat.le_trans HB.size hg
          replace HB := HB.trans (bb.mono HB.size)
          replace r1 := r1.to bb
          replace r2 := r2.to bb
          refine hK.out _ _ HB ?_
          clear hK K bb hg
          simp only [Act.put, List.setIfInBounds_toArray, List.set_cons_zero, List.set_cons_succ]
          refine wpAnyH_ready (rs := [7]) (by kernel_rfl) (by simp) (ready_cons rfl (by rfl) (fun K hK => ?_) AllReadyH.nil)
          · refine wp_alloc_two (fun g2 V t2 bb hg => ?_)
            have b2 := Nat.le_trans HB.size hg
            replace HB := HB.trans (bb.mono HB.size)
            have ne : g1 ≠ g2 := Nat.ne_of_lt (Nat.lt_of_lt_of_le t1.lt hg)
            replace t1 := t1.to bb
            replace r1 := r1.to bb
            replace r2 := r2.to bb
            refine hK.out _ _ HB ?_
            clear hK K bb hg
            simp only [Act.put, List.setIfInBounds_toArray, List.set_cons_zero, List.set_cons_succ]
            refine wpAnyH_ready (rs := [8]) (by kernel_rfl) (by simp) (ready_cons rfl (by rfl) (fun K hK => ?_) AllReadyH.nil)
            · refine wp_store_two (by rfl) (by rfl) t1 Fs.nil r1.fs (fun V u kp => ?_)
              replace t2 := kp.two _ _ _ (Ne.symm ne) t2
              replace r1 := kp.zc _ _ _ r1
              replace r2 := kp.zc _ _ _ r2
              replace HB := kp.bel _ _ HB b1
              clear t1
              have t1 := u
              refine hK.out _ _ HB ?_
              clear hK K kp u
              simp only [Act.put, List.setIfInBounds_toArray, List.set_cons_zero, List.set_cons_succ]
              refine wpAnyH_ready (rs := [9]) (by kernel_rfl) (by simp) (ready_cons rfl (by rfl) (fun K hK => ?_) AllReadyH.nil)
              · refine wp_store_two (by rfl) (by rfl) t2 Fs.nil r2.fs (fun V u kp => ?_)
                replace t1 := kp.two _ _ _ ne t1
                replace r1 := kp.zc _ _ _ r1
                replace r2 := kp.zc _ _ _ r2
                replace HB := kp.bel _ _ HB b2
                clear t2
                have t2 := u
                refine hK.out _ _ HB ?_
                clear hK K kp u
                simp only [Act.put, List.setIfInBounds_toArray, List.set_cons_zero, List.set_cons_succ]
                exact wpAnyH_done (by kernel_rfl) ⟨rfl, g1, g2, x8, y8, x9, y9, by simp only [Act.put, List.setIfInBounds_toArray, List.set_cons_zero, List.set_cons_succ], ⟨t1, r1⟩, ⟨t2, r2⟩, HB⟩ _
        · refine wp_alloc_two (fun g2 V t2 bb hg => ?_)
          have b2 := Nat.le_trans HB.size hg
          replace HB := HB.trans (bb.mono HB.size)
          replace r1 := r1.to bb
          replace r2 := r2.to bb
          refine hK.out _ _ HB ?_
          clear hK K bb hg
          simp only [Act.put, List.setIfInBounds_toArray, List.set_cons_zero, List.set_cons_succ]
          refine wpAnyH_ready (rs := [6]) (by kernel_rfl) (by simp) (ready_cons rfl (by rfl) (fun K hK => ?_) AllReadyH.nil)
          · refine wp_alloc_two (fun g1 V t1 bb hg => ?_)
            have b1 := Nat.le_trans HB.size hg
            replace HB := HB.trans (bb.mono HB.size)
            have ne : g1 ≠ g2 := Nat.ne_of_gt (Nat.lt_of_lt_of_le t2.lt hg)
            replace t2 := t2.to bb
            replace r1 := r1.to bb
            replace r2 := r2.to bb
            refine hK.out _ _ HB ?_
            clear hK K bb hg
            simp only [Act.put, List.setIfInBounds_toArray, List.set_cons_zero, List.set_cons_succ]
            refine wpAnyH_ready (rs := [8]) (by kernel_rfl) (by simp) (ready_cons rfl (by rfl) (fun K hK => ?_) AllReadyH.nil)
            · refine wp_store_two (by rfl) (by rfl) t1 Fs.nil r1.fs (fun V u kp => ?_)
              replace t2 := kp.two _ _ _ (Ne.symm ne) t2
              replace r1 := kp.zc _ _ _ r1
              replace r2 := kp.zc _ _ _ r2
              replace HB := kp.bel _ _ HB b1
              clear t1
              have t1 := u
              refine hK.out _ _ HB ?_
              clear hK K kp u
              simp only [Act.put, List.setIfInBounds_toArray, List.set_cons_zero, List.set_cons_succ]
              refine wpAnyH_ready (rs := [9]) (by kernel_rfl) (by simp) (ready_cons rfl (by rfl) (fun K hK => ?_) AllReadyH.nil)
              · refine wp_store_two (by rfl) (by rfl) t2 Fs.nil r2.fs (fun V u kp => ?_)
                replace t1 := kp.two _ _ _ ne t1
                replace r1 := kp.zc _ _ _ r1
                replace r2 := kp.zc _ _ _ r2
                replace HB := kp.bel _ _ HB b2
                clear t2
                have t2 := u
                refine hK.out _ _ HB ?_
                clear hK K kp u
                simp only [Act.put, List.setIfInBounds_toArray, List.set_cons_zero, List.set_cons_succ]
                exact wpAnyH_done (by kernel_rfl) ⟨rfl, g1, g2, x8, y8, x9, y9, by simp only [Act.put, List.setIfInBounds_toArray, List.set_cons_zero, List.set_cons_succ], ⟨t1, r1⟩, ⟨t2, r2⟩, HB⟩ _
      · refine wp_alloc_two (fun g1 V t1 bb hg => ?_)
        have b1 := Nat.le_trans HB.size hg
        replace HB := HB.trans (bb.mono HB.size)
        replace r1 := r1.to bb
        refine hK.out _ _ HB ?_
        clear hK K bb hg
        simp only [Act.put, List.setIfInBounds_toArray, List.set_cons_zero, List.set_cons_succ]
        refine wpAnyH_ready (rs := [5, 7]) (by kernel_rfl) (by simp) (ready_cons rfl (by rfl) (fun K hK => ?_) (ready_cons rfl (by rfl) (fun K hK => ?_) AllReadyH.nil))
        · go_simp
          refine (add_z (HBb.to HB).zi (HC.to HB).zi).mono ?_
          rintro e V ⟨x9, y9, rfl, r2, bb⟩
          replace HB := HB.trans (bb.mono HB.size)
          replace t1 := t1.to bb
          replace r1 := r1.to bb
          refine hK.out _ _ HB ?_
          clear hK K bb
          refine wpAnyH_ready (rs := [7]) (by kernel_rfl) (by simp) (ready_cons rfl (by rfl) (fun K hK => ?_) AllReadyH.nil)
          · refine wp_alloc_two (fun g2 V t2 bb hg => ?_)
            have b2 := Nat.le_trans HB.size hg
            replace HB := HB.trans (bb.mono HB.size)
            have ne : g1 ≠ g2 := Nat.ne_of_lt (Nat.lt_of_lt_of_le t1.lt hg)
            replace t1 := t1.to bb
            replace r1 := r1.to bb
            replace r2 := r2.to bb
            refine hK.out _ _ HB ?_
            clear hK K bb hg
            simp only [Act.put, List.setIfInBounds_toArray, List.set_cons_zero, List.set_cons_succ]
            refine wpAnyH_ready (rs := [8]) (by kernel_rfl) (by simp) (ready_cons rfl (by rfl) (fun K hK => ?_) AllReadyH.nil)
            · refine wp_store_two (by rfl) (by rfl) t1 Fs.nil r1.fs (fun V u kp => ?_)
              replace t2 := kp.two _ _ _ (Ne.symm ne) t2
              replace r1 := kp.zc _ _ _ r1
              replace r2 := kp.zc _ _ _ r2
              replace HB := kp.bel _ _ HB b1
              clear t1
              have t1 := u
              refine hK.out _ _ HB ?_
              clear hK K kp u
              simp only [Act.put, List.setIfInBounds_toArray, List.set_cons_zero, List.set_cons_succ]
              refine wpAnyH_ready (rs := [9]) (by kernel_rfl) (by simp) (ready_cons rfl (by rfl) (fun K hK => ?_) AllReadyH.nil)
              · refine wp_store_two (by rfl) (by rfl) t2 Fs.nil r2.fs (fun V u kp => ?_)
                replace t1 := kp.two _ _ _ ne t1
                replace r1 := kp.zc _ _ _ r1
                replace r2 := kp.zc _ _ _ r2
                replace HB := kp.bel _ _ HB b2
                clear t2
                have t2 := u
                refine hK.out _ _ HB ?_
                clear hK K kp u
                simp only [Act.put, List.setIfInBounds_toArray, List.set_cons_zero, List.set_cons_succ]
                exact wpAnyH_done (by kernel_rfl) ⟨rfl, g1, g2, x8, y8, x9, y9, by simp only [Act.put, List.setIfInBounds_toArray, List.set_cons_zero, List.set_cons_succ], ⟨t1, r1⟩, ⟨t2, r2⟩, HB⟩ _
        · refine wp_alloc_two (fun g2 V t2 bb hg => ?_)
          have b2 := Nat.le_trans HB.size hg
          replace HB := HB.trans (bb.mono HB.size)
          have ne : g1 ≠ g2 := Nat.ne_of_lt (Nat.lt_of_lt_of_le t1.lt hg)
          replace t1 := t1.to bb
          replace r1 := r1.to bb
          refine hK.out _ _ HB ?_
          clear hK K bb hg
          simp only [Act.put, List.setIfInBounds_toArray, List.set_cons_zero, List.set_cons_succ]
          refine wpAnyH_ready (rs := [5]) (by kernel_rfl) (by simp) (ready_cons rfl (by rfl) (fun K hK => ?_) AllReadyH.nil)
          · go_simp
            refine (add_z (HBb.to HB).zi (HC.to HB).zi).mono ?_
            rintro e V ⟨x9, y9, rfl, r2, bb⟩
            replace HB := HB.trans (bb.mono HB.size)
            replace t1 := t1.to bb
            replace t2 := t2.to bb
            replace r1 := r1.to bb
            refine hK.out _ _ HB ?_
            clear hK K bb
            refine wpAnyH_ready (rs := [8]) (by kernel_rfl) (by simp) (ready_cons rfl (by rfl) (fun K hK => ?_) AllReadyH.nil)
            · refine wp_store_two (by rfl) (by rfl) t1 Fs.nil r1.fs (fun V u kp => ?_)
              replace t2 := kp.two _ _ _ (Ne.symm ne) t2
              replace r1 := kp.zc _ _ _ r1
              replace r2 := kp.zc _ _ _ r2
              replace HB := kp.bel _ _ HB b1
              clear t1
              have t1 := u
              refine hK.out _ _ HB ?_
              clear hK K kp u
              simp only [Act.put, List.setIfInBounds_toArray, List.set_cons_zero, List.set_cons_succ]
              refine wpAnyH_ready (rs := [9]) (by kernel_rfl) (by simp) (ready_cons rfl (by rfl) (fun K hK => ?_) AllReadyH.nil)
              · refine wp_store_two (by rfl) (by rfl) t2 Fs.nil r2.fs (fun V u kp => ?_)
                replace t1 := kp.two _ _ _ ne t1
                replace r1 := kp.zc _ _ _ r1
                replace r2 := kp.zc _ _ _ r2
                replace HB := kp.bel _ _ HB b2
                clear t2
                have t2 := u
                refine hK.out _ _ HB ?_
                clear hK K kp u
                simp only [Act.put, List.setIfInBounds_toArray, List.set_cons_zero, List.set_cons_succ]
                exact wpAnyH_done (by kernel_rfl) ⟨rfl, g1, g2, x8, y8, x9, y9, by simp only [Act.put, List.setIfInBounds_toArray, List.set_cons_zero, List.set_cons_succ], ⟨t1, r1⟩, ⟨t2, r2⟩, HB⟩ _
      · refine wp_alloc_two (fun g2 V t2 bb hg => ?_)
        have b2 := Nat.le_trans HB.size hg
        replace HB := HB.trans (bb.mono HB.size)
        replace r1 := r1.to bb
        refine hK.out _ _ HB ?_
        clear hK K bb hg
        simp only [Act.put, List.setIfInBounds_toArray, List.set_cons_zero, List.set_cons_succ]
        refine wpAnyH_ready (rs := [5, 6]) (by kernel_rfl) (by simp) (ready_cons rfl (by rfl) (fun K hK => ?_) (ready_cons rfl (by rfl) (fun K hK => ?_) AllReadyH.nil))
        · go_simp
          refine (add_z (HBb.to HB).zi (HC.to HB).zi).mono ?_
          rintro e V ⟨x9, y9, rfl, r2, bb⟩
          replace HB := HB.trans (bb.mono HB.size)
          replace t2 := t2.to bb
          replace r1 := r1.to bb
          refine hK.out _ _ HB ?_
          clear hK K bb
          refine wpAnyH_ready (rs := [6]) (by kernel_rfl) (by simp) (ready_cons rfl (by rfl) (fun K hK => ?_) AllReadyH.nil)
          · refine wp_alloc_two (fun g1 V t1 bb hg => ?_)
            have b1 := Nat.le_trans HB.size hg
            replace HB := HB.trans (bb.mono HB.size)
            have ne : g1 ≠ g2 := Nat.ne_of_gt (Nat.lt_of_lt_of_le t2.lt hg)
            replace t2 := t2.to bb
            replace r1 := r1.to bb
            replace r2 := r2.to bb
            refine hK.out _ _ HB ?_
            clear hK K bb hg
            simp only [Act.put, List.setIfInBounds_toArray, List.set_cons_zero, List.set_cons_succ]
            refine wpAnyH_ready (rs := [8]) (by kernel_rfl) (by simp) (ready_cons rfl (by rfl) (fun K hK => ?_) AllReadyH.nil)
            · refine wp_store_two (by rfl) (by rfl) t1 Fs.nil r1.fs (fun V u kp => ?_)
              replace t2 := kp.two _ _ _ (Ne.symm ne) t2
              replace r1 := kp.zc _ _ _ r1
              replace r2 := kp.zc _ _ _ r2
              replace HB := kp.bel _ _ HB b1
              clear t1
              have t1 := u
              refine hK.out _ _ HB ?_
              clear hK K kp u
              simp only [Act.put, List.setIfInBounds_toArray, List.set_cons_zero, List.set_cons_succ]
              refine wpAnyH_ready (rs := [9]) (by kernel_rfl) (by simp) (ready_cons rfl (by rfl) (fun K hK => ?_) AllReadyH.nil)
              · refine wp_store_two (by rfl) (by rfl) t2 Fs.nil r2.fs (fun V u kp => ?_)
                replace t1 := kp.two _ _ _ ne t1
                replace r1 := kp.zc _ _ _ r1
                replace r2 := kp.zc _ _ _ r2
                replace HB := kp.bel _ _ HB b2
                clear t2
                have t2 := u
                refine hK.out _ _ HB ?_
                clear hK K kp u
                simp only [Act.put, List.setIfInBounds_toArray, List.set_cons_zero, List.set_cons_succ]
                exact wpAnyH_done (by kernel_rfl) ⟨rfl, g1, g2, x8, y8, x9, y9, by simp only [Act.put, List.setIfInBounds_toArray, List.set_cons_zero, List.set_cons_succ], ⟨t1, r1⟩, ⟨t2, r2⟩, HB⟩ _
        · refine wp_alloc_two (fun g1 V t1 bb hg => ?_)
          have b1 := Nat.le_trans HB.size hg
          replace HB := HB.trans (bb.mono HB.size)
          have ne : g1 ≠ g2 := Nat.ne_of_gt (Nat.lt_of_lt_of_le t2.lt hg)
          replace t2 := t2.to bb
          replace r1 := r1.to bb
          refine hK.out _ _ HB ?_
          clear hK K bb hg
          simp only [Act.put, List.setIfInBounds_toArray, List.set_cons_zero, List.set_cons_succ]
          refine wpAnyH_ready (rs := [5]) (by kernel_rfl) (by simp) (ready_cons rfl (by rfl) (fun K hK => ?_) AllReadyH.nil)
          · go_simp
            refine (add_z (HBb.to HB).zi (HC.to HB).zi).mono ?_
            rintro e V ⟨x9, y9, rfl, r2, bb⟩
            replace HB := HB.trans (bb.mono HB.size)
            replace t1 := t1.to bb
            replace t2 := t2.to bb
            replace r1 := r1.to bb
            refine hK.out _ _ HB ?_
            clear hK K bb
            refine wpAnyH_ready (rs := [8]) (by kernel_rfl) (by simp) (ready_cons rfl (by rfl) (fun K hK => ?_) AllReadyH.nil)
            · refine wp_store_two (by rfl) (by rfl) t1 Fs.nil r1.fs (fun V u kp => ?_)
              replace t2 := kp.two _ _ _ (Ne.symm ne) t2
              replace r1 := kp.zc _ _ _ r1
              replace r2 := kp.zc _ _ _ r2
              replace HB := kp.bel _ _ HB b1
              clear t1
              have t1 := u
              refine hK.out _ _ HB ?_
              clear hK K kp u
              simp only [Act.put, List.setIfInBounds_toArray, List.set_cons_zero, List.set_cons_succ]
              refine wpAnyH_ready (rs := [9]) (by kernel_rfl) (by simp) (ready_cons rfl (by rfl) (fun K hK => ?_) AllReadyH.nil)
              · refine wp_store_two (by rfl) (by rfl) t2 Fs.nil r2.fs (fun V u kp => ?_)
                replace t1 := kp.two _ _ _ ne t1
                replace r1 := kp.zc _ _ _ r1
                replace r2 := kp.zc _ _ _ r2
                replace HB := kp.bel _ _ HB b2
                clear t2
                have t2 := u
                refine hK.out _ _ HB ?_
                clear hK K kp u
                simp only [Act.put, List.setIfInBounds_toArray, List.set_cons_zero, List.set_cons_succ]
                exact wpAnyH_done (by kernel_rfl) ⟨rfl, g1, g2, x8, y8, x9, y9, by simp only [Act.put, List.setIfInBounds_toArray, List.set_cons_zero, List.set_cons_succ], ⟨t1, r1⟩, ⟨t2, r2⟩, HB⟩ _
    · refine wp_alloc_two (fun g1 V t1 bb hg => ?_)
      have b1 := Nat.le_trans HB.size hg
      replace HB := HB.trans (bb.mono HB.size)
      refine hK.out _ _ HB ?_
      clear hK K bb hg
      simp only [Act.put, List.setIfInBounds_toArray, List.set_cons_zero, List.set_cons_succ]
      refine wpAnyH_ready (rs := [2, 7]) (by kernel_rfl) (by simp) (ready_cons rfl (by rfl) (fun K hK => ?_) (ready_cons rfl (by rfl) (fun K hK => ?_) AllReadyH.nil))
      · go_simp
        refine (add_z (HA.to HB).zi (HBb.to HB).zi).mono ?_
        rintro e V ⟨x8, y8, rfl, r1, bb⟩
        replace HB := HB.trans (bb.mono HB.size)
        replace t1 := t1.to bb
        refine hK.out _ _ HB ?_
        clear hK K bb
        refine wpAnyH_ready (rs := [5, 7]) (by kernel_rfl) (by simp) (ready_cons rfl (by rfl) (fun K hK => ?_) (ready_cons rfl (by rfl) (fun K hK => ?_) AllReadyH.nil))
        · go_simp
          refine (add_z (HBb.to HB).zi (HC.to HB).zi).mono ?_
          rintro e V ⟨x9, y9, rfl, r2, bb⟩
          replace HB := HB.trans (bb.mono HB.size)
          replace t1 := t1.to bb
          replace r1 := r1.to bb
          refine hK.out _ _ HB ?_
          clear hK K bb
          refine wpAnyH_ready (rs := [7]) (by kernel_rfl) (by simp) (ready_cons rfl (by rfl) (fun K hK => ?_) AllReadyH.nil)
          · refine wp_alloc_two (fun g2 V t2 bb hg => ?_)
            have b2 := Nat.le_trans HB.size hg
            replace HB := HB.trans (bb.mono HB.size)
            have ne : g1 ≠ g2 := Nat.ne_of_lt (Nat.lt_of_lt_of_le t1.lt hg)
            replace t1 := t1.to bb
            replace r1 := r1.to bb
            replace r2 := r2.to bb
            refine hK.out _ _ HB ?_
            clear hK K bb hg
            simp only [Act.put, List.setIfInBounds_toArray, List.set_cons_zero, List.set_cons_succ]
            refine wpAnyH_ready (rs := [8]) (by kernel_rfl) (by simp) (ready_cons rfl (by rfl) (fun K hK => ?_) AllReadyH.nil)
            · refine wp_store_two (by rfl) (by rfl) t1 Fs.nil r1.fs (fun V u kp => ?_)
              replace t2 := kp.two _ _ _ (Ne.symm ne) t2
              replace r1 := kp.zc _ _ _ r1
              replace r2 := kp.zc _ _ _ r2
              replace HB := kp.bel _ _ HB b1
              clear t1
              have t1 := u
              refine hK.out _ _ HB ?_
              clear hK K kp u
              simp only [Act.put, List.setIfInBounds_toArray, List.set_cons_zero, List.set_cons_succ]
              refine wpAnyH_ready (rs := [9]) (by kernel_rfl) (by simp) (ready_cons rfl (by rfl) (fun K hK => ?_) AllReadyH.nil)
              · refine wp_store_two (by rfl) (by rfl) t2 Fs.nil r2.fs (fun V u kp => ?_)
                replace t1 := kp.two _ _ _ ne t1
                replace r1 := kp.zc _ _ _ r1
                replace r2 := kp.zc _ _ _ r2
                replace HB := kp.bel _ _ HB b2
                clear t2
                have t2 := u
                refine hK.out _ _ HB ?_
                clear hK K kp u
                simp only [Act.put, List.setIfInBounds_toArray, List.set_cons_zero, List.set_cons_succ]
                exact wpAnyH_done (by kernel_rfl) ⟨rfl, g1, g2, x8, y8, x9, y9, by simp only [Act.put, List.setIfInBounds_toArray, List.set_cons_zero, List.set_cons_succ], ⟨t1, r1⟩, ⟨t2, r2⟩, HB⟩ _
        · refine wp_alloc_two (fun g2 V t2 bb hg => ?_)
          have b2 := Nat.le_trans HB.size hg
          replace HB := HB.trans (bb.mono HB.size)
          have ne : g1 ≠ g2 := Nat.ne_of_lt (Nat.lt_of_lt_of_le t1.lt hg)
          replace t1 := t1.to bb
          replace r1 := r1.to bb
          refine hK.out _ _ HB ?_
          clear hK K bb hg
          simp only [Act.put, List.setIfInBounds_toArray, List.set_cons_zero, List.set_cons_succ]
          refine wpAnyH_ready (rs := [5]) (by kernel_rfl) (by simp) (ready_cons rfl (by rfl) (fun K hK => ?_) AllReadyH.nil)
          · go_simp
            refine (add_z (HBb.to HB).zi (HC.to HB).zi).mono ?_
            rintro e V ⟨x9, y9, rfl, r2, bb⟩
            replace HB := HB.trans (bb.mono HB.size)
            replace t1 := t1.to bb
            replace t2 := t2.to bb
            replace r1 := r1.to bb
            refine hK.out _ _ HB ?_
            clear hK K bb
            refine wpAnyH_ready (rs := [8]) (by kernel_rfl) (by simp) (ready_cons rfl (by rfl) (fun K hK => ?_) AllReadyH.nil)
            · refine wp_store_two (by rfl) (by rfl) t1 Fs.nil r1.fs (fun V u kp => ?_)
              replace t2 := kp.two _ _ _ (Ne.symm ne) t2
              replace r1 := kp.zc _ _ _ r1
              replace r2 := kp.zc _ _ _ r2
              replace HB := kp.bel _ _ HB b1
              clear t1
              have t1 := u
              refine hK.out _ _ HB ?_
              clear hK K kp u
              simp only [Act.put, List.setIfInBounds_toArray, List.set_cons_zero, List.set_cons_succ]
              refine wpAnyH_ready (rs := [9]) (by kernel_rfl) (by simp) (ready_cons rfl (by rfl) (fun K hK => ?_) AllReadyH.nil)
              · refine wp_store_two (by rfl) (by rfl) t2 Fs.nil r2.fs (fun V u kp => ?_)
                replace t1 := kp.two _ _ _ ne t1
                replace r1 := kp.zc _ _ _ r1
                replace r2 := kp.zc _ _ _ r2
                replace HB := kp.bel _ _ HB b2
                clear t2
                have t2 := u
                refine hK.out _ _ HB ?_
                clear hK K kp u
                simp only [Act.put, List.setIfInBounds_toArray, List.set_cons_zero, List.set_cons_succ]
                exact wpAnyH_done (by kernel_rfl) ⟨rfl, g1, g2, x8, y8, x9, y9, by simp only [Act.put, List.setIfInBounds_toArray, List.set_cons_zero, List.set_cons_succ], ⟨t1, r1⟩, ⟨t2, r2⟩, HB⟩ _
      · refine wp_alloc_two (fun g2 V t2 bb hg => ?_)
        have b2 := Nat.le_trans HB.size hg
        replace HB := HB.trans (bb.mono HB.size)
        have ne : g1 ≠ g2 := Nat.ne_of_lt (Nat.lt_of_lt_of_le t1.lt hg)
        replace t1 := t1.to bb
        refine hK.out _ _ HB ?_
        clear hK K bb hg
        simp only [Act.put, List.setIfInBounds_toArray, List.set_cons_zero, List.set_cons_succ]
        refine wpAnyH_ready (rs := [2]) (by kernel_rfl) (by simp) (ready_cons rfl (by rfl) (fun K hK => ?_) AllReadyH.nil)
        · go_simp
          refine (add_z (HA.to HB).zi (HBb.to HB).zi).mono ?_
          rintro e V ⟨x8, y8, rfl, r1, bb⟩
          replace HB := HB.trans (bb.mono HB.size)
          replace t1 := t1.to bb
          replace t2 := t2.to bb
          refine hK.out _ _ HB ?_
          clear hK K bb
          refine wpAnyH_ready (rs := [5]) (by kernel_rfl) (by simp) (ready_cons rfl (by rfl) (fun K hK => ?_) AllReadyH.nil)
          · go_simp
            refine (add_z (HBb.to HB).zi (HC.to HB).zi).mono ?_
            rintro e V ⟨x9, y9, rfl, r2, bb⟩
            replace HB := HB.trans (bb.mono HB.size)
            replace t1 := t1.to bb
            replace t2 := t2.to bb
            replace r1 := r1.to bb
            refine hK.out _ _ HB ?_
            clear hK K bb
            refine wpAnyH_ready (rs := [8]) (by kernel_rfl) (by simp) (ready_cons rfl (by rfl) (fun K hK => ?_) AllReadyH.nil)
            · refine wp_store_two (by rfl) (by rfl) t1 Fs.nil r1.fs (fun V u kp => ?_)
              replace t2 := kp.two _ _ _ (Ne.symm ne) t2
              replace r1 := kp.zc _ _ _ r1
              replace r2 := kp.zc _ _ _ r2
              replace HB := kp.bel _ _ HB b1
              clear t1
              have t1 := u
              refine hK.out _ _ HB ?_
              clear hK K kp u
              simp only [Act.put, List.setIfInBounds_toArray, List.set_cons_zero, List.set_cons_succ]
              refine wpAnyH_ready (rs := [9]) (by kernel_rfl) (by simp) (ready_cons rfl (by rfl) (fun K hK => ?_) AllReadyH.nil)
              · refine wp_store_two (by rfl) (by rfl) t2 Fs.nil r2.fs (fun V u kp => ?_)
                replace t1 := kp.two _ _ _ ne t1
                replace r1 := kp.zc _ _ _ r1
                replace r2 := kp.zc _ _ _ r2
                replace HB := kp.bel _ _ HB b2
                clear t2
                have t2 := u
                refine hK.out _ _ HB ?_
                clear hK K kp u
                simp only [Act.put, List.setIfInBounds_toArray, List.set_cons_zero, List.set_cons_succ]
                exact wpAnyH_done (by kernel_rfl) ⟨rfl, g1, g2, x8, y8, x9, y9, by simp only [Act.put, List.setIfInBounds_toArray, List.set_cons_zero, List.set_cons_succ], ⟨t1, r1⟩, ⟨t2, r2⟩, HB⟩ _
    · refine wp_alloc_two (fun g2 V t2 bb hg => ?_)
      have b2 := Nat.le_trans HB.size hg
      replace HB := HB.trans (bb.mono HB.size)
      refine hK.out _ _ HB ?_
      clear hK K bb hg
      simp only [Act.put, List.setIfInBounds_toArray, List.set_cons_zero, List.set_cons_succ]
      refine wpAnyH_ready (rs := [2, 6]) (by kernel_rfl) (by simp) (ready_cons rfl (by rfl) (fun K hK => ?_) (ready_cons rfl (by rfl) (fun K hK => ?_) AllReadyH.nil))
      · go_simp
        refine (add_z (HA.to HB).zi (HBb.to HB).zi).mono ?_
        rintro e V ⟨x8, y8, rfl, r1, bb⟩
        replace HB := HB.trans (bb.mono HB.size)
        replace t2 := t2.to bb
        refine hK.out _ _ HB ?_
        clear hK K bb
        refine wpAnyH_ready (rs := [5, 6]) (by kernel_rfl) (by simp) (ready_cons rfl (by rfl) (fun K hK => ?_) (ready_cons rfl (by rfl) (fun K hK => ?_) AllReadyH.nil))
        · go_simp
          refine (add_z (HBb.to HB).zi (HC.to HB).zi).mono ?_
          rintro e V ⟨x9, y9, rfl, r2, bb⟩
          replace HB := HB.trans (bb.mono HB.size)
          replace t2 := t2.to bb
          replace r1 := r1.to bb
          refine hK.out _ _ HB ?_
          clear hK K bb
          refine wpAnyH_ready (rs := [6]) (by kernel_rfl) (by simp) (ready_cons rfl (by rfl) (fun K hK => ?_) AllReadyH.nil)
          · refine wp_alloc_two (fun g1 V t1 bb hg => ?_)
            have b1 := Nat.le_trans HB.size hg
            replace HB := HB.trans (bb.mono HB.size)
            have ne : g1 ≠ g2 := Nat.ne_of_gt (Nat.lt_of_lt_of_le t2.lt hg)
            replace t2 := t2.to bb
            replace r1 := r1.to bb
            replace r2 := r2.to bb
            refine hK.out _ _ HB ?_
            clear hK K bb hg
            simp only [Act.put, List.setIfInBounds_toArray, List.set_cons_zero, List.set_cons_succ]
            refine wpAnyH_ready (rs := [8]) (by kernel_rfl) (by simp) (ready_cons rfl (by rfl) (fun K hK => ?_) AllReadyH.nil)
            · refine wp_store_two (by rfl) (by rfl) t1 Fs.nil r1.fs (fun V u kp => ?_)
              replace t2 := kp.two _ _ _ (Ne.symm ne) t2
              replace r1 := kp.zc _ _ _ r1
              replace r2 := kp.zc _ _ _ r2
              replace HB := kp.bel _ _ HB b1
              clear t1
              have t1 := u
              refine hK.out _ _ HB ?_
              clear hK K kp u
              simp only [Act.put, List.setIfInBounds_toArray, List.set_cons_zero, List.set_cons_succ]
              refine wpAnyH_ready (rs := [9]) (by kernel_rfl) (by simp) (ready_cons rfl (by rfl) (fun K hK => ?_) AllReadyH.nil)
              · refine wp_store_two (by rfl) (by rfl) t2 Fs.nil r2.fs (fun V u kp => ?_)
                replace t1 := kp.two _ _ _ ne t1
                replace r1 := kp.zc _ _ _ r1
                replace r2 := kp.zc _ _ _ r2
                replace HB := kp.bel _ _ HB b2
                clear t2
                have t2 := u
                refine hK.out _ _ HB ?_
                clear hK K kp u
                simp only [Act.put, List.setIfInBounds_toArray, List.set_cons_zero, List.set_cons_succ]
                exact wpAnyH_done (by kernel_rfl) ⟨rfl, g1, g2, x8, y8, x9, y9, by simp only [Act.put, List.setIfInBounds_toArray, List.set_cons_zero, List.set_cons_succ], ⟨t1, r1⟩, ⟨t2, r2⟩, HB⟩ _
        · refine wp_alloc_two (fun g1 V t1 bb hg => ?_)
          have b1 := Nat.le_trans HB.size hg
          replace HB := HB.trans (bb.mono HB.size)
          have ne : g1 ≠ g2 := Nat.ne_of_gt (Nat.lt_of_lt_of_le t2.lt hg)
          replace t2 := t2.to bb
          replace r1 := r1.to bb
          refine hK.out _ _ HB ?_
          clear hK K bb hg
          simp only [Act.put, List.setIfInBounds_toArray, List.set_cons_zero, List.set_cons_succ]
          refine wpAnyH_ready (rs := [5]) (by kernel_rfl) (by simp) (ready_cons rfl (by rfl) (fun K hK => ?_) AllReadyH.nil)
          · go_simp
            refine (add_z (HBb.to HB).zi (HC.to HB).zi).mono ?_
            rintro e V ⟨x9, y9, rfl, r2, bb⟩
            replace HB := HB.trans (bb.mono HB.size)
            replace t1 := t1.to bb
            replace t2 := t2.to bb
            replace r1 := r1.to bb
            refine hK.out _ _ HB ?_
            clear hK K bb
            refine wpAnyH_ready (rs := [8]) (by kernel_rfl) (by simp) (ready_cons rfl (by rfl) (fun K hK => ?_) AllReadyH.nil)
            · refine wp_store_two (by rfl) (by rfl) t1 Fs.nil r1.fs (fun V u kp => ?_)
              replace t2 := kp.two _ _ _ (Ne.symm ne) t2
              replace r1 := kp.zc _ _ _ r1
              replace r2 := kp.zc _ _ _ r2
              replace HB := kp.bel _ _ HB b1
              clear t1
              have t1 := u
              refine hK.out _ _ HB ?_
              clear hK K kp u
              simp only [Act.put, List.setIfInBounds_toArray, List.set_cons_zero, List.set_cons_succ]
              refine wpAnyH_ready (rs := [9]) (by kernel_rfl) (by simp) (ready_cons rfl (by rfl) (fun K hK => ?_) AllReadyH.nil)
              · refine wp_store_two (by rfl) (by rfl) t2 Fs.nil r2.fs (fun V u kp => ?_)
                replace t1 := kp.two _ _ _ ne t1
                replace r1 := kp.zc _ _ _ r1
                replace r2 := kp.zc _ _ _ r2
                replace HB := kp.bel _ _ HB b2
                clear t2
                have t2 := u
                refine hK.out _ _ HB ?_
                clear hK K kp u
                simp only [Act.put, List.setIfInBounds_toArray, List.set_cons_zero, List.set_cons_succ]
                exact wpAnyH_done (by kernel_rfl) ⟨rfl, g1, g2, x8, y8, x9, y9, by simp only [Act.put, List.setIfInBounds_toArray, List.set_cons_zero, List.set_cons_succ], ⟨t1, r1⟩, ⟨t2, r2⟩, HB⟩ _
      · refine wp_alloc_two (fun g1 V t1 bb hg => ?_)
        have b1 := Nat.le_trans HB.size hg
        replace HB := HB.trans (bb.mono HB.size)
        have ne : g1 ≠ g2 := Nat.ne_of_gt (Nat.lt_of_lt_of_le t2.lt hg)
        replace t2 := t2.to bb
        refine hK.out _ _ HB ?_
        clear hK K bb hg
        simp only [Act.put, List.setIfInBounds_toArray, List.set_cons_zero, List.set_cons_succ]
        refine wpAnyH_ready (rs := [2]) (by kernel_rfl) (by simp) (ready_cons rfl (by rfl) (fun K hK => ?_) AllReadyH.nil)
        · go_simp
          refine (add_z (HA.to HB).zi (HBb.to HB).zi).mono ?_
          rintro e V ⟨x8, y8, rfl, r1, bb⟩
          replace HB := HB.trans (bb.mono HB.size)
          replace t1 := t1.to bb
          replace t2 := t2.to bb
          refine hK.out _ _ HB ?_
          clear hK K bb
          refine wpAnyH_ready (rs := [5]) (by kernel_rfl) (by simp) (ready_cons rfl (by rfl) (fun K hK => ?_) AllReadyH.nil)
          · go_simp
            refine (add_z (HBb.to HB).zi (HC.to HB).zi).mono ?_
            rintro e V ⟨x9, y9, rfl, r2, bb⟩
            replace HB := HB.trans (bb.mono HB.size)
            replace t1 := t1.to bb
            replace t2 := t2.to bb
            replace r1 := r1.to bb
            refine hK.out _ _ HB ?_
            clear hK K bb
            refine wpAnyH_ready (rs := [8]) (by kernel_rfl) (by simp) (ready_cons rfl (by rfl) (fun K hK => ?_) AllReadyH.nil)
            · refine wp_store_two (by rfl) (by rfl) t1 Fs.nil r1.fs (fun V u kp => ?_)
              replace t2 := kp.two _ _ _ (Ne.symm ne) t2
              replace r1 := kp.zc _ _ _ r1
              replace r2 := kp.zc _ _ _ r2
              replace HB := kp.bel _ _ HB b1
              clear t1
              have t1 := u
              refine hK.out _ _ HB ?_
              clear hK K kp u
              simp only [Act.put, List.setIfInBounds_toArray, List.set_cons_zero, List.set_cons_succ]
              refine wpAnyH_ready (rs := [9]) (by kernel_rfl) (by simp) (ready_cons rfl (by rfl) (fun K hK => ?_) AllReadyH.nil)
              · refine wp_store_two (by rfl) (by rfl) t2 Fs.nil r2.fs (fun V u kp => ?_)
                replace t1 := kp.two _ _ _ ne t1
                replace r1 := kp.zc _ _ _ r1
                replace r2 := kp.zc _ _ _ r2
                replace HB := kp.bel _ _ HB b2
                clear t2
                have t2 := u
                refine hK.out _ _ HB ?_
                clear hK K kp u
                simp only [Act.put, List.setIfInBounds_toArray, List.set_cons_zero, List.set_cons_succ]
                exact wpAnyH_done (by kernel_rfl) ⟨rfl, g1, g2, x8, y8, x9, y9, by simp only [Act.put, List.setIfInBounds_toArray, List.set_cons_zero, List.set_cons_succ], ⟨t1, r1⟩, ⟨t2, r2⟩, HB⟩ _
  rintro v' W2 ⟨g8, g9, x8, y8, x9, y9, rfl, C8, C9, HB⟩
  simp only [Act.put, List.setIfInBounds_toArray, List.set_cons_zero, List.set_cons_succ]
  replace HA := HA.to HB
  replace HBb := HBb.to HB
  replace HC := HC.to HB
  replace HB0 := Lib.hid (HB0.out.trans (HB.mono HB0.out.size))
  clear HB bsz HW0
  go_wp2_with fail
  refine wp_cut (fun a' v' w' => ∃ g1 g2 x10 y10 x11 y11, v' = (((((((a'.put (some 25) (.agg #[x1, y1])).put (some 26) (.agg #[x2, y2])).put (some 27) (.agg #[x10, y10])).put (some 28) (.agg #[x2, y2])).put (some 29) (.agg #[x3, y3])).put (some 30) (.agg #[x11, y11])).put (some 10) (.pointer (some ⟨g1, 0, none⟩))).put (some 11) (.pointer (some ⟨g2, 0, none⟩)) ∧ Cb w' g1 x10 y10 (a * b) ∧ Cb w' g2 x11 y11 (b * c) ∧ Below W2.heap.size W2 w') ?_ ?_
  · refine wp_region_planTo (S := fun w' => Below W2.heap.size W2 w') [(0, true), (1, true), (3, true), (4, true)] #[true, true, false, true, true, false, false, false, false, false] 6 (by kernel_rfl) (by kernel_rfl) (Below.refl _ _).drew ?_
    refine plan_take rfl (by rfl) (fun w' hS => load_two (by rfl) (HA.two.to hS)) ?_; simp only [Act.put, List.setIfInBounds_toArray, List.set_cons_zero, List.set_cons_succ]
    refine plan_take rfl (by rfl) (fun w' hS => load_two (by rfl) (HBb.two.to hS)) ?_; simp only [Act.put, List.setIfInBounds_toArray, List.set_cons_zero, List.set_cons_succ]
    refine plan_take rfl (by rfl) (fun w' hS => load_two (by rfl) (HBb.two.to hS)) ?_; simp only [Act.put, List.setIfInBounds_toArray, List.set_cons_zero, List.set_cons_succ]
    refine plan_take rfl (by rfl) (fun w' hS => load_two (by rfl) (HC.two.to hS)) ?_; simp only [Act.put, List.setIfInBounds_toArray, List.set_cons_zero, List.set_cons_succ]
    intro HB
    refine wpAnyH_ready (rs := [2, 6, 7]) (by kernel_rfl) (by simp) (ready_cons rfl (by rfl) (fun K hK => ?_) (ready_cons rfl (by rfl) (fun K hK => ?_) (ready_cons rfl (by rfl) (fun K hK => ?_) AllReadyH.nil)))
    · go_simp
      refine (mul_z (HA.to HB).zi (HBb.to HB).zi).mono ?_
      rintro e V ⟨x10, y10, rfl, r1, bb⟩
      replace HB := HB.trans (bb.mono HB.size)
      refine hK.out _ _ HB ?_
      clear hK K bb
      refine wpAnyH_ready (rs := [5, 6, 7]) (by kernel_rfl) (by simp) (ready_cons rfl (by rfl) (fun K hK => ?_) (ready_cons rfl (by rfl) (fun K hK => ?_) (ready_cons rfl (by rfl) (fun K hK => ?_) AllReadyH.nil)))
      · go_simp
        refine (mul_z (HBb.to HB).zi (HC.to HB).zi).mono ?_
        rintro e V ⟨x11, y11, rfl, r2, bb⟩
        replace HB := HB.trans (bb.mono HB.size)
        replace r1 := r1.to bb
        refine hK.out _ _ HB ?_
        clear hK K bb
        refine wpAnyH_ready (rs := [6, 7]) (by kernel_rfl) (by simp) (ready_cons rfl (by rfl) (fun K hK => ?_) (ready_cons rfl (by rfl) (fun K hK => ?_) AllReadyH.nil))
        · refine wp_alloc_two (fun g1 V t1 bb hg => ?_)
          have b1 := Nat.le_trans HB.size hg
          replace HB := HB.trans (bb.mono HB.size)
          replace r1 := r1.to bb
          replace r2 := r2.to bb
          refine hK.out _ _ HB ?_
          clear hK K bb hg
          simp only [Act.put, List.setIfInBounds_toArray, List.set_cons_zero, List.set_cons_succ]
          refine wpAnyH_ready (rs := [7]) (by kernel_rfl) (by simp) (ready_cons rfl (by rfl) (fun K hK => ?_) AllReadyH.nil)
          · refine wp_alloc_two (fun g2 V t2 bb hg => ?_)
            have b2 := Nat.le_trans HB.size hg
            replace HB := HB.trans (bb.mono HB.size)
            have ne : g1 ≠ g2 := Nat.ne_of_lt (Nat.lt_of_lt_of_le t1.lt hg)
            replace t1 := t1.to bb
            replace r1 := r1.to bb
            replace r2 := r2.to bb
            refine hK.out _ _ HB ?_
            clear hK K bb hg
            simp only [Act.put, List.setIfInBounds_toArray, List.set_cons_zero, List.set_cons_succ]
            refine wpAnyH_ready (rs := [8]) (by kernel_rfl) (by simp) (ready_cons rfl (by rfl) (fun K hK => ?_) AllReadyH.nil)
            · refine wp_store_two (by rfl) (by rfl) t1 Fs.nil r1.fs (fun V u kp => ?_)
              replace t2 := kp.two _ _ _ (Ne.symm ne) t2
              replace r1 := kp.zc _ _ _ r1
              replace r2 := kp.zc _ _ _ r2
              replace HB := kp.bel _ _ HB b1
              clear t1
              have t1 := u
              refine hK.out _ _ HB ?_
              clear hK K kp u
              simp only [Act.put, List.setIfInBounds_toArray, List.set_cons_zero, List.set_cons_succ]
              refine wpAnyH_ready (rs := [9]) (by kernel_rfl) (by simp) (ready_cons rfl (by rfl) (fun K hK => ?_) AllReadyH.nil)
              · refine wp_store_two (by rfl) (by rfl) t2 Fs.nil r2.fs (fun V u kp => ?_)
                replace t1 := kp.two _ _ _ ne t1
                replace r1 := kp.zc _ _ _ r1
                replace r2 := kp.zc _ _ _ r2
                replace HB := kp.bel _ _ HB b2
                clear t2
                have t2 := u
                refine hK.out _ _ HB ?_
                clear hK K kp u
                simp only [Act.put, List.setIfInBounds_toArray, List.set_cons_zero, List.set_cons_succ]
                exact wpAnyH_done (by kernel_rfl) ⟨rfl, g1, g2, x10, y10, x11, y11, by simp only [Act.put, List.setIfInBounds_toArray, List.set_cons_zero, List.set_cons_succ], ⟨t1, r1⟩, ⟨t2, r2⟩, HB⟩ _
        · refine wp_alloc_two (fun g2 V t2 bb hg => ?_)
          have b2 := Nat.le_trans HB.size hg
          replace HB := HB.trans (bb.mono HB.size)
          replace r1 := r1.to bb
          replace r2 := r2.to bb
          refine hK.out _ _ HB ?_
          clear hK K bb hg
          simp only [Act.put, List.setIfInBounds_toArray, List.set_cons_zero, List.set_cons_succ]
          refine wpAnyH_ready (rs := [6]) (by kernel_rfl) (by simp) (ready_cons rfl (by rfl) (fun K hK => ?_) AllReadyH.nil)
          · refine wp_alloc_two (fun g1 V t1 bb hg => ?_)
            have b1 := Nat.le_trans HB.size hg
            replace HB := HB.trans (bb.mono HB.size)
            have ne : g1 ≠ g2 := Nat.ne_of_gt (Nat.lt_of_lt_of_le t2.lt hg)
            replace t2 := t2.to bb
            replace r1 := r1.to bb
            replace r2 := r2.to bb
            refine hK.out _ _ HB ?_
            clear hK K bb hg
            simp only [Act.put, List.setIfInBounds_toArray, List.set_cons_zero, List.set_cons_succ]
            refine wpAnyH_ready (rs := [8]) (by kernel_rfl) (by simp) (ready_cons rfl (by rfl) (fun K hK => ?_) AllReadyH.nil)
            · refine wp_store_two (by rfl) (by rfl) t1 Fs.nil r1.fs (fun V u kp => ?_)
              replace t2 := kp.two _ _ _ (Ne.symm ne) t2
              replace r1 := kp.zc _ _ _ r1
              replace r2 := kp.zc _ _ _ r2
              replace HB := kp.bel _ _ HB b1
              clear t1
              have t1 := u
              refine hK.out _ _ HB ?_
              clear hK K kp u
              simp only [Act.put, List.setIfInBounds_toArray, List.set_cons_zero, List.set_cons_succ]
              refine wpAnyH_ready (rs := [9]) (by kernel_rfl) (by simp) (ready_cons rfl (by rfl) (fun K hK => ?_) AllReadyH.nil)
              · refine wp_store_two (by rfl) (by rfl) t2 Fs.nil r2.fs (fun V u kp => ?_)
                replace t1 := kp.two _ _ _ ne t1
                replace r1 := kp.zc _ _ _ r1
                replace r2 := kp.zc _ _ _ r2
                replace HB := kp.bel _ _ HB b2
                clear t2
                have t2 := u
                refine hK.out _ _ HB ?_
                clear hK K kp u
                simp only [Act.put, List.setIfInBounds_toArray, List.set_cons_zero, List.set_cons_succ]
                exact wpAnyH_done (by kernel_rfl) ⟨rfl, g1, g2, x10, y10, x11, y11, by simp only [Act.put, List.setIfInBounds_toArray, List.set_cons_zero, List.set_cons_succ], ⟨t1, r1⟩, ⟨t2, r2⟩, HB⟩ _
      · refine wp_alloc_two (fun g1 V t1 bb hg => ?_)
        have b1 := Nat.le_trans HB.size hg
        replace HB := HB.trans (bb.mono HB.size)
        replace r1 := r1.to bb
        refine hK.out _ _ HB ?_
        clear hK K bb hg
        simp only [Act.put, List.setIfInBounds_toArray, List.set_cons_zero, List.set_cons_succ]
        refine wpAnyH_ready (rs := [5, 7]) (by kernel_rfl) (by simp) (ready_cons rfl (by rfl) (fun K hK => ?_) (ready_cons rfl (by rfl) (fun K hK => ?_) AllReadyH.nil))
        · go_simp
          refine (mul_z (HBb.to HB).zi (HC.to HB).zi).mono ?_
          rintro e V ⟨x11, y11, rfl, r2, bb⟩
          replace HB := HB.trans (bb.mono HB.size)
          replace t1 := t1.to bb
          replace r1 := r1.to bb
          refine hK.out _ _ HB ?_
          clear hK K bb
          refine wpAnyH_ready (rs := [7]) (by kernel_rfl) (by simp) (ready_cons rfl (by rfl) (fun K hK => ?_) AllReadyH.nil)
          · refine wp_alloc_two (fun g2 V t2 bb hg => ?_)
            have b2 := Nat.le_trans HB.size hg
            replace HB := HB.trans (bb.mono HB.size)
            have ne : g1 ≠ g2 := Nat.ne_of_lt (Nat.lt_of_lt_of_le t1.lt hg)
            replace t1 := t1.to bb
            replace r1 := r1.to bb
            replace r2 := r2.to bb
            refine hK.out _ _ HB ?_
            clear hK K bb hg
            simp only [Act.put, List.setIfInBounds_toArray, List.set_cons_zero, List.set_cons_succ]
            refine wpAnyH_ready (rs := [8]) (by kernel_rfl) (by simp) (ready_cons rfl (by rfl) (fun K hK => ?_) AllReadyH.nil)
            · refine wp_store_two (by rfl) (by rfl) t1 Fs.nil r1.fs (fun V u kp => ?_)
              replace t2 := kp.two _ _ _ (Ne.symm ne) t2
              replace r1 := kp.zc _ _ _ r1
              replace r2 := kp.zc _ _ _ r2
              replace HB := kp.bel _ _ HB b1
              clear t1
              have t1 := u
              refine hK.out _ _ HB ?_
              clear hK K kp u
              simp only [Act.put, List.setIfInBounds_toArray, List.set_cons_zero, List.set_cons_succ]
              refine wpAnyH_ready (rs := [9]) (by kernel_rfl) (by simp) (ready_cons rfl (by rfl) (fun K hK => ?_) AllReadyH.nil)
              · refine wp_store_two (by rfl) (by rfl) t2 Fs.nil r2.fs (fun V u kp => ?_)
                replace t1 := kp.two _ _ _ ne t1
                replace r1 := kp.zc _ _ _ r1
                replace r2 := kp.zc _ _ _ r2
                replace HB := kp.bel _ _ HB b2
                clear t2
                have t2 := u
                refine hK.out _ _ HB ?_
                clear hK K kp u
                simp only [Act.put, List.setIfInBounds_toArray, List.set_cons_zero, List.set_cons_succ]
                exact wpAnyH_done (by kernel_rfl) ⟨rfl, g1, g2, x10, y10, x11, y11, by simp only [Act.put, List.setIfInBounds_toArray, List.set_cons_zero, List.set_cons_succ], ⟨t1, r1⟩, ⟨t2, r2⟩, HB⟩ _
        · refine wp_alloc_two (fun g2 V t2 bb hg => ?_)
          have b2 := Nat.le_trans HB.size hg
          replace HB := HB.trans (bb.mono HB.size)
          have ne : g1 ≠ g2 := Nat.ne_of_lt (Nat.lt_of_lt_of_le t1.lt hg)
          replace t1 := t1.to bb
          replace r1 := r1.to bb
          refine hK.out _ _ HB ?_
          clear hK K bb hg
          simp only [Act.put, List.setIfInBounds_toArray, List.set_cons_zero, List.set_cons_succ]
          refine wpAnyH_ready (rs := [5]) (by kernel_rfl) (by simp) (ready_cons rfl (by rfl) (fun K hK => ?_) AllReadyH.nil)
          · go_simp
            refine (mul_z (HBb.to HB).zi (HC.to HB).zi).mono ?_
            rintro e V ⟨x11, y11, rfl, r2, bb⟩
            replace HB := HB.trans (bb.mono HB.size)
            replace t1 := t1.to bb
            replace t2 := t2.to bb
            replace r1 := r1.to bb
            refine hK.out _ _ HB ?_
            clear hK K bb
            refine wpAnyH_ready (rs := [8]) (by kernel_rfl) (by simp) (ready_cons rfl (by rfl) (fun K hK => ?_) AllReadyH.nil)
            · refine wp_store_two (by rfl) (by rfl) t1 Fs.nil r1.fs (fun V u kp => ?_)
              replace t2 := kp.two _ _ _ (Ne.symm ne) t2
              replace r1 := kp.zc _ _ _ r1
              replace r2 := kp.zc _ _ _ r2
              replace HB := kp.bel _ _ HB b1
              clear t1
              have t1 := u
              refine hK.out _ _ HB ?_
              clear hK K kp u
              simp only [Act.put, List.setIfInBounds_toArray, List.set_cons_zero, List.set_cons_succ]
              refine wpAnyH_ready (rs := [9]) (by kernel_rfl) (by simp) (ready_cons rfl (by rfl) (fun K hK => ?_) AllReadyH.nil)
              · refine wp_store_two (by rfl) (by rfl) t2 Fs.nil r2.fs (fun V u kp => ?_)
                replace t1 := kp.two _ _ _ ne t1
                replace r1 := kp.zc _ _ _ r1
                replace r2 := kp.zc _ _ _ r2
                replace HB := kp.bel _ _ HB b2
                clear t2
                have t2 := u
                refine hK.out _ _ HB ?_
                clear hK K kp u
                simp only [Act.put, List.setIfInBounds_toArray, List.set_cons_zero, List.set_cons_succ]
                exact wpAnyH_done (by kernel_rfl) ⟨rfl, g1, g2, x10, y10, x11, y11, by simp only [Act.put, List.setIfInBounds_toArray, List.set_cons_zero, List.set_cons_succ], ⟨t1, r1⟩, ⟨t2, r2⟩, HB⟩ _
      · refine wp_alloc_two (fun g2 V t2 bb hg => ?_)
        have b2 := Nat.le_trans HB.size hg
        replace HB := HB.trans (bb.mono HB.size)
        replace r1 := r1.to bb
        refine hK.out _ _ HB ?_
        clear hK K bb hg
        simp only [Act.put, List.setIfInBounds_toArray, List.set_cons_zero, List.set_cons_succ]
        refine wpAnyH_ready (rs := [5, 6]) (by kernel_rfl) (by simp) (ready_cons rfl (by rfl) (fun K hK => ?_) (ready_cons rfl (by rfl) (fun K hK => ?_) AllReadyH.nil))
        · go_simp
          refine (mul_z (HBb.to HB).zi (HC.to HB).zi).mono ?_
          rintro e V ⟨x11, y11, rfl, r2, bb⟩
          replace HB := HB.trans (bb.mono HB.size)
          replace t2 := t2.to bb
          replace r1 := r1.to bb
          refine hK.out _ _ HB ?_
          clear hK K bb
          refine wpAnyH_ready (rs := [6]) (by kernel_rfl) (by simp) (ready_cons rfl (by rfl) (fun K hK => ?_) AllReadyH.nil)
          · refine wp_alloc_two (fun g1 V t1 bb hg => ?_)
            have b1 := Nat.le_trans HB.size hg
            replace HB := HB.trans (bb.mono HB.size)
            have ne : g1 ≠ g2 := Nat.ne_of_gt (Nat.lt_of_lt_of_le t2.lt hg)
            replace t2 := t2.to bb
            replace r1 := r1.to bb
            replace r2 := r2.to bb
            refine hK.out _ _ HB ?_
            clear hK K bb hg
            simp only [Act.put, List.setIfInBounds_toArray, List.set_cons_zero, List.set_cons_succ]
            refine wpAnyH_ready (rs := [8]) (by kernel_rfl) (by simp) (ready_cons rfl (by rfl) (fun K hK => ?_) AllReadyH.nil)
            · refine wp_store_two (by rfl) (by rfl) t1 Fs.nil r1.fs (fun V u kp => ?_)
              replace t2 := kp.two _ _ _ (Ne.symm ne) t2
              replace r1 := kp.zc _ _ _ r1
              replace r2 := kp.zc _ _ _ r2
              replace HB := kp.bel _ _ HB b1
              clear t1
              have t1 := u
              refine hK.out _ _ HB ?_
              clear hK K kp u
              simp only [Act.put, List.setIfInBounds_toArray, List.set_cons_zero, List.set_cons_succ]
              refine wpAnyH_ready (rs := [9]) (by kernel_rfl) (by simp) (ready_cons rfl (by rfl) (fun K hK => ?_) AllReadyH.nil)
              · refine wp_store_two (by rfl) (by rfl) t2 Fs.nil r2.fs (fun V u kp => ?_)
                replace t1 := kp.two _ _ _ ne t1
                replace r1 := kp.zc _ _ _ r1
                replace r2 := kp.zc _ _ _ r2
                replace HB := kp.bel _ _ HB b2
                clear t2
                have t2 := u
                refine hK.out _ _ HB ?_
                clear hK K kp u
                simp only [Act.put, List.setIfInBounds_toArray, List.set_cons_zero, List.set_cons_succ]
                exact wpAnyH_done (by kernel_rfl) ⟨rfl, g1, g2, x10, y10, x11, y11, by simp only [Act.put, List.setIfInBounds_toArray, List.set_cons_zero, List.set_cons_succ], ⟨t1, r1⟩, ⟨t2, r2⟩, HB⟩ _
        · refine wp_alloc_two (fun g1 V t1 bb hg => ?_)
          have b1 := Nat.le_trans HB.size hg
          replace HB := HB.trans (bb.mono HB.size)
          have ne : g1 ≠ g2 := Nat.ne_of_gt (Nat.lt_of_lt_of_le t2.lt hg)
          replace t2 := t2.to bb
          replace r1 := r1.to bb
          refine hK.out _ _ HB ?_
          clear hK K bb hg
          simp only [Act.put, List.setIfInBounds_toArray, List.set_cons_zero, List.set_cons_succ]
          refine wpAnyH_ready (rs := [5]) (by kernel_rfl) (by simp) (ready_cons rfl (by rfl) (fun K hK => ?_) AllReadyH.nil)
          · go_simp
            refine (mul_z (HBb.to HB).zi (HC.to HB).zi).mono ?_
            rintro e V ⟨x11, y11, rfl, r2, bb⟩
            replace HB := HB.trans (bb.mono HB.size)
            replace t1 := t1.to bb
            replace t2 := t2.to bb
            replace r1 := r1.to bb
            refine hK.out _ _ HB ?_
            clear hK K bb
            refine wpAnyH_ready (rs := [8]) (by kernel_rfl) (by simp) (ready_cons rfl (by rfl) (fun K hK => ?_) AllReadyH.nil)
            · refine wp_store_two (by rfl) (by rfl) t1 Fs.nil r1.fs (fun V u kp => ?_)
              replace t2 := kp.two _ _ _ (Ne.symm ne) t2
              replace r1 := kp.zc _ _ _ r1
              replace r2 := kp.zc _ _ _ r2
              replace HB := kp.bel _ _ HB b1
              clear t1
              have t1 := u
              refine hK.out _ _ HB ?_
              clear hK K kp u
              simp only [Act.put, List.setIfInBounds_toArray, List.set_cons_zero, List.set_cons_succ]
              refine wpAnyH_ready (rs := [9]) (by kernel_rfl) (by simp) (ready_cons rfl (by rfl) (fun K hK => ?_) AllReadyH.nil)
              · refine wp_store_two (by rfl) (by rfl) t2 Fs.nil r2.fs (fun V u kp => ?_)
                replace t1 := kp.two _ _ _ ne t1
                replace r1 := kp.zc _ _ _ r1
                replace r2 := kp.zc _ _ _ r2
                replace HB := kp.bel _ _ HB b2
                clear t2
                have t2 := u
                refine hK.out _ _ HB ?_
                clear hK K kp u
                simp only [Act.put, List.setIfInBounds_toArray, List.set_cons_zero, List.set_cons_succ]
                exact wpAnyH_done (by kernel_rfl) ⟨rfl, g1, g2, x10, y10, x11, y11, by simp only [Act.put, List.setIfInBounds_toArray, List.set_cons_zero, List.set_cons_succ], ⟨t1, r1⟩, ⟨t2, r2⟩, HB⟩ _
    · refine wp_alloc_two (fun g1 V t1 bb hg => ?_)
      have b1 := Nat.le_trans HB.size hg
      replace HB := HB.trans (bb.mono HB.size)
      refine hK.out _ _ HB ?_
      clear hK K bb hg
      simp only [Act.put, List.setIfInBounds_toArray, List.set_cons_zero, List.set_cons_succ]
      refine wpAnyH_ready (rs := [2, 7]) (by kernel_rfl) (by simp) (ready_cons rfl (by rfl) (fun K hK => ?_) (ready_cons rfl (by rfl) (fun K hK => ?_) AllReadyH.nil))
      · go_simp
        refine (mul_z (HA.to HB).zi (HBb.to HB).zi).mono ?_
        rintro e V ⟨x10, y10, rfl, r1, bb⟩
        replace HB := HB.trans (bb.mono HB.size)
        replace t1 := t1.to bb
        refine hK.out _ _ HB ?_
        clear hK K bb
        refine wpAnyH_ready (rs := [5, 7]) (by kernel_rfl) (by simp) (ready_cons rfl (by rfl) (fun K hK => ?_) (ready_cons rfl (by rfl) (fun K hK => ?_) AllReadyH.nil))
        · go_simp
          refine (mul_z (HBb.to HB).zi (HC.to HB).zi).mono ?_
          rintro e V ⟨x11, y11, rfl, r2, bb⟩
          replace HB := HB.trans (bb.mono HB.size)
          replace t1 := t1.to bb
          replace r1 := r1.to bb
          refine hK.out _ _ HB ?_
          clear hK K bb
          refine wpAnyH_ready (rs := [7]) (by kernel_rfl) (by simp) (ready_cons rfl (by rfl) (fun K hK => ?_) AllReadyH.nil)
          · refine wp_alloc_two (fun g2 V t2 bb hg => ?_)
            have b2 := Nat.le_trans HB.size hg
            replace HB := HB.trans (bb.mono HB.size)
            have ne : g1 ≠ g2 := Nat.ne_of_lt (Nat.lt_of_lt_of_le t1.lt hg)
            replace t1 := t1.to bb
            replace r1 := r1.to bb
            replace r2 := r2.to bb
            refine hK.out _ _ HB ?_
            clear hK K bb hg
            simp only [Act.put, List.setIfInBounds_toArray, List.set_cons_zero, List.set_cons_succ]
            refine wpAnyH_ready (rs := [8]) (by kernel_rfl) (by simp) (ready_cons rfl (by rfl) (fun K hK => ?_) AllReadyH.nil)
            · refine wp_store_two (by rfl) (by rfl) t1 Fs.nil r1.fs (fun V u kp => ?_)
              replace t2 := kp.two _ _ _ (Ne.symm ne) t2
              replace r1 := kp.zc _ _ _ r1
              replace r2 := kp.zc _ _ _ r2
              replace HB := kp.bel _ _ HB b1
              clear t1
              have t1 := u
              refine hK.out _ _ HB ?_
              clear hK K kp u
              simp only [Act.put, List.setIfInBounds_toArray, List.set_cons_zero, List.set_cons_succ]
              refine wpAnyH_ready (rs := [9]) (by kernel_rfl) (by simp) (ready_cons rfl (by rfl) (fun K hK => ?_) AllReadyH.nil)
              · refine wp_store_two (by rfl) (by rfl) t2 Fs.nil r2.fs (fun V u kp => ?_)
                replace t1 := kp.two _ _ _ ne t1
                replace r1 := kp.zc _ _ _ r1
                replace r2 := kp.zc _ _ _ r2
                replace HB := kp.bel _ _ HB b2
                clear t2
                have t2 := u
                refine hK.out _ _ HB ?_
                clear hK K kp u
                simp only [Act.put, List.setIfInBounds_toArray, List.set_cons_zero, List.set_cons_succ]
                exact wpAnyH_done (by kernel_rfl) ⟨rfl, g1, g2, x10, y10, x11, y11, by simp only [Act.put, List.setIfInBounds_toArray, List.set_cons_zero, List.set_cons_succ], ⟨t1, r1⟩, ⟨t2, r2⟩, HB⟩ _
        · refine wp_alloc_two (fun g2 V t2 bb hg => ?_)
          have b2 := Nat.le_trans HB.size hg
          replace HB := HB.trans (bb.mono HB.size)
          have ne : g1 ≠ g2 := Nat.ne_of_lt (Nat.lt_of_lt_of_le t1.lt hg)
          replace t1 := t1.to bb
          replace r1 := r1.to bb
          refine hK.out _ _ HB ?_
          clear hK K bb hg
          simp only [Act.put, List.setIfInBounds_toArray, List.set_cons_zero, List.set_cons_succ]
          refine wpAnyH_ready (rs := [5]) (by kernel_rfl) (by simp) (ready_cons rfl (by rfl) (fun K hK => ?_) AllReadyH.nil)
          · go_simp
            refine (mul_z (HBb.to HB).zi (HC.to HB).zi).mono ?_
            rintro e V ⟨x11, y11, rfl, r2, bb⟩
            replace HB := HB.trans (bb.mono HB.size)
            replace t1 := t1.to bb
            replace t2 := t2.to bb
            replace r1 := r1.to bb
            refine hK.out _ _ HB ?_
            clear hK K bb
            refine wpAnyH_ready (rs := [8]) (by kernel_rfl) (by simp) (ready_cons rfl (by rfl) (fun K hK => ?_) AllReadyH.nil)
            · refine wp_store_two (by rfl) (by rfl) t1 Fs.nil r1.fs (fun V u kp => ?_)
              replace t2 := kp.two _ _ _ (Ne.symm ne) t2
              replace r1 := kp.zc _ _ _ r1
              replace r2 := kp.zc _ _ _ r2
              replace HB := kp.bel _ _ HB b1
              clear t1
              have t1 := u
              refine hK.out _ _ HB ?_
              clear hK K kp u
              simp only [Act.put, List.setIfInBounds_toArray, List.set_cons_zero, List.set_cons_succ]
              refine wpAnyH_ready (rs := [9]) (by kernel_rfl) (by simp) (ready_cons rfl (by rfl) (fun K hK => ?_) AllReadyH.nil)
              · refine wp_store_two (by rfl) (by rfl) t2 Fs.nil r2.fs (fun V u kp => ?_)
                replace t1 := kp.two _ _ _ ne t1
                replace r1 := kp.zc _ _ _ r1
                replace r2 := kp.zc _ _ _ r2
                replace HB := kp.bel _ _ HB b2
                clear t2
                have t2 := u
                refine hK.out _ _ HB ?_
                clear hK K kp u
                simp only [Act.put, List.setIfInBounds_toArray, List.set_cons_zero, List.set_cons_succ]
                exact wpAnyH_done (by kernel_rfl) ⟨rfl, g1, g2, x10, y10, x11, y11, by simp only [Act.put, List.setIfInBounds_toArray, List.set_cons_zero, List.set_cons_succ], ⟨t1, r1⟩, ⟨t2, r2⟩, HB⟩ _
      · refine wp_alloc_two (fun g2 V t2 bb hg => ?_)
        have b2 := Nat.le_trans HB.size hg
        replace HB := HB.trans (bb.mono HB.size)
        have ne : g1 ≠ g2 := Nat.ne_of_lt (Nat.lt_of_lt_of_le t1.lt hg)
        replace t1 := t1.to bb
        refine hK.out _ _ HB ?_
        clear hK K bb hg
        simp only [Act.put, List.setIfInBounds_toArray, List.set_cons_zero, List.set_cons_succ]
        refine wpAnyH_ready (rs := [2]) (by kernel_rfl) (by simp) (ready_cons rfl (by rfl) (fun K hK => ?_) AllReadyH.nil)
        · go_simp
          refine (mul_z (HA.to HB).zi (HBb.to HB).zi).mono ?_
          rintro e V ⟨x10, y10, rfl, r1, bb⟩
          replace HB := HB.trans (bb.mono HB.size)
          replace t1 := t1.to bb
          replace t2 := t2.to bb
          refine hK.out _ _ HB ?_
          clear hK K bb
          refine wpAnyH_ready (rs := [5]) (by kernel_rfl) (by simp) (ready_cons rfl (by rfl) (fun K hK => ?_) AllReadyH.nil)
          · go_simp
            refine (mul_z (HBb.to HB).zi (HC.to HB).zi).mono ?_
            rintro e V ⟨x11, y11, rfl, r2, bb⟩
            replace HB := HB.trans (bb.mono HB.size)
            replace t1 := t1.to bb
            replace t2 := t2.to bb
            replace r1 := r1.to bb
            refine hK.out _ _ HB ?_
            clear hK K bb
            refine wpAnyH_ready (rs := [8]) (by kernel_rfl) (by simp) (ready_cons rfl (by rfl) (fun K hK => ?_) AllReadyH.nil)
            · refine wp_store_two (by rfl) (by rfl) t1 Fs.nil r1.fs (fun V u kp => ?_)
              replace t2 := kp.two _ _ _ (Ne.symm ne) t2
              replace r1 := kp.zc _ _ _ r1
              replace r2 := kp.zc _ _ _ r2
              replace HB := kp.bel _ _ HB b1
              clear t1
              have t1 := u
              refine hK.out _ _ HB ?_
              clear hK K kp u
              simp only [Act.put, List.setIfInBounds_toArray, List.set_cons_zero, List.set_cons_succ]
              refine wpAnyH_ready (rs := [9]) (by kernel_rfl) (by simp) (ready_cons rfl (by rfl) (fun K hK => ?_) AllReadyH.nil)
              · refine wp_store_two (by rfl) (by rfl) t2 Fs.nil r2.fs (fun V u kp => ?_)
                replace t1 := kp.two _ _ _ ne t1
                replace r1 := kp.zc _ _ _ r1
                replace r2 := kp.zc _ _ _ r2
                replace HB := kp.bel _ _ HB b2
                clear t2
                have t2 := u
                refine hK.out _ _ HB ?_
                clear hK K kp u
                simp only [Act.put, List.setIfInBounds_toArray, List.set_cons_zero, List.set_cons_succ]
                exact wpAnyH_done (by kernel_rfl) ⟨rfl, g1, g2, x10, y10, x11, y11, by simp only [Act.put, List.setIfInBounds_toArray, List.set_cons_zero, List.set_cons_succ], ⟨t1, r1⟩, ⟨t2, r2⟩, HB⟩ _
    · refine wp_alloc_two (fun g2 V t2 bb hg => ?_)
      have b2 := Nat.le_trans HB.size hg
      replace HB := HB.trans (bb.mono HB.size)
      refine hK.out _ _ HB ?_
      clear hK K bb hg
      simp only [Act.put, List.setIfInBounds_toArray, List.set_cons_zero, List.set_cons_succ]
      refine wpAnyH_ready (rs := [2, 6]) (by kernel_rfl) (by simp) (ready_cons rfl (by rfl) (fun K hK => ?_) (ready_cons rfl (by rfl) (fun K hK => ?_) AllReadyH.nil))
      · go_simp
        refine (mul_z (HA.to HB).zi (HBb.to HB).zi).mono ?_
        rintro e V ⟨x10, y10, rfl, r1, bb⟩
        replace HB := HB.trans (bb.mono HB.size)
        replace t2 := t2.to bb
        refine hK.out _ _ HB ?_
        clear hK K bb
        refine wpAnyH_ready (rs := [5, 6]) (by kernel_rfl) (by simp) (ready_cons rfl (by rfl) (fun K hK => ?_) (ready_cons rfl (by rfl) (fun K hK => ?_) AllReadyH.nil))
        · go_simp
          refine (mul_z (HBb.to HB).zi (HC.to HB).zi).mono ?_
          rintro e V ⟨x11, y11, rfl, r2, bb⟩
          replace HB := HB.trans (bb.mono HB.size)
          replace t2 := t2.to bb
          replace r1 := r1.to bb
          refine hK.out _ _ HB ?_
          clear hK K bb
          refine wpAnyH_ready (rs := [6]) (by kernel_rfl) (by simp) (ready_cons rfl (by rfl) (fun K hK => ?_) AllReadyH.nil)
          · refine wp_alloc_two (fun g1 V t1 bb hg => ?_)
            have b1 := Nat.le_trans HB.size hg
            replace HB := HB.trans (bb.mono HB.size)
            have ne : g1 ≠ g2 := Nat.ne_of_gt (Nat.lt_of_lt_of_le t2.lt hg)
            replace t2 := t2.to bb
            replace r1 := r1.to bb
            replace r2 := r2.to bb
            refine hK.out _ _ HB ?_
            clear hK K bb hg
            simp only [Act.put, List.setIfInBounds_toArray, List.set_cons_zero, List.set_cons_succ]
            refine wpAnyH_ready (rs := [8]) (by kernel_rfl) (by simp) (ready_cons rfl (by rfl) (fun K hK => ?_) AllReadyH.nil)
            · refine wp_store_two (by rfl) (by rfl) t1 Fs.nil r1.fs (fun V u kp => ?_)
              replace t2 := kp.two _ _ _ (Ne.symm ne) t2
              replace r1 := kp.zc _ _ _ r1
              replace r2 := kp.zc _ _ _ r2
              replace HB := kp.bel _ _ HB b1
              clear t1
              have t1 := u
              refine hK.out _ _ HB ?_
              clear hK K kp u
              simp only [Act.put, List.setIfInBounds_toArray, List.set_cons_zero, List.set_cons_succ]
              refine wpAnyH_ready (rs := [9]) (by kernel_rfl) (by simp) (ready_cons rfl (by rfl) (fun K hK => ?_) AllReadyH.nil)
              · refine wp_store_two (by rfl) (by rfl) t2 Fs.nil r2.fs (fun V u kp => ?_)
                replace t1 := kp.two _ _ _ ne t1
                replace r1 := kp.zc _ _ _ r1
                replace r2 := kp.zc _ _ _ r2
                replace HB := kp.bel _ _ HB b2
                clear t2
                have t2 := u
                refine hK.out _ _ HB ?_
                clear hK K kp u
                simp only [Act.put, List.setIfInBounds_toArray, List.set_cons_zero, List.set_cons_succ]
                exact wpAnyH_done (by kernel_rfl) ⟨rfl, g1, g2, x10, y10, x11, y11, by simp only [Act.put, List.setIfInBounds_toArray, List.set_cons_zero, List.set_cons_succ], ⟨t1, r1⟩, ⟨t2, r2⟩, HB⟩ _
        · refine wp_alloc_two (fun g1 V t1 bb hg => ?_)
          have b1 := Nat.le_trans HB.size hg
          replace HB := HB.trans (bb.mono HB.size)
          have ne : g1 ≠ g2 := Nat.ne_of_gt (Nat.lt_of_lt_of_le t2.lt hg)
          replace t2 := t2.to bb
          replace r1 := r1.to bb
          refine hK.out _ _ HB ?_
          clear hK K bb hg
          simp only [Act.put, List.setIfInBounds_toArray, List.set_cons_zero, List.set_cons_succ]
          refine wpAnyH_ready (rs := [5]) (by kernel_rfl) (by simp) (ready_cons rfl (by rfl) (fun K hK => ?_) AllReadyH.nil)
          · go_simp
            refine (mul_z (HBb.to HB).zi (HC.to HB).zi).mono ?_
            rintro e V ⟨x11, y11, rfl, r2, bb⟩
            replace HB := HB.trans (bb.mono HB.size)
            replace t1 := t1.to bb
            replace t2 := t2.to bb
            replace r1 := r1.to bb
            refine hK.out _ _ HB ?_
            clear hK K bb
            refine wpAnyH_ready (rs := [8]) (by kernel_rfl) (by simp) (ready_cons rfl (by rfl) (fun K hK => ?_) AllReadyH.nil)
            · refine wp_store_two (by rfl) (by rfl) t1 Fs.nil r1.fs (fun V u kp => ?_)
              replace t2 := kp.two _ _ _ (Ne.symm ne) t2
              replace r1 := kp.zc _ _ _ r1
              replace r2 := kp.zc _ _ _ r2
              replace HB := kp.bel _ _ HB b1
              clear t1
              have t1 := u
              refine hK.out _ _ HB ?_
              clear hK K kp u
              simp only [Act.put, List.setIfInBounds_toArray, List.set_cons_zero, List.set_cons_succ]
              refine wpAnyH_ready (rs := [9]) (by kernel_rfl) (by simp) (ready_cons rfl (by rfl) (fun K hK => ?_) AllReadyH.nil)
              · refine wp_store_two (by rfl) (by rfl) t2 Fs.nil r2.fs (fun V u kp => ?_)
                replace t1 := kp.two _ _ _ ne t1
                replace r1 := kp.zc _ _ _ r1
                replace r2 := kp.zc _ _ _ r2
                replace HB := kp.bel _ _ HB b2
                clear t2
                have t2 := u
                refine hK.out _ _ HB ?_
                clear hK K kp u
                simp only [Act.put, List.setIfInBounds_toArray, List.set_cons_zero, List.set_cons_succ]
                exact wpAnyH_done (by kernel_rfl) ⟨rfl, g1, g2, x10, y10, x11, y11, by simp only [Act.put, List.setIfInBounds_toArray, List.set_cons_zero, List.set_cons_succ], ⟨t1, r1⟩, ⟨t2, r2⟩, HB⟩ _
      · refine wp_alloc_two (fun g1 V t1 bb hg => ?_)
        have b1 := Nat.le_trans HB.size hg
        replace HB := HB.trans (bb.mono HB.size)
        have ne : g1 ≠ g2 := Nat.ne_of_gt (Nat.lt_of_lt_of_le t2.lt hg)
        replace t2 := t2.to bb
        refine hK.out _ _ HB ?_
        clear hK K bb hg
        simp only [Act.put, List.setIfInBounds_toArray, List.set_cons_zero, List.set_cons_succ]
        refine wpAnyH_ready (rs := [2]) (by kernel_rfl) (by simp) (ready_cons rfl (by rfl) (fun K hK => ?_) AllReadyH.nil)
        · go_simp
          refine (mul_z (HA.to HB).zi (HBb.to HB).zi).mono ?_
          rintro e V ⟨x10, y10, rfl, r1, bb⟩
          replace HB := HB.trans (bb.mono HB.size)
          replace t1 := t1.to bb
          replace t2 := t2.to bb
          refine hK.out _ _ HB ?_
          clear hK K bb
          refine wpAnyH_ready (rs := [5]) (by kernel_rfl) (by simp) (ready_cons rfl (by rfl) (fun K hK => ?_) AllReadyH.nil)
          · go_simp
            refine (mul_z (HBb.to HB).zi (HC.to HB).zi).mono ?_
            rintro e V ⟨x11, y11, rfl, r2, bb⟩
            replace HB := HB.trans (bb.mono HB.size)
            replace t1 := t1.to bb
            replace t2 := t2.to bb
            replace r1 := r1.to bb
            refine hK.out _ _ HB ?_
            clear hK K bb
            refine wpAnyH_ready (rs := [8]) (by kernel_rfl) (by simp) (ready_cons rfl (by rfl) (fun K hK => ?_) AllReadyH.nil)
            · refine wp_store_two (by rfl) (by rfl) t1 Fs.nil r1.fs (fun V u kp => ?_)
              replace t2 := kp.two _ _ _ (Ne.symm ne) t2
              replace r1 := kp.zc _ _ _ r1
              replace r2 := kp.zc _ _ _ r2
              replace HB := kp.bel _ _ HB b1
              clear t1
              have t1 := u
              refine hK.out _ _ HB ?_
              clear hK K kp u
              simp only [Act.put, List.setIfInBounds_toArray, List.set_cons_zero, List.set_cons_succ]
              refine wpAnyH_ready (rs := [9]) (by kernel_rfl) (by simp) (ready_cons rfl (by rfl) (fun K hK => ?_) AllReadyH.nil)
              · refine wp_store_two (by rfl) (by rfl) t2 Fs.nil r2.fs (fun V u kp => ?_)
                replace t1 := kp.two _ _ _ ne t1
                replace r1 := kp.zc _ _ _ r1
                replace r2 := kp.zc _ _ _ r2
                replace HB := kp.bel _ _ HB b2
                clear t2
                have t2 := u
                refine hK.out _ _ HB ?_
                clear hK K kp u
                simp only [Act.put, List.setIfInBounds_toArray, List.set_cons_zero, List.set_cons_succ]
                exact wpAnyH_done (by kernel_rfl) ⟨rfl, g1, g2, x10, y10, x11, y11, by simp only [Act.put, List.setIfInBounds_toArray, List.set_cons_zero, List.set_cons_succ], ⟨t1, r1⟩, ⟨t2, r2⟩, HB⟩ _
  rintro v' W3 ⟨g10, g11, x10, y10, x11, y11, rfl, C10, C11, HB⟩
  simp only [Act.put, List.setIfInBounds_toArray, List.set_cons_zero, List.set_cons_succ]
  replace HA := HA.to HB
  replace HBb := HBb.to HB
  replace HC := HC.to HB
  replace C8 := C8.to HB
  replace C9 := C9.to HB
  replace HB0 := Lib.hid (HB0.out.trans (HB.mono HB0.out.size))
  clear HB
  go_wp2_with fail
  have s77 : Sm 24 (a * c) := m1.mul m3
  refine wp_region_plan (S := fun w' => Below W3.heap.size W3 w') [(0, true), (1, true), (2, true), (3, true), (4, false), (5, false), (6, true), (7, true), (8, true), (9, true), (10, true), (11, true), (12, false), (13, false), (14, true), (15, true), (16, true), (17, true), (18, true), (19, true), (21, true), (22, true), (20, false), (23, false), (24, false), (25, true), (26, true), (27, true), (28, true), (29, true), (30, true), (32, true), (33, true), (31, false), (34, false), (35, false), (36, true), (37, true), (38, true), (39, true), (40, true), (41, true), (43, true), (44, true), (45, true), (42, false), (46, false), (47, false), (48, false), (49, true), (50, true)] (by kernel_rfl) (by kernel_rfl) (Below.refl _ _).drew ?_
  have HB := (Below.refl W3.heap.size W3).drew
  refine plan_take (v := ?_) rfl (by rfl) ?_ ?_; rotate_left; (focus (intro w' _; go_simp; try with_reducible rfl)); simp only [Act.put, List.setIfInBounds_toArray, List.set_cons_zero, List.set_cons_succ]
  refine plan_take rfl (by rfl) (fun w' hS => load_two (by rfl) (C8.two.to hS)) ?_; simp only [Act.put, List.setIfInBounds_toArray, List.set_cons_zero, List.set_cons_succ]
  refine plan_take rfl (by rfl) (fun w' hS => load_two (by rfl) (HBb.two.to hS)) ?_; simp only [Act.put, List.setIfInBounds_toArray, List.set_cons_zero, List.set_cons_succ]
  refine plan_take rfl (by rfl) (fun w' hS => load_two (by rfl) (HA.two.to hS)) ?_; simp only [Act.put, List.setIfInBounds_toArray, List.set_cons_zero, List.set_cons_succ]
  refine plan_call rfl (by rfl) (fun K hK => ?_)
  go_simp
  refine (add_z (HBb.to HB).zi (HA.to HB).zi).mono ?_
  rintro e V ⟨ur35, vr35, rfl, r35, bb⟩
  replace HB := HB.trans (bb.mono HB.size)
  refine hK.out _ _ HB ?_
  clear hK K bb
  refine plan_call rfl (by rfl) (fun K hK => ?_)
  go_simp
  refine (same_t (C8.to HB).zc r35 (Int.add_comm a b)).mono ?_
  rintro e V ⟨rfl, bb⟩
  replace HB := HB.trans (bb.mono HB.size)
  clear r35
  refine hK.out _ _ HB ?_
  clear hK K bb
  refine plan_take (v := ?_) rfl (by rfl) ?_ ?_; rotate_left; (focus (intro w' _; go_simp; try with_reducible rfl)); simp only [Act.put, List.setIfInBounds_toArray, List.set_cons_zero, List.set_cons_succ]
  refine plan_take (v := ?_) rfl (by rfl) ?_ ?_; rotate_left; (focus (intro w' _; go_simp; try with_reducible rfl)); simp only [Act.put, List.setIfInBounds_toArray, List.set_cons_zero, List.set_cons_succ]
  refine plan_take (v := ?_) rfl (by rfl) ?_ ?_; rotate_left; (focus (intro w' _; go_simp; try with_reducible rfl)); simp only [Act.put, List.setIfInBounds_toArray, List.set_cons_zero, List.set_cons_succ]
  refine plan_take rfl (by rfl) (fun w' hS => load_two (by rfl) (C10.two.to hS)) ?_; simp only [Act.put, List.setIfInBounds_toArray, List.set_cons_zero, List.set_cons_succ]
  refine plan_take rfl (by rfl) (fun w' hS => load_two (by rfl) (HBb.two.to hS)) ?_; simp only [Act.put, List.setIfInBounds_toArray, List.set_cons_zero, List.set_cons_succ]
  refine plan_take rfl (by rfl) (fun w' hS => load_two (by rfl) (HA.two.to hS)) ?_; simp only [Act.put, List.setIfInBounds_toArray, List.set_cons_zero, List.set_cons_succ]
  refine plan_call rfl (by rfl) (fun K hK => ?_)
  go_simp
  refine (mul_z (HBb.to HB).zi (HA.to HB).zi).mono ?_
  rintro e V ⟨ur43, vr43, rfl, r43, bb⟩
  replace HB := HB.trans (bb.mono HB.size)
  refine hK.out _ _ HB ?_
  clear hK K bb
  refine plan_call rfl (by rfl) (fun K hK => ?_)
  go_simp
  refine (same_t (C10.to HB).zc r43 (Int.mul_comm a b)).mono ?_
  rintro e V ⟨rfl, bb⟩
  replace HB := HB.trans (bb.mono HB.size)
  clear r43
  refine hK.out _ _ HB ?_
  clear hK K bb
  refine plan_take (v := ?_) rfl (by rfl) ?_ ?_; rotate_left; (focus (intro w' _; go_simp; try with_reducible rfl)); simp only [Act.put, List.setIfInBounds_toArray, List.set_cons_zero, List.set_cons_succ]
  refine plan_take (v := ?_) rfl (by rfl) ?_ ?_; rotate_left; (focus (intro w' _; go_simp; try with_reducible rfl)); simp only [Act.put, List.setIfInBounds_toArray, List.set_cons_zero, List.set_cons_succ]
  refine plan_take (v := ?_) rfl (by rfl) ?_ ?_; rotate_left; (focus (intro w' _; go_simp; try with_reducible rfl)); simp only [Act.put, List.setIfInBounds_toArray, List.set_cons_zero, List.set_cons_succ]
  refine plan_take (v := ?_) rfl (by rfl) ?_ ?_; rotate_left; (focus (intro w' _; go_simp; try with_reducible rfl)); simp only [Act.put, List.setIfInBounds_toArray, List.set_cons_zero, List.set_cons_succ]
  refine plan_take rfl (by rfl) (fun w' hS => load_two (by rfl) (C8.two.to hS)) ?_; simp only [Act.put, List.setIfInBounds_toArray, List.set_cons_zero, List.set_cons_succ]
  refine plan_take rfl (by rfl) (fun w' hS => load_two (by rfl) (HC.two.to hS)) ?_; simp only [Act.put, List.setIfInBounds_toArray, List.set_cons_zero, List.set_cons_succ]
  refine plan_take rfl (by rfl) (fun w' hS => load_two (by rfl) (HA.two.to hS)) ?_; simp only [Act.put, List.setIfInBounds_toArray, List.set_cons_zero, List.set_cons_succ]
  refine plan_take rfl (by rfl) (fun w' hS => load_two (by rfl) (C9.two.to hS)) ?_; simp only [Act.put, List.setIfInBounds_toArray, List.set_cons_zero, List.set_cons_succ]
  refine plan_call rfl (by rfl) (fun K hK => ?_)
  go_simp
  refine (add_z ((C8.to HB).zc.zi s8 (by decide)) (HC.to HB).zi).mono ?_
  rintro e V ⟨ur51, vr51, rfl, r51, bb⟩
  replace HB := HB.trans (bb.mono HB.size)
  refine hK.out _ _ HB ?_
  clear hK K bb
  refine plan_call rfl (by rfl) (fun K hK => ?_)
  go_simp
  refine (add_z (HA.to HB).zi ((C9.to HB).zc.zi s9 (by decide))).mono ?_
  rintro e V ⟨ur54, vr54, rfl, r54, bb⟩
  replace HB := HB.trans (bb.mono HB.size)
  replace r51 := r51.to bb
  refine hK.out _ _ HB ?_
  clear hK K bb
  refine plan_call rfl (by rfl) (fun K hK => ?_)
  go_simp
  refine (same_t r51 r54 (Int.add_assoc a b c)).mono ?_
  rintro e V ⟨rfl, bb⟩
  replace HB := HB.trans (bb.mono HB.size)
  clear r51
  clear r54
  refine hK.out _ _ HB ?_
  clear hK K bb
  refine plan_take (v := ?_) rfl (by rfl) ?_ ?_; rotate_left; (focus (intro w' _; go_simp; try with_reducible rfl)); simp only [Act.put, List.setIfInBounds_toArray, List.set_cons_zero, List.set_cons_succ]
  refine plan_take (v := ?_) rfl (by rfl) ?_ ?_; rotate_left; (focus (intro w' _; go_simp; try with_reducible rfl)); simp only [Act.put, List.setIfInBounds_toArray, List.set_cons_zero, List.set_cons_succ]
  refine plan_take (v := ?_) rfl (by rfl) ?_ ?_; rotate_left; (focus (intro w' _; go_simp; try with_reducible rfl)); simp only [Act.put, List.setIfInBounds_toArray, List.set_cons_zero, List.set_cons_succ]
  refine plan_take (v := ?_) rfl (by rfl) ?_ ?_; rotate_left; (focus (intro w' _; go_simp; try with_reducible rfl)); simp only [Act.put, List.setIfInBounds_toArray, List.set_cons_zero, List.set_cons_succ]
  refine plan_take rfl (by rfl) (fun w' hS => load_two (by rfl) (C10.two.to hS)) ?_; simp only [Act.put, List.setIfInBounds_toArray, List.set_cons_zero, List.set_cons_succ]
  refine plan_take rfl (by rfl) (fun w' hS => load_two (by rfl) (HC.two.to hS)) ?_; simp only [Act.put, List.setIfInBounds_toArray, List.set_cons_zero, List.set_cons_succ]
  refine plan_take rfl (by rfl) (fun w' hS => load_two (by rfl) (HA.two.to hS)) ?_; simp only [Act.put, List.setIfInBounds_toArray, List.set_cons_zero, List.set_cons_succ]
  refine plan_take rfl (by rfl) (fun w' hS => load_two (by rfl) (C11.two.to hS)) ?_; simp only [Act.put, List.setIfInBounds_toArray, List.set_cons_zero, List.set_cons_succ]
  refine plan_call rfl (by rfl) (fun K hK => ?_)
  go_simp
  refine (mul_z ((C10.to HB).zc.zi s10 (by decide)) (HC.to HB).zi).mono ?_
  rintro e V ⟨ur62, vr62, rfl, r62, bb⟩
  replace HB := HB.trans (bb.mono HB.size)
  refine hK.out _ _ HB ?_
  clear hK K bb
  refine plan_call rfl (by rfl) (fun K hK => ?_)
  go_simp
  refine (mul_z (HA.to HB).zi ((C11.to HB).zc.zi s11 (by decide))).mono ?_
  rintro e V ⟨ur65, vr65, rfl, r65, bb⟩
  replace HB := HB.trans (bb.mono HB.size)
  replace r62 := r62.to bb
  refine hK.out _ _ HB ?_
  clear hK K bb
  refine plan_call rfl (by rfl) (fun K hK => ?_)
  go_simp
  refine (same_t r62 r65 (Int.mul_assoc a b c)).mono ?_
  rintro e V ⟨rfl, bb⟩
  replace HB := HB.trans (bb.mono HB.size)
  clear r62
  clear r65
  refine hK.out _ _ HB ?_
  clear hK K bb
  refine plan_take (v := ?_) rfl (by rfl) ?_ ?_; rotate_left; (focus (intro w' _; go_simp; try with_reducible rfl)); simp only [Act.put, List.setIfInBounds_toArray, List.set_cons_zero, List.set_cons_succ]
  refine plan_take (v := ?_) rfl (by rfl) ?_ ?_; rotate_left; (focus (intro w' _; go_simp; try with_reducible rfl)); simp only [Act.put, List.setIfInBounds_toArray, List.set_cons_zero, List.set_cons_succ]
  refine plan_take (v := ?_) rfl (by rfl) ?_ ?_; rotate_left; (focus (intro w' _; go_simp; try with_reducible rfl)); simp only [Act.put, List.setIfInBounds_toArray, List.set_cons_zero, List.set_cons_succ]
  refine plan_take (v := ?_) rfl (by rfl) ?_ ?_; rotate_left; (focus (intro w' _; go_simp; try with_reducible rfl)); simp only [Act.put, List.setIfInBounds_toArray, List.set_cons_zero, List.set_cons_succ]
  refine plan_take rfl (by rfl) (fun w' hS => load_two (by rfl) (HA.two.to hS)) ?_; simp only [Act.put, List.setIfInBounds_toArray, List.set_cons_zero, List.set_cons_succ]
  refine plan_take rfl (by rfl) (fun w' hS => load_two (by rfl) (C9.two.to hS)) ?_; simp only [Act.put, List.setIfInBounds_toArray, List.set_cons_zero, List.set_cons_succ]
  refine plan_take rfl (by rfl) (fun w' hS => load_two (by rfl) (C10.two.to hS)) ?_; simp only [Act.put, List.setIfInBounds_toArray, List.set_cons_zero, List.set_cons_succ]
  refine plan_take rfl (by rfl) (fun w' hS => load_two (by rfl) (HA.two.to hS)) ?_; simp only [Act.put, List.setIfInBounds_toArray, List.set_cons_zero, List.set_cons_succ]
  refine plan_take rfl (by rfl) (fun w' hS => load_two (by rfl) (HC.two.to hS)) ?_; simp only [Act.put, List.setIfInBounds_toArray, List.set_cons_zero, List.set_cons_succ]
  refine plan_call rfl (by rfl) (fun K hK => ?_)
  go_simp
  refine (mul_z (HA.to HB).zi ((C9.to HB).zc.zi s9 (by decide))).mono ?_
  rintro e V ⟨ur73, vr73, rfl, r73, bb⟩
  replace HB := HB.trans (bb.mono HB.size)
  refine hK.out _ _ HB ?_
  clear hK K bb
  refine plan_call rfl (by rfl) (fun K hK => ?_)
  go_simp
  refine (mul_z (HA.to HB).zi (HC.to HB).zi).mono ?_
  rintro e V ⟨ur77, vr77, rfl, r77, bb⟩
  replace HB := HB.trans (bb.mono HB.size)
  replace r73 := r73.to bb
  refine hK.out _ _ HB ?_
  clear hK K bb
  refine plan_call rfl (by rfl) (fun K hK => ?_)
  go_simp
  refine (add_z ((C10.to HB).zc.zi s10 (by decide)) (r77.zi s77 (by decide))).mono ?_
  rintro e V ⟨ur78, vr78, rfl, r78, bb⟩
  replace HB := HB.trans (bb.mono HB.size)
  clear r77
  replace r73 := r73.to bb
  refine hK.out _ _ HB ?_
  clear hK K bb
  refine plan_call rfl (by rfl) (fun K hK => ?_)
  go_simp
  refine (same_t r73 r78 (Int.mul_add a b c)).mono ?_
  rintro e V ⟨rfl, bb⟩
  replace HB := HB.trans (bb.mono HB.size)
  clear r73
  clear r78
  refine hK.out _ _ HB ?_
  clear hK K bb
  refine plan_take (v := ?_) rfl (by rfl) ?_ ?_; rotate_left; (focus (intro w' _; go_simp; try with_reducible rfl)); simp only [Act.put, List.setIfInBounds_toArray, List.set_cons_zero, List.set_cons_succ]
  refine plan_take (v := ?_) rfl (by rfl) ?_ ?_; rotate_left; (focus (intro w' _; go_simp; try with_reducible rfl)); simp only [Act.put, List.setIfInBounds_toArray, List.set_cons_zero, List.set_cons_succ]
  refine plan_done ?_
  replace HA := HA.to HB
  replace HBb := HBb.to HB
  replace HC := HC.to HB
  replace C8 := C8.to HB
  replace C9 := C9.to HB
  replace C10 := C10.to HB
  replace C11 := C11.to HB
  replace HB0 := Lib.hid (HB0.out.trans (HB.mono HB0.out.size))
  clear HB
  have q1 := HA.two.c0
  have q2 := HA.two.c1
  have q3 := HBb.two.c0
  have q4 := HBb.two.c1
  go_wp2_with fail
  refine (sub_z HA.zi HBb.zi).mono ?_
  rintro e w5 ⟨x12, y12, rfl, r12, bb⟩
  have f12 := r12
  obtain ⟨A12, c12, rfl, rfl, -⟩ := f12
  go_wp2_with fail
  have t12 := Two.new w5 (.bool (decide (a - b < 0))) (.slice A12 (dig b32 (a - b).natAbs).length c12) 24
  have bc := (Below.refl w5.heap.size w5).alloc (Nat.le_refl _) (.cells #[.bool (decide (a - b < 0)), .slice A12 (dig b32 (a - b).natAbs).length c12] 24)
  obtain ⟨W4, hW4⟩ : ∃ W4, W4 = w5.alloc (.cells #[.bool (decide (a - b < 0)), .slice A12 (dig b32 (a - b).natAbs).length c12] 24) := ⟨_, rfl⟩
  rw [← hW4] at t12 bc ⊢
  clear hW4
  have C12 : Cb W4 w5.heap.size _ _ (a - b) := ⟨t12, r12.to bc⟩
  replace HA := (HA.to bb).to bc
  replace HBb := (HBb.to bb).to bc
  replace HC := (HC.to bb).to bc
  replace C9 := (C9.to bb).to bc
  replace C10 := (C10.to bb).to bc
  replace HB0 := Lib.hid ((HB0.out.trans (bb.mono HB0.out.size)).trans (bc.mono (HB0.out.trans (bb.mono HB0.out.size)).size))
  clear C8 C11 t12 r12 bb bc q1 q2 q3 q4
  obtain ⟨o, ho⟩ : ∃ o, cmpZ a b = o := ⟨_, rfl⟩
  obtain ⟨o', ho'⟩ : ∃ o, cmpZ b a = o := ⟨_, rfl⟩
  obtain ⟨s, hs0⟩ : ∃ s, sgn a = s := ⟨_, rfl⟩
  obtain ⟨e, he0⟩ : ∃ e, decide (0 ≤ a) = e := ⟨_, rfl⟩
  have hneg : IntKind.i64.wrap (-o') = o := by rw [← ho, ← ho']; exact cmpZ_anti a b
  have hs : decide (0 ≤ s) = e := by rw [← he0, ← hs0]; exact sgn_ge a
  have E1 := Lib.hid ((cmpZ_sub a b).trans ho)
  have E2 := Lib.hid ho
  have E3 := Lib.hid ho'
  have E4 := Lib.hid ((cmpZ_add a b c).trans ho)
  have E5 := Lib.hid ((abs_eq a b).trans he0)
  have E6 := Lib.hid hs0
  clear ho ho' hs0 he0
  have s104 : Sm 13 (a + c) := m1.add m3
  refine wp_region_plan (S := fun w' => Below W4.heap.size W4 w') [(0, true), (2, true), (3, true), (1, false), (4, false), (5, true), (6, true), (7, true), (8, true), (10, true), (11, true), (9, false), (12, false), (13, true), (14, true), (15, true), (16, true), (17, true), (18, true), (20, true), (22, true), (23, true), (19, false), (21, false), (24, false), (25, true), (26, true), (27, true), (28, true), (29, true), (30, true), (32, true), (35, true), (31, false), (33, false), (34, false), (36, false), (37, true), (38, true), (39, true), (40, true), (41, true), (42, false), (43, true), (44, true), (45, true), (46, false), (47, true), (48, true), (49, false), (50, true), (51, true)] (by kernel_rfl) (by kernel_rfl) (Below.refl _ _).drew ?_
  have HB := (Below.refl W4.heap.size W4).drew
  refine plan_take rfl (by rfl) (fun w' hS => load_two (by rfl) (C12.two.to hS)) ?_; simp only [Act.put, List.setIfInBounds_toArray, List.set_cons_zero, List.set_cons_succ]
  refine plan_take rfl (by rfl) (fun w' hS => load_two (by rfl) (HA.two.to hS)) ?_; simp only [Act.put, List.setIfInBounds_toArray, List.set_cons_zero, List.set_cons_succ]
  refine plan_take rfl (by rfl) (fun w' hS => load_two (by rfl) (HBb.two.to hS)) ?_; simp only [Act.put, List.setIfInBounds_toArray, List.set_cons_zero, List.set_cons_succ]
  refine plan_call rfl (by rfl) (fun K hK => ?_)
  go_simp
  refine (sign_v ((C12.to HB).zc.zi s12 (by decide)) E1.out).mono ?_
  rintro e V ⟨rfl, bb⟩
  replace HB := HB.trans (bb.mono HB.size)
  refine hK.out _ _ HB ?_
  clear hK K bb
  refine plan_call rfl (by rfl) (fun K hK => ?_)
  go_simp
  refine (cmp_v (HA.to HB).zi (HBb.to HB).zi E2.out).mono ?_
  rintro e V ⟨rfl, bb⟩
  replace HB := HB.trans (bb.mono HB.size)
  refine hK.out _ _ HB ?_
  clear hK K bb
  refine plan_take (v := ?_) rfl (by rfl) ?_ ?_; rotate_left; (focus (intro w' _; go_simp; try with_reducible rfl)); simp only [Act.put, List.setIfInBounds_toArray, List.set_cons_zero, List.set_cons_succ]
  refine plan_take (v := ?_) rfl (by rfl) ?_ ?_; rotate_left; (focus (intro w' _; go_simp; try with_reducible rfl)); simp only [Act.put, List.setIfInBounds_toArray, List.set_cons_zero, List.set_cons_succ]
  refine plan_take rfl (by rfl) (fun w' hS => load_two (by rfl) (HA.two.to hS)) ?_; simp only [Act.put, List.setIfInBounds_toArray, List.set_cons_zero, List.set_cons_succ]
  refine plan_take rfl (by rfl) (fun w' hS => load_two (by rfl) (HBb.two.to hS)) ?_; simp only [Act.put, List.setIfInBounds_toArray, List.set_cons_zero, List.set_cons_succ]
  refine plan_take rfl (by rfl) (fun w' hS => load_two (by rfl) (HBb.two.to hS)) ?_; simp only [Act.put, List.setIfInBounds_toArray, List.set_cons_zero, List.set_cons_succ]
  refine plan_take rfl (by rfl) (fun w' hS => load_two (by rfl) (HA.two.to hS)) ?_; simp only [Act.put, List.setIfInBounds_toArray, List.set_cons_zero, List.set_cons_succ]
  refine plan_call rfl (by rfl) (fun K hK => ?_)
  go_simp
  refine (cmp_v (HA.to HB).zi (HBb.to HB).zi E2.out).mono ?_
  rintro e V ⟨rfl, bb⟩
  replace HB := HB.trans (bb.mono HB.size)
  refine hK.out _ _ HB ?_
  clear hK K bb
  refine plan_call rfl (by rfl) (fun K hK => ?_)
  go_simp
  refine (cmp_v (HBb.to HB).zi (HA.to HB).zi E3.out).mono ?_
  rintro e V ⟨rfl, bb⟩
  replace HB := HB.trans (bb.mono HB.size)
  refine hK.out _ _ HB ?_
  clear hK K bb
  refine plan_take (v := ?_) rfl (by rfl) ?_ ?_; rotate_left; (focus (intro w' _; go_simp; try with_reducible rfl)); simp only [Act.put, List.setIfInBounds_toArray, List.set_cons_zero, List.set_cons_succ]
  refine plan_take (v := ?_) rfl (by rfl) ?_ ?_; rotate_left; (focus (intro w' _; go_simp; try with_reducible rfl)); simp only [Act.put, List.setIfInBounds_toArray, List.set_cons_zero, List.set_cons_succ]
  refine plan_take (v := ?_) rfl (by rfl) ?_ ?_; rotate_left; (focus (intro w' _; go_simp; try with_reducible rfl)); simp only [Act.put, List.setIfInBounds_toArray, List.set_cons_zero, List.set_cons_succ]
  refine plan_take (v := ?_) rfl (by rfl) ?_ ?_; rotate_left; (focus (intro w' _; go_simp; try with_reducible rfl)); simp only [Act.put, List.setIfInBounds_toArray, List.set_cons_zero, List.set_cons_succ]
  refine plan_take rfl (by rfl) (fun w' hS => load_two (by rfl) (HA.two.to hS)) ?_; simp only [Act.put, List.setIfInBounds_toArray, List.set_cons_zero, List.set_cons_succ]
  refine plan_take rfl (by rfl) (fun w' hS => load_two (by rfl) (HC.two.to hS)) ?_; simp only [Act.put, List.setIfInBounds_toArray, List.set_cons_zero, List.set_cons_succ]
  refine plan_take rfl (by rfl) (fun w' hS => load_two (by rfl) (C9.two.to hS)) ?_; simp only [Act.put, List.setIfInBounds_toArray, List.set_cons_zero, List.set_cons_succ]
  refine plan_take rfl (by rfl) (fun w' hS => load_two (by rfl) (HA.two.to hS)) ?_; simp only [Act.put, List.setIfInBounds_toArray, List.set_cons_zero, List.set_cons_succ]
  refine plan_take rfl (by rfl) (fun w' hS => load_two (by rfl) (HBb.two.to hS)) ?_; simp only [Act.put, List.setIfInBounds_toArray, List.set_cons_zero, List.set_cons_succ]
  refine plan_call rfl (by rfl) (fun K hK => ?_)
  go_simp
  refine (add_z (HA.to HB).zi (HC.to HB).zi).mono ?_
  rintro e V ⟨ur104, vr104, rfl, r104, bb⟩
  replace HB := HB.trans (bb.mono HB.size)
  refine hK.out _ _ HB ?_
  clear hK K bb
  refine plan_call rfl (by rfl) (fun K hK => ?_)
  go_simp
  refine (cmp_v (r104.zi s104 (by decide)) ((C9.to HB).zc.zi s9 (by decide)) E4.out).mono ?_
  rintro e V ⟨rfl, bb⟩
  replace HB := HB.trans (bb.mono HB.size)
  clear r104
  refine hK.out _ _ HB ?_
  clear hK K bb
  refine plan_call rfl (by rfl) (fun K hK => ?_)
  go_simp
  refine (cmp_v (HA.to HB).zi (HBb.to HB).zi E2.out).mono ?_
  rintro e V ⟨rfl, bb⟩
  replace HB := HB.trans (bb.mono HB.size)
  refine hK.out _ _ HB ?_
  clear hK K bb
  refine plan_take (v := ?_) rfl (by rfl) ?_ ?_; rotate_left; (focus (intro w' _; go_simp; try with_reducible rfl)); simp only [Act.put, List.setIfInBounds_toArray, List.set_cons_zero, List.set_cons_succ]
  refine plan_take (v := ?_) rfl (by rfl) ?_ ?_; rotate_left; (focus (intro w' _; go_simp; try with_reducible rfl)); simp only [Act.put, List.setIfInBounds_toArray, List.set_cons_zero, List.set_cons_succ]
  refine plan_take (v := ?_) rfl (by rfl) ?_ ?_; rotate_left; (focus (intro w' _; go_simp; try with_reducible rfl)); simp only [Act.put, List.setIfInBounds_toArray, List.set_cons_zero, List.set_cons_succ]
  refine plan_take (v := ?_) rfl (by rfl) ?_ ?_; rotate_left; (focus (intro w' _; go_simp; try with_reducible rfl)); simp only [Act.put, List.setIfInBounds_toArray, List.set_cons_zero, List.set_cons_succ]
  refine plan_take rfl (by rfl) (fun w' hS => load_two (by rfl) (C12.two.to hS)) ?_; simp only [Act.put, List.setIfInBounds_toArray, List.set_cons_zero, List.set_cons_succ]
  refine plan_take rfl (by rfl) (fun w' hS => load_two (by rfl) (HBb.two.to hS)) ?_; simp only [Act.put, List.setIfInBounds_toArray, List.set_cons_zero, List.set_cons_succ]
  refine plan_take rfl (by rfl) (fun w' hS => load_two (by rfl) (HA.two.to hS)) ?_; simp only [Act.put, List.setIfInBounds_toArray, List.set_cons_zero, List.set_cons_succ]
  refine plan_take rfl (by rfl) (fun w' hS => load_two (by rfl) (HA.two.to hS)) ?_; simp only [Act.put, List.setIfInBounds_toArray, List.set_cons_zero, List.set_cons_succ]
  refine plan_call rfl (by rfl) (fun K hK => ?_)
  go_simp
  refine (add_z ((C12.to HB).zc.zi s12 (by decide)) (HBb.to HB).zi).mono ?_
  rintro e V ⟨ur116, vr116, rfl, r116, bb⟩
  replace HB := HB.trans (bb.mono HB.size)
  refine hK.out _ _ HB ?_
  clear hK K bb
  refine plan_call rfl (by rfl) (fun K hK => ?_)
  go_simp
  refine (abs_z (HA.to HB).zi).mono ?_
  rintro e V ⟨ur118, vr118, rfl, r118, bb⟩
  replace HB := HB.trans (bb.mono HB.size)
  replace r116 := r116.to bb
  refine hK.out _ _ HB ?_
  clear hK K bb
  refine plan_call rfl (by rfl) (fun K hK => ?_)
  go_simp
  refine (same_v r116 r118 E5.out).mono ?_
  rintro e V ⟨rfl, bb⟩
  replace HB := HB.trans (bb.mono HB.size)
  clear r116
  clear r118
  refine hK.out _ _ HB ?_
  clear hK K bb
  refine plan_call rfl (by rfl) (fun K hK => ?_)
  go_simp
  refine (sign_v (HA.to HB).zi E6.out).mono ?_
  rintro e V ⟨rfl, bb⟩
  replace HB := HB.trans (bb.mono HB.size)
  refine hK.out _ _ HB ?_
  clear hK K bb
  refine plan_take (v := ?_) rfl (by rfl) ?_ ?_; rotate_left; (focus (intro w' _; go_simp; try with_reducible rfl)); simp only [Act.put, List.setIfInBounds_toArray, List.set_cons_zero, List.set_cons_succ]
  refine plan_take (v := ?_) rfl (by rfl) ?_ ?_; rotate_left; (focus (intro w' _; go_simp; try with_reducible rfl)); simp only [Act.put, List.setIfInBounds_toArray, List.set_cons_zero, List.set_cons_succ]
  refine plan_take (v := ?_) rfl (by rfl) ?_ ?_; rotate_left; (focus (intro w' _; go_simp; try with_reducible rfl)); simp only [Act.put, List.setIfInBounds_toArray, List.set_cons_zero, List.set_cons_succ]
  refine plan_take (v := ?_) rfl (by rfl) ?_ ?_; rotate_left; (focus (intro w' _; go_simp; try with_reducible rfl)); simp only [Act.put, List.setIfInBounds_toArray, List.set_cons_zero, List.set_cons_succ]
  refine plan_take rfl (by rfl) (fun w' hS => load_two (by rfl) (C12.two.to hS)) ?_; simp only [Act.put, List.setIfInBounds_toArray, List.set_cons_zero, List.set_cons_succ]
  refine plan_call rfl (by rfl) (fun K hK => ?_)
  go_simp
  refine (isCan_c (C12.to HB).zc s12 (by decide)).mono ?_
  rintro e V ⟨rfl, bb⟩
  replace HB := HB.trans (bb.mono HB.size)
  refine hK.out _ _ HB ?_
  clear hK K bb
  refine plan_take (v := ?_) rfl (by rfl) ?_ ?_; rotate_left; (focus (intro w' _; go_simp; try with_reducible rfl)); simp only [Act.put, List.setIfInBounds_toArray, List.set_cons_zero, List.set_cons_succ]
  refine plan_take (v := ?_) rfl (by rfl) ?_ ?_; rotate_left; (focus (intro w' _; go_simp; try with_reducible rfl)); simp only [Act.put, List.setIfInBounds_toArray, List.set_cons_zero, List.set_cons_succ]
  refine plan_take rfl (by rfl) (fun w' hS => load_two (by rfl) (C10.two.to hS)) ?_; simp only [Act.put, List.setIfInBounds_toArray, List.set_cons_zero, List.set_cons_succ]
  refine plan_call rfl (by rfl) (fun K hK => ?_)
  go_simp
  refine (isCan_c (C10.to HB).zc s10 (by decide)).mono ?_
  rintro e V ⟨rfl, bb⟩
  replace HB := HB.trans (bb.mono HB.size)
  refine hK.out _ _ HB ?_
  clear hK K bb
  refine plan_take (v := ?_) rfl (by rfl) ?_ ?_; rotate_left; (focus (intro w' _; go_simp; try with_reducible rfl)); simp only [Act.put, List.setIfInBounds_toArray, List.set_cons_zero, List.set_cons_succ]
  refine plan_take (v := ?_) rfl (by rfl) ?_ ?_; rotate_left; (focus (intro w' _; go_simp; try with_reducible rfl)); simp only [Act.put, List.setIfInBounds_toArray, List.set_cons_zero, List.set_cons_succ]
  refine plan_call rfl (by rfl) (fun K hK => ?_)
  go_simp
  refine (alive_any _).mono ?_
  rintro e V ⟨rfl, bb⟩
  replace HB := HB.trans (bb.mono HB.size)
  refine hK.out _ _ HB ?_
  clear hK K bb
  refine plan_take (v := ?_) rfl (by rfl) ?_ ?_; rotate_left; (focus (intro w' _; go_simp; try with_reducible rfl)); simp only [Act.put, List.setIfInBounds_toArray, List.set_cons_zero, List.set_cons_succ]
  refine plan_take (v := ?_) rfl (by rfl) ?_ ?_; rotate_left; (focus (intro w' _; go_simp; try with_reducible rfl)); simp only [Act.put, List.setIfInBounds_toArray, List.set_cons_zero, List.set_cons_succ]
  refine plan_done ?_
  have HE := Lib.hid (HB0.out.trans (HB.mono HB0.out.size))
  clear HB
  go_wp2
  go_ret
  exact ⟨by rfl, HE.out⟩
end Go.Proofs.Ytlnjnoingiohjaa
