/- Parts: Match. -/
import Derived.Test.YtoaghihhobggoaaDv7
import Derived.Test.YtoaghihhobggoaaDv12
import Derived.Test.YtoaghihhobggoaaDv13
import Derived.Test.YtoaghihhobggoaaDv14
set_option linter.unusedVariables false
set_option linter.unusedSimpArgs false

namespace Go.Proofs.Ytoaghihhobggoaa
open Go.RowKit Go.Shelf

/-- A variable that holds this flag and these words. -/
structure Xb (W : World) (g : Nat) (x y : Value) (n : Bool) (xs : List Nat) : Prop where
  two : Two W g x y
  zx : Zx W x y n xs
theorem Xb.to {W V : World} {g : Nat} {x y : Value} {n : Bool} {xs : List Nat} (h : Xb W g x y n xs) (hb : Below W.heap.size W V) : Xb V g x y n xs := ⟨h.two.to hb, h.zx.to hb⟩
theorem Xb.zl {W V : World} {g : Nat} {x y : Value} {n : Bool} {xs : List Nat} (h : Xb W g x y n xs) (hb : Below W.heap.size W V) (hl : xs.length ≤ 12) : Zl V x y (zof n (val b32 xs)) := (h.zx.to hb).zl (by omega)
theorem Zx.kp {g : Nat} {w V : World} {x y : Value} {n : Bool} {xs : List Nat} (h : Zx w x y n xs) (kp : Kept g w V) : Zx V x y n xs := by
  obtain ⟨A, c, rfl, rfl, h3⟩ := h
  exact ⟨A, c, rfl, rfl, kp.arg h3⟩
theorem own_x {w : World} {x y : Value} {n : Bool} {xs : List Nat} (h : Zx w x y n xs) (hl : xs.length ≤ 12) : Calls Try.prog 11 #[.agg #[x, y]] w fun e w' => ∃ x y, e = .returned (.agg #[x, y]) ∧ Zx w' x y n xs ∧ Below w.heap.size w w' := by
  obtain ⟨A, c, rfl, rfl, h3⟩ := h
  exact own_any n h3 (by omega)

theorem canon_same (n : Bool) {xs : List Nat} (hd : Dg b32 xs) : decide (n = decide (zof n (val b32 xs) < 0) ∧ xs = dig b32 (zof n (val b32 xs)).natAbs) = canon n xs := by
  rw [zof_abs]
  unfold canon
  split
  · rename_i h
    obtain rfl : xs = [] := List.eq_nil_of_length_eq_zero h
    cases n <;> simp [val, zof, dig_zero]
  · rename_i h
    rw [decide_eq_decide]
    constructor
    · rintro ⟨_, h2⟩
      rw [h2] at h ⊢
      exact dig_last b32_one h
    · intro h2
      have ht : trimN xs = xs.length := by
        rcases List.eq_nil_or_concat xs with h3 | ⟨ys, d, h3⟩
        · rw [h3] at h; exact absurd rfl h
        · rw [List.concat_eq_append] at h3
          rw [h3] at h2 ⊢
          simp at h2
          rw [trimN_snoc _ _ h2]; simp
      have hx : xs = dig b32 (val b32 xs) := by
        rw [← trimL_dig b32_one hd, trimL, ht, List.take_length]
      have hv : val b32 xs ≠ 0 := fun e => h (by rw [hx, e]; rfl)
      exact ⟨(zof_neg n hv).symm, hx⟩

theorem same_l {w : World} {x y x' y' : Value} {n : Bool} {xs : List Nat} (h : Zx w x y n xs) (h' : Zc w x' y' (zof n (val b32 xs))) : Calls Try.prog 14 #[.agg #[x, y], .agg #[x', y']] w fun e w' => e = .returned (.bool (canon n xs)) ∧ Below w.heap.size w w' := by
  obtain ⟨A, c, rfl, rfl, r⟩ := h
  obtain ⟨A', c', rfl, rfl, k1, k2, k3⟩ := h'
  have h := same_any n (decide (zof n (val b32 xs) < 0)) r.rd k1 r.le r.cap k2 k3
  rw [canon_same n r.dg] at h
  exact h
theorem isCan_x {w : World} {x y : Value} {n : Bool} {xs : List Nat} (h : Zx w x y n xs) : Calls Try.prog 17 #[.agg #[x, y]] w fun e w' => e = .returned (.bool (canon n xs)) ∧ Below w.heap.size w w' := by
  obtain ⟨A, c, rfl, rfl, r⟩ := h
  exact isCanonical_any n r
theorem from_z (v : Int) (h1 : -9223372036854775808 ≤ v) (h2 : v ≤ 9223372036854775807) (w : World) : Calls Try.prog 15 #[.int .i64 v] w (ZR w v) :=
  (fromInt64_any v h1 h2 w).mono fun _ _ h => h.zr

set_option maxRecDepth 100000 in
set_option maxHeartbeats 20000000 in
theorem matches_core {x1 y1 x2 y2 : Value} {n1 n2 : Bool} {xs1 xs2 : List Nat} {v : Int} {w : World} (h1 : Zx w x1 y1 n1 xs1) (h2 : Zx w x2 y2 n2 xs2) (k1 : xs1.length ≤ 12) (k2 : xs2.length ≤ 12) (v1 : -9223372036854775808 ≤ v) (v2 : v ≤ 9223372036854775807)
    (hL : ∀ (V : World) (g : Nat), V.cell? ⟨g, 1, none⟩ = some y1 → V.cell? ⟨g, 3, none⟩ = some y2 → Calls Try.prog 9 #[.slice (some ⟨g, 0, none⟩) 2 2] V fun e w' => e = .returned (.bool false) ∧ w' = V) :
    Calls Try.prog 3 #[.agg #[x1, y1], .agg #[x2, y2], .int .i64 v] w fun e w' => e = .returned (.bool true) ∧ Below w.heap.size w w' := by
  obtain ⟨W0, hW0⟩ : ∃ W0, W0 = ((w.alloc (.cells #[x1, y1] 24)).alloc (.cells #[x2, y2] 24)).alloc (.cells #[x1, y1, x2, y2] 24) := ⟨_, rfl⟩
  have hb : Below w.heap.size w W0 := by rw [hW0]; exact (((Below.refl _ _).alloc (Nat.le_refl _) _).alloc (by simp) _).alloc (by simp; omega) _
  have X3 : Xb W0 w.heap.size x1 y1 n1 xs1 := ⟨by rw [hW0]; exact ((Two.new w _ _ _).alloc _).alloc _, h1.to hb⟩
  have X4 : Xb W0 (w.heap.size + 1) x2 y2 n2 xs2 := ⟨by
    have h := Two.new (w.alloc (.cells #[x1, y1] 24)) x2 y2 24
    rw [World.size_alloc] at h
    rw [hW0]; exact h.alloc _, h2.to hb⟩
  have HL : Hid (Calls Try.prog 9 #[.slice (some ⟨w.heap.size + 1 + 1, 0, none⟩) 2 2] W0 fun e w' => e = .returned (.bool false) ∧ w' = W0) := by
    have h := World.alloc_heap_new ((w.alloc (.cells #[x1, y1] 24)).alloc (.cells #[x2, y2] 24)) (.cells #[x1, y1, x2, y2] 24)
    rw [World.size_alloc, World.size_alloc, ← hW0] at h
    exact hL W0 (w.heap.size + 1 + 1) (by simp [World.cell?, h]) (by simp [World.cell?, h])
  have HW0 := Lib.hid hW0
  have HB0 := Lib.hid hb
  clear hL h1 h2 hW0 hb
  go_enter Try.func3, Try.ntmps3
  go_wp2_with fail
  rw [← HW0.out]
  refine HL.out.mono ?_
  rintro e W1 ⟨rfl, rfl⟩
  clear HL
  go_wp2_with fail
  refine wp_cut (fun a' v' w' => ∃ g1 g2 x7 y7 x8 y8, v' = (((((a'.put (some 18) (.agg #[x1, y1])).put (some 19) (.agg #[x7, y7])).put (some 20) (.agg #[x2, y2])).put (some 21) (.agg #[x8, y8])).put (some 7) (.pointer (some ⟨g1, 0, none⟩))).put (some 8) (.pointer (some ⟨g2, 0, none⟩)) ∧ Xb w' g1 x7 y7 n1 xs1 ∧ Xb w' g2 x8 y8 n2 xs2 ∧ Below W1.heap.size W1 w') ?_ ?_
  · refine wp_region_planTo (S := fun w' => Below W1.heap.size W1 w') [(0, true), (2, true)] #[true, false, true, false, false, false, false, false] 6 (by kernel_rfl) (by kernel_rfl) (Below.refl _ _).drew ?_
    refine plan_take rfl (by rfl) (fun w' hS => load_two (by rfl) (X3.two.to hS)) ?_; simp only [Act.put, List.setIfInBounds_toArray, List.set_cons_zero, List.set_cons_succ]
    refine plan_take rfl (by rfl) (fun w' hS => load_two (by rfl) (X4.two.to hS)) ?_; simp only [Act.put, List.setIfInBounds_toArray, List.set_cons_zero, List.set_cons_succ]
    intro HB
    refine wpAnyH_ready (rs := [1, 4, 5]) (by kernel_rfl) (by simp) (ready_cons rfl (by rfl) (fun K hK => ?_) (ready_cons rfl (by rfl) (fun K hK => ?_) (ready_cons rfl (by rfl) (fun K hK => ?_) AllReadyH.nil)))
    · go_simp
      refine (own_x (X3.zx.to HB) k1).mono ?_
      rintro e V ⟨x7, y7, rfl, r1, bb⟩
      replace HB := HB.trans (bb.mono HB.size)
      refine hK.out _ _ HB ?_
      clear hK K bb
      refine wpAnyH_ready (rs := [3, 4, 5]) (by kernel_rfl) (by simp) (ready_cons rfl (by rfl) (fun K hK => ?_) (ready_cons rfl (by rfl) (fun K hK => ?_) (ready_cons rfl (by rfl) (fun K hK => ?_) AllReadyH.nil)))
      · go_simp
        refine (own_x (X4.zx.to HB) k2).mono ?_
        rintro e V ⟨x8, y8, rfl, r2, bb⟩
        replace HB := HB.trans (bb.mono HB.size)
        replace r1 := r1.to bb
        refine hK.out _ _ HB ?_
        clear hK K bb
        refine wpAnyH_ready (rs := [4, 5]) (by kernel_rfl) (by simp) (ready_cons rfl (by rfl) (fun K hK => ?_) (ready_cons rfl (by rfl) (fun K hK => ?_) AllReadyH.nil))
        · refine wp_alloc_two (fun g1 V t1 bb hg => ?_)
          have b1 := Nat.le_trans HB.size hg
          replace HB := HB.trans (bb.mono HB.size)
          replace r1 := r1.to bb
          replace r2 := r2.to bb
          refine hK.out _ _ HB ?_
          clear hK K bb hg
          simp only [Act.put, List.setIfInBounds_toArray, List.set_cons_zero, List.set_cons_succ]
          refine wpAnyH_ready (rs := [5]) (by kernel_rfl) (by simp) (ready_cons rfl (by rfl) (fun K hK => ?_) AllReadyH.nil)
          · refine wp_alloc_two (fun g2 V t2 bb hg => ?_)
            have b2 := Nat.le_trans HB.size hg
            replace HB := HB.trans (bb.mono HB.size)
            have ne12 : g1 ≠ g2 := Nat.ne_of_lt (Nat.lt_of_lt_of_le t1.lt hg)
            replace t1 := t1.to bb
            replace r1 := r1.to bb
            replace r2 := r2.to bb
            refine hK.out _ _ HB ?_
            clear hK K bb hg
            simp only [Act.put, List.setIfInBounds_toArray, List.set_cons_zero, List.set_cons_succ]
            refine wpAnyH_ready (rs := [6]) (by kernel_rfl) (by simp) (ready_cons rfl (by rfl) (fun K hK => ?_) AllReadyH.nil)
            · refine wp_store_two (by rfl) (by rfl) t1 Fs.nil r1.fs (fun V u kp => ?_)
              replace t2 := kp.two _ _ _ (Ne.symm ne12) t2
              replace r1 := r1.kp kp
              replace r2 := r2.kp kp
              replace HB := kp.bel _ _ HB b1
              clear t1
              have t1 := u
              refine hK.out _ _ HB ?_
              clear hK K kp u
              simp only [Act.put, List.setIfInBounds_toArray, List.set_cons_zero, List.set_cons_succ]
              refine wpAnyH_ready (rs := [7]) (by kernel_rfl) (by simp) (ready_cons rfl (by rfl) (fun K hK => ?_) AllReadyH.nil)
              · refine wp_store_two (by rfl) (by rfl) t2 Fs.nil r2.fs (fun V u kp => ?_)
                replace t1 := kp.two _ _ _ ne12 t1
                replace r1 := r1.kp kp
                replace r2 := r2.kp kp
                replace HB := kp.bel _ _ HB b2
                clear t2
                have t2 := u
                refine hK.out _ _ HB ?_
                clear hK K kp u
                simp only [Act.put, List.setIfInBounds_toArray, List.set_cons_zero, List.set_cons_succ]
                exact wpAnyH_done (by kernel_rfl) ⟨rfl, g1, g2, x7, y7, x8, y8, by simp only [Act.put, List.setIfInBounds_toArray, List.set_cons_zero, List.set_cons_succ], ⟨t1, r1⟩, ⟨t2, r2⟩, HB⟩ _
        · refine wp_alloc_two (fun g2 V t2 bb hg => ?_)
          have b2 := Nat.le_trans HB.size hg
          replace HB := HB.trans (bb.mono HB.size)
          replace r1 := r1.to bb
          replace r2 := r2.to bb
          refine hK.out _ _ HB ?_
          clear hK K bb hg
          simp only [Act.put, List.setIfInBounds_toArray, List.set_cons_zero, List.set_cons_succ]
          refine wpAnyH_ready (rs := [4]) (by kernel_rfl) (by simp) (ready_cons rfl (by rfl) (fun K hK => ?_) AllReadyH.nil)
          · refine wp_alloc_two (fun g1 V t1 bb hg => ?_)
            have b1 := Nat.le_trans HB.size hg
            replace HB := HB.trans (bb.mono HB.size)
            have ne12 : g1 ≠ g2 := Nat.ne_of_gt (Nat.lt_of_lt_of_le t2.lt hg)
            replace t2 := t2.to bb
            replace r1 := r1.to bb
            replace r2 := r2.to bb
            refine hK.out _ _ HB ?_
            clear hK K bb hg
            simp only [Act.put, List.setIfInBounds_toArray, List.set_cons_zero, List.set_cons_succ]
            refine wpAnyH_ready (rs := [6]) (by kernel_rfl) (by simp) (ready_cons rfl (by rfl) (fun K hK => ?_) AllReadyH.nil)
            · refine wp_store_two (by rfl) (by rfl) t1 Fs.nil r1.fs (fun V u kp => ?_)
              replace t2 := kp.two _ _ _ (Ne.symm ne12) t2
              replace r1 := r1.kp kp
              replace r2 := r2.kp kp
              replace HB := kp.bel _ _ HB b1
              clear t1
              have t1 := u
              refine hK.out _ _ HB ?_
              clear hK K kp u
              simp only [Act.put, List.setIfInBounds_toArray, List.set_cons_zero, List.set_cons_succ]
              refine wpAnyH_ready (rs := [7]) (by kernel_rfl) (by simp) (ready_cons rfl (by rfl) (fun K hK => ?_) AllReadyH.nil)
              · refine wp_store_two (by rfl) (by rfl) t2 Fs.nil r2.fs (fun V u kp => ?_)
                replace t1 := kp.two _ _ _ ne12 t1
                replace r1 := r1.kp kp
                replace r2 := r2.kp kp
                replace HB := kp.bel _ _ HB b2
                clear t2
                have t2 := u
                refine hK.out _ _ HB ?_
                clear hK K kp u
                simp only [Act.put, List.setIfInBounds_toArray, List.set_cons_zero, List.set_cons_succ]
                exact wpAnyH_done (by kernel_rfl) ⟨rfl, g1, g2, x7, y7, x8, y8, by simp only [Act.put, List.setIfInBounds_toArray, List.set_cons_zero, List.set_cons_succ], ⟨t1, r1⟩, ⟨t2, r2⟩, HB⟩ _
      · refine wp_alloc_two (fun g1 V t1 bb hg => ?_)
        have b1 := Nat.le_trans HB.size hg
        replace HB := HB.trans (bb.mono HB.size)
        replace r1 := r1.to bb
        refine hK.out _ _ HB ?_
        clear hK K bb hg
        simp only [Act.put, List.setIfInBounds_toArray, List.set_cons_zero, List.set_cons_succ]
        refine wpAnyH_ready (rs := [3, 5]) (by kernel_rfl) (by simp) (ready_cons rfl (by rfl) (fun K hK => ?_) (ready_cons rfl (by rfl) (fun K hK => ?_) AllReadyH.nil))
        · go_simp
          refine (own_x (X4.zx.to HB) k2).mono ?_
          rintro e V ⟨x8, y8, rfl, r2, bb⟩
          replace HB := HB.trans (bb.mono HB.size)
          replace t1 := t1.to bb
          replace r1 := r1.to bb
          refine hK.out _ _ HB ?_
          clear hK K bb
          refine wpAnyH_ready (rs := [5]) (by kernel_rfl) (by simp) (ready_cons rfl (by rfl) (fun K hK => ?_) AllReadyH.nil)
          · refine wp_alloc_two (fun g2 V t2 bb hg => ?_)
            have b2 := Nat.le_trans HB.size hg
            replace HB := HB.trans (bb.mono HB.size)
            have ne12 : g1 ≠ g2 := Nat.ne_of_lt (Nat.lt_of_lt_of_le t1.lt hg)
            replace t1 := t1.to bb
            replace r1 := r1.to bb
            replace r2 := r2.to bb
            refine hK.out _ _ HB ?_
            clear hK K bb hg
            simp only [Act.put, List.setIfInBounds_toArray, List.set_cons_zero, List.set_cons_succ]
            refine wpAnyH_ready (rs := [6]) (by kernel_rfl) (by simp) (ready_cons rfl (by rfl) (fun K hK => ?_) AllReadyH.nil)
            · refine wp_store_two (by rfl) (by rfl) t1 Fs.nil r1.fs (fun V u kp => ?_)
              replace t2 := kp.two _ _ _ (Ne.symm ne12) t2
              replace r1 := r1.kp kp
              replace r2 := r2.kp kp
              replace HB := kp.bel _ _ HB b1
              clear t1
              have t1 := u
              refine hK.out _ _ HB ?_
              clear hK K kp u
              simp only [Act.put, List.setIfInBounds_toArray, List.set_cons_zero, List.set_cons_succ]
              refine wpAnyH_ready (rs := [7]) (by kernel_rfl) (by simp) (ready_cons rfl (by rfl) (fun K hK => ?_) AllReadyH.nil)
              · refine wp_store_two (by rfl) (by rfl) t2 Fs.nil r2.fs (fun V u kp => ?_)
                replace t1 := kp.two _ _ _ ne12 t1
                replace r1 := r1.kp kp
                replace r2 := r2.kp kp
                replace HB := kp.bel _ _ HB b2
                clear t2
                have t2 := u
                refine hK.out _ _ HB ?_
                clear hK K kp u
                simp only [Act.put, List.setIfInBounds_toArray, List.set_cons_zero, List.set_cons_succ]
                exact wpAnyH_done (by kernel_rfl) ⟨rfl, g1, g2, x7, y7, x8, y8, by simp only [Act.put, List.setIfInBounds_toArray, List.set_cons_zero, List.set_cons_succ], ⟨t1, r1⟩, ⟨t2, r2⟩, HB⟩ _
        · refine wp_alloc_two (fun g2 V t2 bb hg => ?_)
          have b2 := Nat.le_trans HB.size hg
          replace HB := HB.trans (bb.mono HB.size)
          have ne12 : g1 ≠ g2 := Nat.ne_of_lt (Nat.lt_of_lt_of_le t1.lt hg)
          replace t1 := t1.to bb
          replace r1 := r1.to bb
          refine hK.out _ _ HB ?_
          clear hK K bb hg
          simp only [Act.put, List.setIfInBounds_toArray, List.set_cons_zero, List.set_cons_succ]
          refine wpAnyH_ready (rs := [3]) (by kernel_rfl) (by simp) (ready_cons rfl (by rfl) (fun K hK => ?_) AllReadyH.nil)
          · go_simp
            refine (own_x (X4.zx.to HB) k2).mono ?_
            rintro e V ⟨x8, y8, rfl, r2, bb⟩
            replace HB := HB.trans (bb.mono HB.size)
            replace t1 := t1.to bb
            replace t2 := t2.to bb
            replace r1 := r1.to bb
            refine hK.out _ _ HB ?_
            clear hK K bb
            refine wpAnyH_ready (rs := [6]) (by kernel_rfl) (by simp) (ready_cons rfl (by rfl) (fun K hK => ?_) AllReadyH.nil)
            · refine wp_store_two (by rfl) (by rfl) t1 Fs.nil r1.fs (fun V u kp => ?_)
              replace t2 := kp.two _ _ _ (Ne.symm ne12) t2
              replace r1 := r1.kp kp
              replace r2 := r2.kp kp
              replace HB := kp.bel _ _ HB b1
              clear t1
              have t1 := u
              refine hK.out _ _ HB ?_
              clear hK K kp u
              simp only [Act.put, List.setIfInBounds_toArray, List.set_cons_zero, List.set_cons_succ]
              refine wpAnyH_ready (rs := [7]) (by kernel_rfl) (by simp) (ready_cons rfl (by rfl) (fun K hK => ?_) AllReadyH.nil)
              · refine wp_store_two (by rfl) (by rfl) t2 Fs.nil r2.fs (fun V u kp => ?_)
                replace t1 := kp.two _ _ _ ne12 t1
                replace r1 := r1.kp kp
                replace r2 := r2.kp kp
                replace HB := kp.bel _ _ HB b2
                clear t2
                have t2 := u
                refine hK.out _ _ HB ?_
                clear hK K kp u
                simp only [Act.put, List.setIfInBounds_toArray, List.set_cons_zero, List.set_cons_succ]
                exact wpAnyH_done (by kernel_rfl) ⟨rfl, g1, g2, x7, y7, x8, y8, by simp only [Act.put, List.setIfInBounds_toArray, List.set_cons_zero, List.set_cons_succ], ⟨t1, r1⟩, ⟨t2, r2⟩, HB⟩ _
      · refine wp_alloc_two (fun g2 V t2 bb hg => ?_)
        have b2 := Nat.le_trans HB.size hg
        replace HB := HB.trans (bb.mono HB.size)
        replace r1 := r1.to bb
        refine hK.out _ _ HB ?_
        clear hK K bb hg
        simp only [Act.put, List.setIfInBounds_toArray, List.set_cons_zero, List.set_cons_succ]
        refine wpAnyH_ready (rs := [3, 4]) (by kernel_rfl) (by simp) (ready_cons rfl (by rfl) (fun K hK => ?_) (ready_cons rfl (by rfl) (fun K hK => ?_) AllReadyH.nil))
        · go_simp
          refine (own_x (X4.zx.to HB) k2).mono ?_
          rintro e V ⟨x8, y8, rfl, r2, bb⟩
          replace HB := HB.trans (bb.mono HB.size)
          replace t2 := t2.to bb
          replace r1 := r1.to bb
          refine hK.out _ _ HB ?_
          clear hK K bb
          refine wpAnyH_ready (rs := [4]) (by kernel_rfl) (by simp) (ready_cons rfl (by rfl) (fun K hK => ?_) AllReadyH.nil)
          · refine wp_alloc_two (fun g1 V t1 bb hg => ?_)
            have b1 := Nat.le_trans HB.size hg
            replace HB := HB.trans (bb.mono HB.size)
            have ne12 : g1 ≠ g2 := Nat.ne_of_gt (Nat.lt_of_lt_of_le t2.lt hg)
            replace t2 := t2.to bb
            replace r1 := r1.to bb
            replace r2 := r2.to bb
            refine hK.out _ _ HB ?_
            clear hK K bb hg
            simp only [Act.put, List.setIfInBounds_toArray, List.set_cons_zero, List.set_cons_succ]
            refine wpAnyH_ready (rs := [6]) (by kernel_rfl) (by simp) (ready_cons rfl (by rfl) (fun K hK => ?_) AllReadyH.nil)
            · refine wp_store_two (by rfl) (by rfl) t1 Fs.nil r1.fs (fun V u kp => ?_)
              replace t2 := kp.two _ _ _ (Ne.symm ne12) t2
              replace r1 := r1.kp kp
              replace r2 := r2.kp kp
              replace HB := kp.bel _ _ HB b1
              clear t1
              have t1 := u
              refine hK.out _ _ HB ?_
              clear hK K kp u
              simp only [Act.put, List.setIfInBounds_toArray, List.set_cons_zero, List.set_cons_succ]
              refine wpAnyH_ready (rs := [7]) (by kernel_rfl) (by simp) (ready_cons rfl (by rfl) (fun K hK => ?_) AllReadyH.nil)
              · refine wp_store_two (by rfl) (by rfl) t2 Fs.nil r2.fs (fun V u kp => ?_)
                replace t1 := kp.two _ _ _ ne12 t1
                replace r1 := r1.kp kp
                replace r2 := r2.kp kp
                replace HB := kp.bel _ _ HB b2
                clear t2
                have t2 := u
                refine hK.out _ _ HB ?_
                clear hK K kp u
                simp only [Act.put, List.setIfInBounds_toArray, List.set_cons_zero, List.set_cons_succ]
                exact wpAnyH_done (by kernel_rfl) ⟨rfl, g1, g2, x7, y7, x8, y8, by simp only [Act.put, List.setIfInBounds_toArray, List.set_cons_zero, List.set_cons_succ], ⟨t1, r1⟩, ⟨t2, r2⟩, HB⟩ _
        · refine wp_alloc_two (fun g1 V t1 bb hg => ?_)
          have b1 := Nat.le_trans HB.size hg
          replace HB := HB.trans (bb.mono HB.size)
          have ne12 : g1 ≠ g2 := Nat.ne_of_gt (Nat.lt_of_lt_of_le t2.lt hg)
          replace t2 := t2.to bb
          replace r1 := r1.to bb
          refine hK.out _ _ HB ?_
          clear hK K bb hg
          simp only [Act.put, List.setIfInBounds_toArray, List.set_cons_zero, List.set_cons_succ]
          refine wpAnyH_ready (rs := [3]) (by kernel_rfl) (by simp) (ready_cons rfl (by rfl) (fun K hK => ?_) AllReadyH.nil)
          · go_simp
            refine (own_x (X4.zx.to HB) k2).mono ?_
            rintro e V ⟨x8, y8, rfl, r2, bb⟩
            replace HB := HB.trans (bb.mono HB.size)
            replace t1 := t1.to bb
            replace t2 := t2.to bb
            replace r1 := r1.to bb
            refine hK.out _ _ HB ?_
            clear hK K bb
            refine wpAnyH_ready (rs := [6]) (by kernel_rfl) (by simp) (ready_cons rfl (by rfl) (fun K hK => ?_) AllReadyH.nil)
            · refine wp_store_two (by rfl) (by rfl) t1 Fs.nil r1.fs (fun V u kp => ?_)
              replace t2 := kp.two _ _ _ (Ne.symm ne12) t2
              replace r1 := r1.kp kp
              replace r2 := r2.kp kp
              replace HB := kp.bel _ _ HB b1
              clear t1
              have t1 := u
              refine hK.out _ _ HB ?_
              clear hK K kp u
              simp only [Act.put, List.setIfInBounds_toArray, List.set_cons_zero, List.set_cons_succ]
              refine wpAnyH_ready (rs := [7]) (by kernel_rfl) (by simp) (ready_cons rfl (by rfl) (fun K hK => ?_) AllReadyH.nil)
              · refine wp_store_two (by rfl) (by rfl) t2 Fs.nil r2.fs (fun V u kp => ?_)
                replace t1 := kp.two _ _ _ ne12 t1
                replace r1 := r1.kp kp
                replace r2 := r2.kp kp
                replace HB := kp.bel _ _ HB b2
                clear t2
                have t2 := u
                refine hK.out _ _ HB ?_
                clear hK K kp u
                simp only [Act.put, List.setIfInBounds_toArray, List.set_cons_zero, List.set_cons_succ]
                exact wpAnyH_done (by kernel_rfl) ⟨rfl, g1, g2, x7, y7, x8, y8, by simp only [Act.put, List.setIfInBounds_toArray, List.set_cons_zero, List.set_cons_succ], ⟨t1, r1⟩, ⟨t2, r2⟩, HB⟩ _
    · refine wp_alloc_two (fun g1 V t1 bb hg => ?_)
      have b1 := Nat.le_trans HB.size hg
      replace HB := HB.trans (bb.mono HB.size)
      refine hK.out _ _ HB ?_
      clear hK K bb hg
      simp only [Act.put, List.setIfInBounds_toArray, List.set_cons_zero, List.set_cons_succ]
      refine wpAnyH_ready (rs := [1, 5]) (by kernel_rfl) (by simp) (ready_cons rfl (by rfl) (fun K hK => ?_) (ready_cons rfl (by rfl) (fun K hK => ?_) AllReadyH.nil))
      · go_simp
        refine (own_x (X3.zx.to HB) k1).mono ?_
        rintro e V ⟨x7, y7, rfl, r1, bb⟩
        replace HB := HB.trans (bb.mono HB.size)
        replace t1 := t1.to bb
        refine hK.out _ _ HB ?_
        clear hK K bb
        refine wpAnyH_ready (rs := [3, 5]) (by kernel_rfl) (by simp) (ready_cons rfl (by rfl) (fun K hK => ?_) (ready_cons rfl (by rfl) (fun K hK => ?_) AllReadyH.nil))
        · go_simp
          refine (own_x (X4.zx.to HB) k2).mono ?_
          rintro e V ⟨x8, y8, rfl, r2, bb⟩
          replace HB := HB.trans (bb.mono HB.size)
          replace t1 := t1.to bb
          replace r1 := r1.to bb
          refine hK.out _ _ HB ?_
          clear hK K bb
          refine wpAnyH_ready (rs := [5]) (by kernel_rfl) (by simp) (ready_cons rfl (by rfl) (fun K hK => ?_) AllReadyH.nil)
          · refine wp_alloc_two (fun g2 V t2 bb hg => ?_)
            have b2 := Nat.le_trans HB.size hg
            replace HB := HB.trans (bb.mono HB.size)
            have ne12 : g1 ≠ g2 := Nat.ne_of_lt (Nat.lt_of_lt_of_le t1.lt hg)
            replace t1 := t1.to bb
            replace r1 := r1.to bb
            replace r2 := r2.to bb
            refine hK.out _ _ HB ?_
            clear hK K bb hg
            simp only [Act.put, List.setIfInBounds_toArray, List.set_cons_zero, List.set_cons_succ]
            refine wpAnyH_ready (rs := [6]) (by kernel_rfl) (by simp) (ready_cons rfl (by rfl) (fun K hK => ?_) AllReadyH.nil)
            · refine wp_store_two (by rfl) (by rfl) t1 Fs.nil r1.fs (fun V u kp => ?_)
              replace t2 := kp.two _ _ _ (Ne.symm ne12) t2
              replace r1 := r1.kp kp
              replace r2 := r2.kp kp
              replace HB := kp.bel _ _ HB b1
              clear t1
              have t1 := u
              refine hK.out _ _ HB ?_
              clear hK K kp u
              simp only [Act.put, List.setIfInBounds_toArray, List.set_cons_zero, List.set_cons_succ]
              refine wpAnyH_ready (rs := [7]) (by kernel_rfl) (by simp) (ready_cons rfl (by rfl) (fun K hK => ?_) AllReadyH.nil)
              · refine wp_store_two (by rfl) (by rfl) t2 Fs.nil r2.fs (fun V u kp => ?_)
                replace t1 := kp.two _ _ _ ne12 t1
                replace r1 := r1.kp kp
                replace r2 := r2.kp kp
                replace HB := kp.bel _ _ HB b2
                clear t2
                have t2 := u
                refine hK.out _ _ HB ?_
                clear hK K kp u
                simp only [Act.put, List.setIfInBounds_toArray, List.set_cons_zero, List.set_cons_succ]
                exact wpAnyH_done (by kernel_rfl) ⟨rfl, g1, g2, x7, y7, x8, y8, by simp only [Act.put, List.setIfInBounds_toArray, List.set_cons_zero, List.set_cons_succ], ⟨t1, r1⟩, ⟨t2, r2⟩, HB⟩ _
        · refine wp_alloc_two (fun g2 V t2 bb hg => ?_)
          have b2 := Nat.le_trans HB.size hg
          replace HB := HB.trans (bb.mono HB.size)
          have ne12 : g1 ≠ g2 := Nat.ne_of_lt (Nat.lt_of_lt_of_le t1.lt hg)
          replace t1 := t1.to bb
          replace r1 := r1.to bb
          refine hK.out _ _ HB ?_
          clear hK K bb hg
          simp only [Act.put, List.setIfInBounds_toArray, List.set_cons_zero, List.set_cons_succ]
          refine wpAnyH_ready (rs := [3]) (by kernel_rfl) (by simp) (ready_cons rfl (by rfl) (fun K hK => ?_) AllReadyH.nil)
          · go_simp
            refine (own_x (X4.zx.to HB) k2).mono ?_
            rintro e V ⟨x8, y8, rfl, r2, bb⟩
            replace HB := HB.trans (bb.mono HB.size)
            replace t1 := t1.to bb
            replace t2 := t2.to bb
            replace r1 := r1.to bb
            refine hK.out _ _ HB ?_
            clear hK K bb
            refine wpAnyH_ready (rs := [6]) (by kernel_rfl) (by simp) (ready_cons rfl (by rfl) (fun K hK => ?_) AllReadyH.nil)
            · refine wp_store_two (by rfl) (by rfl) t1 Fs.nil r1.fs (fun V u kp => ?_)
              replace t2 := kp.two _ _ _ (Ne.symm ne12) t2
              replace r1 := r1.kp kp
              replace r2 := r2.kp kp
              replace HB := kp.bel _ _ HB b1
              clear t1
              have t1 := u
              refine hK.out _ _ HB ?_
              clear hK K kp u
              simp only [Act.put, List.setIfInBounds_toArray, List.set_cons_zero, List.set_cons_succ]
              refine wpAnyH_ready (rs := [7]) (by kernel_rfl) (by simp) (ready_cons rfl (by rfl) (fun K hK => ?_) AllReadyH.nil)
              · refine wp_store_two (by rfl) (by rfl) t2 Fs.nil r2.fs (fun V u kp => ?_)
                replace t1 := kp.two _ _ _ ne12 t1
                replace r1 := r1.kp kp
                replace r2 := r2.kp kp
                replace HB := kp.bel _ _ HB b2
                clear t2
                have t2 := u
                refine hK.out _ _ HB ?_
                clear hK K kp u
                simp only [Act.put, List.setIfInBounds_toArray, List.set_cons_zero, List.set_cons_succ]
                exact wpAnyH_done (by kernel_rfl) ⟨rfl, g1, g2, x7, y7, x8, y8, by simp only [Act.put, List.setIfInBounds_toArray, List.set_cons_zero, List.set_cons_succ], ⟨t1, r1⟩, ⟨t2, r2⟩, HB⟩ _
      · refine wp_alloc_two (fun g2 V t2 bb hg => ?_)
        have b2 := Nat.le_trans HB.size hg
        replace HB := HB.trans (bb.mono HB.size)
        have ne12 : g1 ≠ g2 := Nat.ne_of_lt (Nat.lt_of_lt_of_le t1.lt hg)
        replace t1 := t1.to bb
        refine hK.out _ _ HB ?_
        clear hK K bb hg
        simp only [Act.put, List.setIfInBounds_toArray, List.set_cons_zero, List.set_cons_succ]
        refine wpAnyH_ready (rs := [1]) (by kernel_rfl) (by simp) (ready_cons rfl (by rfl) (fun K hK => ?_) AllReadyH.nil)
        · go_simp
          refine (own_x (X3.zx.to HB) k1).mono ?_
          rintro e V ⟨x7, y7, rfl, r1, bb⟩
          replace HB := HB.trans (bb.mono HB.size)
          replace t1 := t1.to bb
          replace t2 := t2.to bb
          refine hK.out _ _ HB ?_
          clear hK K bb
          refine wpAnyH_ready (rs := [3]) (by kernel_rfl) (by simp) (ready_cons rfl (by rfl) (fun K hK => ?_) AllReadyH.nil)
          · go_simp
            refine (own_x (X4.zx.to HB) k2).mono ?_
            rintro e V ⟨x8, y8, rfl, r2, bb⟩
            replace HB := HB.trans (bb.mono HB.size)
            replace t1 := t1.to bb
            replace t2 := t2.to bb
            replace r1 := r1.to bb
            refine hK.out _ _ HB ?_
            clear hK K bb
            refine wpAnyH_ready (rs := [6]) (by kernel_rfl) (by simp) (ready_cons rfl (by rfl) (fun K hK => ?_) AllReadyH.nil)
            · refine wp_store_two (by rfl) (by rfl) t1 Fs.nil r1.fs (fun V u kp => ?_)
              replace t2 := kp.two _ _ _ (Ne.symm ne12) t2
              replace r1 := r1.kp kp
              replace r2 := r2.kp kp
              replace HB := kp.bel _ _ HB b1
              clear t1
              have t1 := u
              refine hK.out _ _ HB ?_
              clear hK K kp u
              simp only [Act.put, List.setIfInBounds_toArray, List.set_cons_zero, List.set_cons_succ]
              refine wpAnyH_ready (rs := [7]) (by kernel_rfl) (by simp) (ready_cons rfl (by rfl) (fun K hK => ?_) AllReadyH.nil)
              · refine wp_store_two (by rfl) (by rfl) t2 Fs.nil r2.fs (fun V u kp => ?_)
                replace t1 := kp.two _ _ _ ne12 t1
                replace r1 := r1.kp kp
                replace r2 := r2.kp kp
                replace HB := kp.bel _ _ HB b2
                clear t2
                have t2 := u
                refine hK.out _ _ HB ?_
                clear hK K kp u
                simp only [Act.put, List.setIfInBounds_toArray, List.set_cons_zero, List.set_cons_succ]
                exact wpAnyH_done (by kernel_rfl) ⟨rfl, g1, g2, x7, y7, x8, y8, by simp only [Act.put, List.setIfInBounds_toArray, List.set_cons_zero, List.set_cons_succ], ⟨t1, r1⟩, ⟨t2, r2⟩, HB⟩ _
    · refine wp_alloc_two (fun g2 V t2 bb hg => ?_)
      have b2 := Nat.le_trans HB.size hg
      replace HB := HB.trans (bb.mono HB.size)
      refine hK.out _ _ HB ?_
      clear hK K bb hg
      simp only [Act.put, List.setIfInBounds_toArray, List.set_cons_zero, List.set_cons_succ]
      refine wpAnyH_ready (rs := [1, 4]) (by kernel_rfl) (by simp) (ready_cons rfl (by rfl) (fun K hK => ?_) (ready_cons rfl (by rfl) (fun K hK => ?_) AllReadyH.nil))
      · go_simp
        refine (own_x (X3.zx.to HB) k1).mono ?_
        rintro e V ⟨x7, y7, rfl, r1, bb⟩
        replace HB := HB.trans (bb.mono HB.size)
        replace t2 := t2.to bb
        refine hK.out _ _ HB ?_
        clear hK K bb
        refine wpAnyH_ready (rs := [3, 4]) (by kernel_rfl) (by simp) (ready_cons rfl (by rfl) (fun K hK => ?_) (ready_cons rfl (by rfl) (fun K hK => ?_) AllReadyH.nil))
        · go_simp
          refine (own_x (X4.zx.to HB) k2).mono ?_
          rintro e V ⟨x8, y8, rfl, r2, bb⟩
          replace HB := HB.trans (bb.mono HB.size)
          replace t2 := t2.to bb
          replace r1 := r1.to bb
          refine hK.out _ _ HB ?_
          clear hK K bb
          refine wpAnyH_ready (rs := [4]) (by kernel_rfl) (by simp) (ready_cons rfl (by rfl) (fun K hK => ?_) AllReadyH.nil)
          · refine wp_alloc_two (fun g1 V t1 bb hg => ?_)
            have b1 := Nat.le_trans HB.size hg
            replace HB := HB.trans (bb.mono HB.size)
            have ne12 : g1 ≠ g2 := Nat.ne_of_gt (Nat.lt_of_lt_of_le t2.lt hg)
            replace t2 := t2.to bb
            replace r1 := r1.to bb
            replace r2 := r2.to bb
            refine hK.out _ _ HB ?_
            clear hK K bb hg
            simp only [Act.put, List.setIfInBounds_toArray, List.set_cons_zero, List.set_cons_succ]
            refine wpAnyH_ready (rs := [6]) (by kernel_rfl) (by simp) (ready_cons rfl (by rfl) (fun K hK => ?_) AllReadyH.nil)
            · refine wp_store_two (by rfl) (by rfl) t1 Fs.nil r1.fs (fun V u kp => ?_)
              replace t2 := kp.two _ _ _ (Ne.symm ne12) t2
              replace r1 := r1.kp kp
              replace r2 := r2.kp kp
              replace HB := kp.bel _ _ HB b1
              clear t1
              have t1 := u
              refine hK.out _ _ HB ?_
              clear hK K kp u
              simp only [Act.put, List.setIfInBounds_toArray, List.set_cons_zero, List.set_cons_succ]
              refine wpAnyH_ready (rs := [7]) (by kernel_rfl) (by simp) (ready_cons rfl (by rfl) (fun K hK => ?_) AllReadyH.nil)
              · refine wp_store_two (by rfl) (by rfl) t2 Fs.nil r2.fs (fun V u kp => ?_)
                replace t1 := kp.two _ _ _ ne12 t1
                replace r1 := r1.kp kp
                replace r2 := r2.kp kp
                replace HB := kp.bel _ _ HB b2
                clear t2
                have t2 := u
                refine hK.out _ _ HB ?_
                clear hK K kp u
                simp only [Act.put, List.setIfInBounds_toArray, List.set_cons_zero, List.set_cons_succ]
                exact wpAnyH_done (by kernel_rfl) ⟨rfl, g1, g2, x7, y7, x8, y8, by simp only [Act.put, List.setIfInBounds_toArray, List.set_cons_zero, List.set_cons_succ], ⟨t1, r1⟩, ⟨t2, r2⟩, HB⟩ _
        · refine wp_alloc_two (fun g1 V t1 bb hg => ?_)
          have b1 := Nat.le_trans HB.size hg
          replace HB := HB.trans (bb.mono HB.size)
          have ne12 : g1 ≠ g2 := Nat.ne_of_gt (Nat.lt_of_lt_of_le t2.lt hg)
          replace t2 := t2.to bb
          replace r1 := r1.to bb
          refine hK.out _ _ HB ?_
          clear hK K bb hg
          simp only [Act.put, List.setIfInBounds_toArray, List.set_cons_zero, List.set_cons_succ]
          refine wpAnyH_ready (rs := [3]) (by kernel_rfl) (by simp) (ready_cons rfl (by rfl) (fun K hK => ?_) AllReadyH.nil)
          · go_simp
            refine (own_x (X4.zx.to HB) k2).mono ?_
            rintro e V ⟨x8, y8, rfl, r2, bb⟩
            replace HB := HB.trans (bb.mono HB.size)
            replace t1 := t1.to bb
            replace t2 := t2.to bb
            replace r1 := r1.to bb
            refine hK.out _ _ HB ?_
            clear hK K bb
            refine wpAnyH_ready (rs := [6]) (by kernel_rfl) (by simp) (ready_cons rfl (by rfl) (fun K hK => ?_) AllReadyH.nil)
            · refine wp_store_two (by rfl) (by rfl) t1 Fs.nil r1.fs (fun V u kp => ?_)
              replace t2 := kp.two _ _ _ (Ne.symm ne12) t2
              replace r1 := r1.kp kp
              replace r2 := r2.kp kp
              replace HB := kp.bel _ _ HB b1
              clear t1
              have t1 := u
              refine hK.out _ _ HB ?_
              clear hK K kp u
              simp only [Act.put, List.setIfInBounds_toArray, List.set_cons_zero, List.set_cons_succ]
              refine wpAnyH_ready (rs := [7]) (by kernel_rfl) (by simp) (ready_cons rfl (by rfl) (fun K hK => ?_) AllReadyH.nil)
              · refine wp_store_two (by rfl) (by rfl) t2 Fs.nil r2.fs (fun V u kp => ?_)
                replace t1 := kp.two _ _ _ ne12 t1
                replace r1 := r1.kp kp
                replace r2 := r2.kp kp
                replace HB := kp.bel _ _ HB b2
                clear t2
                have t2 := u
                refine hK.out _ _ HB ?_
                clear hK K kp u
                simp only [Act.put, List.setIfInBounds_toArray, List.set_cons_zero, List.set_cons_succ]
                exact wpAnyH_done (by kernel_rfl) ⟨rfl, g1, g2, x7, y7, x8, y8, by simp only [Act.put, List.setIfInBounds_toArray, List.set_cons_zero, List.set_cons_succ], ⟨t1, r1⟩, ⟨t2, r2⟩, HB⟩ _
      · refine wp_alloc_two (fun g1 V t1 bb hg => ?_)
        have b1 := Nat.le_trans HB.size hg
        replace HB := HB.trans (bb.mono HB.size)
        have ne12 : g1 ≠ g2 := Nat.ne_of_gt (Nat.lt_of_lt_of_le t2.lt hg)
        replace t2 := t2.to bb
        refine hK.out _ _ HB ?_
        clear hK K bb hg
        simp only [Act.put, List.setIfInBounds_toArray, List.set_cons_zero, List.set_cons_succ]
        refine wpAnyH_ready (rs := [1]) (by kernel_rfl) (by simp) (ready_cons rfl (by rfl) (fun K hK => ?_) AllReadyH.nil)
        · go_simp
          refine (own_x (X3.zx.to HB) k1).mono ?_
          rintro e V ⟨x7, y7, rfl, r1, bb⟩
          replace HB := HB.trans (bb.mono HB.size)
          replace t1 := t1.to bb
          replace t2 := t2.to bb
          refine hK.out _ _ HB ?_
          clear hK K bb
          refine wpAnyH_ready (rs := [3]) (by kernel_rfl) (by simp) (ready_cons rfl (by rfl) (fun K hK => ?_) AllReadyH.nil)
          · go_simp
            refine (own_x (X4.zx.to HB) k2).mono ?_
            rintro e V ⟨x8, y8, rfl, r2, bb⟩
            replace HB := HB.trans (bb.mono HB.size)
            replace t1 := t1.to bb
            replace t2 := t2.to bb
            replace r1 := r1.to bb
            refine hK.out _ _ HB ?_
            clear hK K bb
            refine wpAnyH_ready (rs := [6]) (by kernel_rfl) (by simp) (ready_cons rfl (by rfl) (fun K hK => ?_) AllReadyH.nil)
            · refine wp_store_two (by rfl) (by rfl) t1 Fs.nil r1.fs (fun V u kp => ?_)
              replace t2 := kp.two _ _ _ (Ne.symm ne12) t2
              replace r1 := r1.kp kp
              replace r2 := r2.kp kp
              replace HB := kp.bel _ _ HB b1
              clear t1
              have t1 := u
              refine hK.out _ _ HB ?_
              clear hK K kp u
              simp only [Act.put, List.setIfInBounds_toArray, List.set_cons_zero, List.set_cons_succ]
              refine wpAnyH_ready (rs := [7]) (by kernel_rfl) (by simp) (ready_cons rfl (by rfl) (fun K hK => ?_) AllReadyH.nil)
              · refine wp_store_two (by rfl) (by rfl) t2 Fs.nil r2.fs (fun V u kp => ?_)
                replace t1 := kp.two _ _ _ ne12 t1
                replace r1 := r1.kp kp
                replace r2 := r2.kp kp
                replace HB := kp.bel _ _ HB b2
                clear t2
                have t2 := u
                refine hK.out _ _ HB ?_
                clear hK K kp u
                simp only [Act.put, List.setIfInBounds_toArray, List.set_cons_zero, List.set_cons_succ]
                exact wpAnyH_done (by kernel_rfl) ⟨rfl, g1, g2, x7, y7, x8, y8, by simp only [Act.put, List.setIfInBounds_toArray, List.set_cons_zero, List.set_cons_succ], ⟨t1, r1⟩, ⟨t2, r2⟩, HB⟩ _
  rintro v' W2 ⟨g7, g8, x7, y7, x8, y8, rfl, X7, X8, HB⟩
  simp only [Act.put, List.setIfInBounds_toArray, List.set_cons_zero, List.set_cons_succ]
  replace X3 := X3.to HB
  replace X4 := X4.to HB
  replace HB0 := Lib.hid (HB0.out.trans (HB.mono HB0.out.size))
  clear HB
  clear HW0
  have q1 := X7.two.c0
  have q2 := X7.two.c1
  have q3 := X3.two.c0
  have q4 := X3.two.c1
  go_wp2_with fail
  refine (int64_z (X7.zl (Below.refl _ _) k1).zi).mono ?_
  rintro e W3 ⟨rfl, HB⟩
  clear q1 q2 q3 q4
  replace X3 := X3.to HB
  replace X4 := X4.to HB
  replace X7 := X7.to HB
  replace X8 := X8.to HB
  replace HB0 := Lib.hid (HB0.out.trans (HB.mono HB0.out.size))
  clear HB
  have q3 := X3.two.c0
  have q4 := X3.two.c1
  go_wp2_with fail
  refine (rint_z (X3.zl (Below.refl _ _) k1)).mono ?_
  rintro e W4 ⟨rfl, HB⟩
  clear q3 q4
  replace X3 := X3.to HB
  replace X4 := X4.to HB
  replace X7 := X7.to HB
  replace X8 := X8.to HB
  replace HB0 := Lib.hid (HB0.out.trans (HB.mono HB0.out.size))
  clear HB
  obtain ⟨i64, hi64⟩ : ∃ i, i64v (zof n1 (val b32 xs1)) = i := ⟨_, rfl⟩
  obtain ⟨so, hso⟩ : ∃ i, inI (zof n1 (val b32 xs1)) = i := ⟨_, rfl⟩
  rw [hi64, hso]
  clear hi64 hso
  go_wp2_with fail
  refine wp_region_plan (S := fun w' => Below W4.heap.size W4 w') [(0, true), (1, true), (2, true), (3, true), (4, true), (5, true), (6, true), (7, true), (8, true), (9, true), (11, true), (10, false), (12, false), (13, false), (14, true), (15, true), (16, true), (17, true), (19, true), (20, true), (18, false), (21, false), (22, false), (23, true), (24, true)] (by kernel_rfl) (by kernel_rfl) (Below.refl _ _).drew ?_
  have HB := (Below.refl W4.heap.size W4).drew
  refine plan_take (v := ?_) rfl (by rfl) ?_ ?_; rotate_left; (focus (intro w' _; go_simp; try with_reducible rfl)); simp only [Act.put, List.setIfInBounds_toArray, List.set_cons_zero, List.set_cons_succ]
  refine plan_take (v := ?_) rfl (by rfl) ?_ ?_; rotate_left; (focus (intro w' _; go_simp; try with_reducible rfl)); simp only [Act.put, List.setIfInBounds_toArray, List.set_cons_zero, List.set_cons_succ]
  refine plan_take (v := ?_) rfl (by rfl) ?_ ?_; rotate_left; (focus (intro w' _; go_simp; try with_reducible rfl)); simp only [Act.put, List.setIfInBounds_toArray, List.set_cons_zero, List.set_cons_succ]
  refine plan_take (v := ?_) rfl (by rfl) ?_ ?_; rotate_left; (focus (intro w' _; go_simp; try with_reducible rfl)); simp only [Act.put, List.setIfInBounds_toArray, List.set_cons_zero, List.set_cons_succ]
  refine plan_take (v := ?_) rfl (by rfl) ?_ ?_; rotate_left; (focus (intro w' _; go_simp; try with_reducible rfl)); simp only [Act.put, List.setIfInBounds_toArray, List.set_cons_zero, List.set_cons_succ]
  refine plan_take (v := ?_) rfl (by rfl) ?_ ?_; rotate_left; (focus (intro w' _; go_simp; try with_reducible rfl)); simp only [Act.put, List.setIfInBounds_toArray, List.set_cons_zero, List.set_cons_succ]
  refine plan_take (v := ?_) rfl (by rfl) ?_ ?_; rotate_left; (focus (intro w' _; go_simp; try with_reducible rfl)); simp only [Act.put, List.setIfInBounds_toArray, List.set_cons_zero, List.set_cons_succ]
  refine plan_take (v := ?_) rfl (by rfl) ?_ ?_; rotate_left; (focus (intro w' _; go_simp; try with_reducible rfl)); simp only [Act.put, List.setIfInBounds_toArray, List.set_cons_zero, List.set_cons_succ]
  refine plan_take (v := ?_) rfl (by rfl) ?_ ?_; rotate_left; (focus (intro w' _; go_simp; try with_reducible rfl)); simp only [Act.put, List.setIfInBounds_toArray, List.set_cons_zero, List.set_cons_succ]
  refine plan_take (v := ?_) rfl (by rfl) ?_ ?_; rotate_left; (focus (intro w' _; go_simp; try with_reducible rfl)); simp only [Act.put, List.setIfInBounds_toArray, List.set_cons_zero, List.set_cons_succ]
  refine plan_take (v := ?_) rfl (by rfl) ?_ ?_; rotate_left; (focus (intro w' _; go_simp; try with_reducible rfl)); simp only [Act.put, List.setIfInBounds_toArray, List.set_cons_zero, List.set_cons_succ]
  refine plan_call rfl (by rfl) (fun K hK => ?_)
  go_simp
  refine (from_z v v1 v2 _).mono ?_
  rintro e V ⟨ura, vra, rfl, ra, bb⟩
  replace HB := HB.trans (bb.mono HB.size)
  refine hK.out _ _ HB ?_
  clear hK K bb
  refine plan_call rfl (by rfl) (fun K hK => ?_)
  go_simp
  refine (rfrom_z v v1 v2 _).mono ?_
  rintro e V ⟨urb, vrb, rfl, rb, bb⟩
  replace HB := HB.trans (bb.mono HB.size)
  replace ra := ra.to bb
  refine hK.out _ _ HB ?_
  clear hK K bb
  refine plan_call rfl (by rfl) (fun K hK => ?_)
  go_simp
  refine (same_t ra rb rfl).mono ?_
  rintro e V ⟨rfl, bb⟩
  replace HB := HB.trans (bb.mono HB.size)
  clear ra
  clear rb
  refine hK.out _ _ HB ?_
  clear hK K bb
  refine plan_take (v := ?_) rfl (by rfl) ?_ ?_; rotate_left; (focus (intro w' _; go_simp; try with_reducible rfl)); simp only [Act.put, List.setIfInBounds_toArray, List.set_cons_zero, List.set_cons_succ]
  refine plan_take (v := ?_) rfl (by rfl) ?_ ?_; rotate_left; (focus (intro w' _; go_simp; try with_reducible rfl)); simp only [Act.put, List.setIfInBounds_toArray, List.set_cons_zero, List.set_cons_succ]
  refine plan_take (v := ?_) rfl (by rfl) ?_ ?_; rotate_left; (focus (intro w' _; go_simp; try with_reducible rfl)); simp only [Act.put, List.setIfInBounds_toArray, List.set_cons_zero, List.set_cons_succ]
  refine plan_take rfl (by rfl) (fun w' hS => load_two (by rfl) (X7.two.to hS)) ?_; simp only [Act.put, List.setIfInBounds_toArray, List.set_cons_zero, List.set_cons_succ]
  refine plan_take rfl (by rfl) (fun w' hS => load_two (by rfl) (X3.two.to hS)) ?_; simp only [Act.put, List.setIfInBounds_toArray, List.set_cons_zero, List.set_cons_succ]
  refine plan_take rfl (by rfl) (fun w' hS => load_two (by rfl) (X3.two.to hS)) ?_; simp only [Act.put, List.setIfInBounds_toArray, List.set_cons_zero, List.set_cons_succ]
  refine plan_call rfl (by rfl) (fun K hK => ?_)
  go_simp
  refine (isCan_x (X7.zx.to HB)).mono ?_
  rintro e V ⟨rfl, bb⟩
  replace HB := HB.trans (bb.mono HB.size)
  refine hK.out _ _ HB ?_
  clear hK K bb
  refine plan_call rfl (by rfl) (fun K hK => ?_)
  go_simp
  refine (rleast_z (X3.zl HB k1)).mono ?_
  rintro e V ⟨urc, vrc, rfl, rc, bb⟩
  replace HB := HB.trans (bb.mono HB.size)
  refine hK.out _ _ HB ?_
  clear hK K bb
  refine plan_call rfl (by rfl) (fun K hK => ?_)
  go_simp
  refine (same_l (X3.zx.to HB) rc).mono ?_
  rintro e V ⟨rfl, bb⟩
  replace HB := HB.trans (bb.mono HB.size)
  clear rc
  refine hK.out _ _ HB ?_
  clear hK K bb
  refine plan_take (v := ?_) rfl (by rfl) ?_ ?_; rotate_left; (focus (intro w' _; go_simp; try with_reducible rfl)); simp only [Act.put, List.setIfInBounds_toArray, List.set_cons_zero, List.set_cons_succ]
  refine plan_take (v := ?_) rfl (by rfl) ?_ ?_; rotate_left; (focus (intro w' _; go_simp; try with_reducible rfl)); simp only [Act.put, List.setIfInBounds_toArray, List.set_cons_zero, List.set_cons_succ]
  refine plan_done ?_
  replace X3 := X3.to HB
  replace X4 := X4.to HB
  replace X7 := X7.to HB
  replace X8 := X8.to HB
  replace HB0 := Lib.hid (HB0.out.trans (HB.mono HB0.out.size))
  clear HB
  go_wp2_with fail
  refine wp_region_plan (S := fun w' => Below V.heap.size V w') [(0, true), (1, true), (3, true), (4, true), (2, false), (5, false), (6, false), (7, true), (8, true), (9, true), (10, true), (12, true), (13, true), (11, false), (14, false), (15, false), (16, true), (17, true), (18, true), (19, true), (20, true), (22, true), (23, true), (21, false), (24, false), (25, false), (26, true), (27, true)] (by kernel_rfl) (by kernel_rfl) (Below.refl _ _).drew ?_
  have HB := (Below.refl V.heap.size V).drew
  refine plan_take rfl (by rfl) (fun w' hS => load_two (by rfl) (X7.two.to hS)) ?_; simp only [Act.put, List.setIfInBounds_toArray, List.set_cons_zero, List.set_cons_succ]
  refine plan_take rfl (by rfl) (fun w' hS => load_two (by rfl) (X8.two.to hS)) ?_; simp only [Act.put, List.setIfInBounds_toArray, List.set_cons_zero, List.set_cons_succ]
  refine plan_take rfl (by rfl) (fun w' hS => load_two (by rfl) (X3.two.to hS)) ?_; simp only [Act.put, List.setIfInBounds_toArray, List.set_cons_zero, List.set_cons_succ]
  refine plan_take rfl (by rfl) (fun w' hS => load_two (by rfl) (X4.two.to hS)) ?_; simp only [Act.put, List.setIfInBounds_toArray, List.set_cons_zero, List.set_cons_succ]
  refine plan_call rfl (by rfl) (fun K hK => ?_)
  go_simp
  refine (add_z (X7.zl HB k1).zi (X8.zl HB k2).zi).mono ?_
  rintro e V ⟨ura, vra, rfl, ra, bb⟩
  replace HB := HB.trans (bb.mono HB.size)
  refine hK.out _ _ HB ?_
  clear hK K bb
  refine plan_call rfl (by rfl) (fun K hK => ?_)
  go_simp
  refine (radd_z (X3.zl HB k1) (X4.zl HB k2)).mono ?_
  rintro e V ⟨urb, vrb, rfl, rb, bb⟩
  replace HB := HB.trans (bb.mono HB.size)
  replace ra := ra.to bb
  refine hK.out _ _ HB ?_
  clear hK K bb
  refine plan_call rfl (by rfl) (fun K hK => ?_)
  go_simp
  refine (same_t ra rb rfl).mono ?_
  rintro e V ⟨rfl, bb⟩
  replace HB := HB.trans (bb.mono HB.size)
  clear ra
  clear rb
  refine hK.out _ _ HB ?_
  clear hK K bb
  refine plan_take (v := ?_) rfl (by rfl) ?_ ?_; rotate_left; (focus (intro w' _; go_simp; try with_reducible rfl)); simp only [Act.put, List.setIfInBounds_toArray, List.set_cons_zero, List.set_cons_succ]
  refine plan_take (v := ?_) rfl (by rfl) ?_ ?_; rotate_left; (focus (intro w' _; go_simp; try with_reducible rfl)); simp only [Act.put, List.setIfInBounds_toArray, List.set_cons_zero, List.set_cons_succ]
  refine plan_take rfl (by rfl) (fun w' hS => load_two (by rfl) (X7.two.to hS)) ?_; simp only [Act.put, List.setIfInBounds_toArray, List.set_cons_zero, List.set_cons_succ]
  refine plan_take rfl (by rfl) (fun w' hS => load_two (by rfl) (X8.two.to hS)) ?_; simp only [Act.put, List.setIfInBounds_toArray, List.set_cons_zero, List.set_cons_succ]
  refine plan_take rfl (by rfl) (fun w' hS => load_two (by rfl) (X3.two.to hS)) ?_; simp only [Act.put, List.setIfInBounds_toArray, List.set_cons_zero, List.set_cons_succ]
  refine plan_take rfl (by rfl) (fun w' hS => load_two (by rfl) (X4.two.to hS)) ?_; simp only [Act.put, List.setIfInBounds_toArray, List.set_cons_zero, List.set_cons_succ]
  refine plan_call rfl (by rfl) (fun K hK => ?_)
  go_simp
  refine (sub_z (X7.zl HB k1).zi (X8.zl HB k2).zi).mono ?_
  rintro e V ⟨ura, vra, rfl, ra, bb⟩
  replace HB := HB.trans (bb.mono HB.size)
  refine hK.out _ _ HB ?_
  clear hK K bb
  refine plan_call rfl (by rfl) (fun K hK => ?_)
  go_simp
  refine (rsub_z (X3.zl HB k1) (X4.zl HB k2)).mono ?_
  rintro e V ⟨urb, vrb, rfl, rb, bb⟩
  replace HB := HB.trans (bb.mono HB.size)
  replace ra := ra.to bb
  refine hK.out _ _ HB ?_
  clear hK K bb
  refine plan_call rfl (by rfl) (fun K hK => ?_)
  go_simp
  refine (same_t ra rb rfl).mono ?_
  rintro e V ⟨rfl, bb⟩
  replace HB := HB.trans (bb.mono HB.size)
  clear ra
  clear rb
  refine hK.out _ _ HB ?_
  clear hK K bb
  refine plan_take (v := ?_) rfl (by rfl) ?_ ?_; rotate_left; (focus (intro w' _; go_simp; try with_reducible rfl)); simp only [Act.put, List.setIfInBounds_toArray, List.set_cons_zero, List.set_cons_succ]
  refine plan_take (v := ?_) rfl (by rfl) ?_ ?_; rotate_left; (focus (intro w' _; go_simp; try with_reducible rfl)); simp only [Act.put, List.setIfInBounds_toArray, List.set_cons_zero, List.set_cons_succ]
  refine plan_take (v := ?_) rfl (by rfl) ?_ ?_; rotate_left; (focus (intro w' _; go_simp; try with_reducible rfl)); simp only [Act.put, List.setIfInBounds_toArray, List.set_cons_zero, List.set_cons_succ]
  refine plan_take rfl (by rfl) (fun w' hS => load_two (by rfl) (X7.two.to hS)) ?_; simp only [Act.put, List.setIfInBounds_toArray, List.set_cons_zero, List.set_cons_succ]
  refine plan_take rfl (by rfl) (fun w' hS => load_two (by rfl) (X8.two.to hS)) ?_; simp only [Act.put, List.setIfInBounds_toArray, List.set_cons_zero, List.set_cons_succ]
  refine plan_take rfl (by rfl) (fun w' hS => load_two (by rfl) (X3.two.to hS)) ?_; simp only [Act.put, List.setIfInBounds_toArray, List.set_cons_zero, List.set_cons_succ]
  refine plan_take rfl (by rfl) (fun w' hS => load_two (by rfl) (X4.two.to hS)) ?_; simp only [Act.put, List.setIfInBounds_toArray, List.set_cons_zero, List.set_cons_succ]
  refine plan_call rfl (by rfl) (fun K hK => ?_)
  go_simp
  refine (mul_z (X7.zl HB k1).zi (X8.zl HB k2).zi).mono ?_
  rintro e V ⟨ura, vra, rfl, ra, bb⟩
  replace HB := HB.trans (bb.mono HB.size)
  refine hK.out _ _ HB ?_
  clear hK K bb
  refine plan_call rfl (by rfl) (fun K hK => ?_)
  go_simp
  refine (rmul_z (X3.zl HB k1) (X4.zl HB k2)).mono ?_
  rintro e V ⟨urb, vrb, rfl, rb, bb⟩
  replace HB := HB.trans (bb.mono HB.size)
  replace ra := ra.to bb
  refine hK.out _ _ HB ?_
  clear hK K bb
  refine plan_call rfl (by rfl) (fun K hK => ?_)
  go_simp
  refine (same_t ra rb rfl).mono ?_
  rintro e V ⟨rfl, bb⟩
  replace HB := HB.trans (bb.mono HB.size)
  clear ra
  clear rb
  refine hK.out _ _ HB ?_
  clear hK K bb
  refine plan_take (v := ?_) rfl (by rfl) ?_ ?_; rotate_left; (focus (intro w' _; go_simp; try with_reducible rfl)); simp only [Act.put, List.setIfInBounds_toArray, List.set_cons_zero, List.set_cons_succ]
  refine plan_take (v := ?_) rfl (by rfl) ?_ ?_; rotate_left; (focus (intro w' _; go_simp; try with_reducible rfl)); simp only [Act.put, List.setIfInBounds_toArray, List.set_cons_zero, List.set_cons_succ]
  refine plan_done ?_
  replace X3 := X3.to HB
  replace X4 := X4.to HB
  replace X7 := X7.to HB
  replace X8 := X8.to HB
  replace HB0 := Lib.hid (HB0.out.trans (HB.mono HB0.out.size))
  clear HB
  go_wp2_with fail
  refine wp_region_plan (S := fun w' => Below V.heap.size V w') [(0, true), (2, true), (1, false), (3, false), (4, false), (5, true), (6, true), (7, true), (9, true), (8, false), (10, false), (11, false), (12, true), (13, true), (14, true), (15, true), (17, true), (16, false), (18, false), (19, true), (20, true), (21, true), (22, true), (23, true), (25, true), (26, true), (24, false), (27, false), (28, true), (29, true)] (by kernel_rfl) (by kernel_rfl) (Below.refl _ _).drew ?_
  have HB := (Below.refl V.heap.size V).drew
  refine plan_take rfl (by rfl) (fun w' hS => load_two (by rfl) (X7.two.to hS)) ?_; simp only [Act.put, List.setIfInBounds_toArray, List.set_cons_zero, List.set_cons_succ]
  refine plan_take rfl (by rfl) (fun w' hS => load_two (by rfl) (X3.two.to hS)) ?_; simp only [Act.put, List.setIfInBounds_toArray, List.set_cons_zero, List.set_cons_succ]
  refine plan_call rfl (by rfl) (fun K hK => ?_)
  go_simp
  refine (neg_z (X7.zl HB k1).zi).mono ?_
  rintro e V ⟨ura, vra, rfl, ra, bb⟩
  replace HB := HB.trans (bb.mono HB.size)
  refine hK.out _ _ HB ?_
  clear hK K bb
  refine plan_call rfl (by rfl) (fun K hK => ?_)
  go_simp
  refine (rneg_z (X3.zl HB k1)).mono ?_
  rintro e V ⟨urb, vrb, rfl, rb, bb⟩
  replace HB := HB.trans (bb.mono HB.size)
  replace ra := ra.to bb
  refine hK.out _ _ HB ?_
  clear hK K bb
  refine plan_call rfl (by rfl) (fun K hK => ?_)
  go_simp
  refine (same_t ra rb rfl).mono ?_
  rintro e V ⟨rfl, bb⟩
  replace HB := HB.trans (bb.mono HB.size)
  clear ra
  clear rb
  refine hK.out _ _ HB ?_
  clear hK K bb
  refine plan_take (v := ?_) rfl (by rfl) ?_ ?_; rotate_left; (focus (intro w' _; go_simp; try with_reducible rfl)); simp only [Act.put, List.setIfInBounds_toArray, List.set_cons_zero, List.set_cons_succ]
  refine plan_take (v := ?_) rfl (by rfl) ?_ ?_; rotate_left; (focus (intro w' _; go_simp; try with_reducible rfl)); simp only [Act.put, List.setIfInBounds_toArray, List.set_cons_zero, List.set_cons_succ]
  refine plan_take rfl (by rfl) (fun w' hS => load_two (by rfl) (X7.two.to hS)) ?_; simp only [Act.put, List.setIfInBounds_toArray, List.set_cons_zero, List.set_cons_succ]
  refine plan_take rfl (by rfl) (fun w' hS => load_two (by rfl) (X3.two.to hS)) ?_; simp only [Act.put, List.setIfInBounds_toArray, List.set_cons_zero, List.set_cons_succ]
  refine plan_call rfl (by rfl) (fun K hK => ?_)
  go_simp
  refine (abs_z (X7.zl HB k1).zi).mono ?_
  rintro e V ⟨ura, vra, rfl, ra, bb⟩
  replace HB := HB.trans (bb.mono HB.size)
  refine hK.out _ _ HB ?_
  clear hK K bb
  refine plan_call rfl (by rfl) (fun K hK => ?_)
  go_simp
  refine (rabs_z (X3.zl HB k1)).mono ?_
  rintro e V ⟨urb, vrb, rfl, rb, bb⟩
  replace HB := HB.trans (bb.mono HB.size)
  replace ra := ra.to bb
  refine hK.out _ _ HB ?_
  clear hK K bb
  refine plan_call rfl (by rfl) (fun K hK => ?_)
  go_simp
  refine (same_t ra rb rfl).mono ?_
  rintro e V ⟨rfl, bb⟩
  replace HB := HB.trans (bb.mono HB.size)
  clear ra
  clear rb
  refine hK.out _ _ HB ?_
  clear hK K bb
  refine plan_take (v := ?_) rfl (by rfl) ?_ ?_; rotate_left; (focus (intro w' _; go_simp; try with_reducible rfl)); simp only [Act.put, List.setIfInBounds_toArray, List.set_cons_zero, List.set_cons_succ]
  refine plan_take (v := ?_) rfl (by rfl) ?_ ?_; rotate_left; (focus (intro w' _; go_simp; try with_reducible rfl)); simp only [Act.put, List.setIfInBounds_toArray, List.set_cons_zero, List.set_cons_succ]
  refine plan_take (v := ?_) rfl (by rfl) ?_ ?_; rotate_left; (focus (intro w' _; go_simp; try with_reducible rfl)); simp only [Act.put, List.setIfInBounds_toArray, List.set_cons_zero, List.set_cons_succ]
  refine plan_take rfl (by rfl) (fun w' hS => load_two (by rfl) (X7.two.to hS)) ?_; simp only [Act.put, List.setIfInBounds_toArray, List.set_cons_zero, List.set_cons_succ]
  refine plan_take rfl (by rfl) (fun w' hS => load_two (by rfl) (X3.two.to hS)) ?_; simp only [Act.put, List.setIfInBounds_toArray, List.set_cons_zero, List.set_cons_succ]
  refine plan_call rfl (by rfl) (fun K hK => ?_)
  go_simp
  refine (sign_z (X7.zl HB k1).zi).mono ?_
  rintro e V ⟨rfl, bb⟩
  replace HB := HB.trans (bb.mono HB.size)
  refine hK.out _ _ HB ?_
  clear hK K bb
  refine plan_call rfl (by rfl) (fun K hK => ?_)
  go_simp
  refine (rsign_z (X3.zl HB k1)).mono ?_
  rintro e V ⟨rfl, bb⟩
  replace HB := HB.trans (bb.mono HB.size)
  refine hK.out _ _ HB ?_
  clear hK K bb
  refine plan_take (v := ?_) rfl (by rfl) ?_ ?_; rotate_left; (focus (intro w' _; go_simp; try with_reducible rfl)); simp only [Act.put, List.setIfInBounds_toArray, List.set_cons_zero, List.set_cons_succ]
  refine plan_take (v := ?_) rfl (by rfl) ?_ ?_; rotate_left; (focus (intro w' _; go_simp; try with_reducible rfl)); simp only [Act.put, List.setIfInBounds_toArray, List.set_cons_zero, List.set_cons_succ]
  refine plan_take (v := ?_) rfl (by rfl) ?_ ?_; rotate_left; (focus (intro w' _; go_simp; try with_reducible rfl)); simp only [Act.put, List.setIfInBounds_toArray, List.set_cons_zero, List.set_cons_succ]
  refine plan_take rfl (by rfl) (fun w' hS => load_two (by rfl) (X7.two.to hS)) ?_; simp only [Act.put, List.setIfInBounds_toArray, List.set_cons_zero, List.set_cons_succ]
  refine plan_take rfl (by rfl) (fun w' hS => load_two (by rfl) (X8.two.to hS)) ?_; simp only [Act.put, List.setIfInBounds_toArray, List.set_cons_zero, List.set_cons_succ]
  refine plan_take rfl (by rfl) (fun w' hS => load_two (by rfl) (X3.two.to hS)) ?_; simp only [Act.put, List.setIfInBounds_toArray, List.set_cons_zero, List.set_cons_succ]
  refine plan_take rfl (by rfl) (fun w' hS => load_two (by rfl) (X4.two.to hS)) ?_; simp only [Act.put, List.setIfInBounds_toArray, List.set_cons_zero, List.set_cons_succ]
  refine plan_call rfl (by rfl) (fun K hK => ?_)
  go_simp
  refine (cmp_z (X7.zl HB k1).zi (X8.zl HB k2).zi).mono ?_
  rintro e V ⟨rfl, bb⟩
  replace HB := HB.trans (bb.mono HB.size)
  refine hK.out _ _ HB ?_
  clear hK K bb
  refine plan_call rfl (by rfl) (fun K hK => ?_)
  go_simp
  refine (rcmp_z (X3.zl HB k1) (X4.zl HB k2)).mono ?_
  rintro e V ⟨rfl, bb⟩
  replace HB := HB.trans (bb.mono HB.size)
  refine hK.out _ _ HB ?_
  clear hK K bb
  refine plan_take (v := ?_) rfl (by rfl) ?_ ?_; rotate_left; (focus (intro w' _; go_simp; try with_reducible rfl)); simp only [Act.put, List.setIfInBounds_toArray, List.set_cons_zero, List.set_cons_succ]
  refine plan_take (v := ?_) rfl (by rfl) ?_ ?_; rotate_left; (focus (intro w' _; go_simp; try with_reducible rfl)); simp only [Act.put, List.setIfInBounds_toArray, List.set_cons_zero, List.set_cons_succ]
  refine plan_done ?_
  replace X3 := X3.to HB
  replace X4 := X4.to HB
  replace X7 := X7.to HB
  replace X8 := X8.to HB
  replace HB0 := Lib.hid (HB0.out.trans (HB.mono HB0.out.size))
  clear HB
  have q1 := X7.two.c0
  have q2 := X7.two.c1
  have q3 := X3.two.c0
  have q4 := X3.two.c1
  go_wp2_with fail
  refine (same_x X7.zx X3.zx).mono ?_
  rintro e V ⟨rfl, HB⟩
  clear q1 q2 q3 q4
  replace X4 := X4.to HB
  replace X8 := X8.to HB
  replace HB0 := Lib.hid (HB0.out.trans (HB.mono HB0.out.size))
  clear HB
  have q1 := X8.two.c0
  have q2 := X8.two.c1
  have q3 := X4.two.c0
  have q4 := X4.two.c1
  go_wp2_with fail
  refine (same_x X8.zx X4.zx).mono ?_
  rintro e V ⟨rfl, HB⟩
  clear q1 q2 q3 q4
  replace HB0 := Lib.hid (HB0.out.trans (HB.mono HB0.out.size))
  clear HB
  go_wp2_with fail
  refine (alive_any _).mono ?_
  rintro e V ⟨rfl, HB⟩
  replace HB0 := Lib.hid (HB0.out.trans (HB.mono HB0.out.size))
  clear HB
  go_wp2
  go_ret
  exact ⟨by rfl, HB0.out⟩
end Go.Proofs.Ytoaghihhobggoaa
