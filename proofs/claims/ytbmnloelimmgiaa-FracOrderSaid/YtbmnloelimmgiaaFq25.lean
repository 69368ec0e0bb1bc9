/- Parts: Order. -/
import Derived.Test.YtbmnloelimmgiaaFq22
import Derived.Laws.EntriesVeiled
set_option linter.unusedVariables false
set_option linter.unusedSimpArgs false

namespace Go.Proofs.Ytbmnloelimmgiaa
set_option maxRecDepth 100000
open Go.RowKit Go.Shelf


theorem cmpQ_cases (r s : Rat) : (cmpQ r s = -1 ∧ r < s) ∨ (cmpQ r s = 0 ∧ r = s) ∨ (cmpQ r s = 1 ∧ s < r) := by
  by_cases h1 : r < s
  · exact .inl ⟨by simp [cmpQ, h1], h1⟩
  · by_cases h2 : s < r
    · exact .inr (.inr ⟨by simp [cmpQ, h1, h2], h2⟩)
    · exact .inr (.inl ⟨by simp [cmpQ, h1, h2], Rat.le_antisymm (Rat.not_lt.1 h2) (Rat.not_lt.1 h1)⟩)
theorem cmpQ_lt {r s : Rat} (h : r < s) : cmpQ r s = -1 := by simp [cmpQ, h]
theorem cmpQ_gt {r s : Rat} (h : s < r) : cmpQ r s = 1 := by simp [cmpQ, h, Rat.not_lt.2 (Rat.le_of_lt h)]
theorem cmpQ_eq {r s : Rat} (h : r = s) : cmpQ r s = 0 := cmpQ_zero.2 h
theorem cmpQ_anti (a b : Rat) : IntKind.i64.wrap (-(cmpQ b a)) = cmpQ a b := by
  rcases cmpQ_cases a b with ⟨h, h'⟩ | ⟨h, h'⟩ | ⟨h, h'⟩
  · rw [h, cmpQ_gt h']; decide
  · rw [h, cmpQ_eq h'.symm]; decide
  · rw [h, cmpQ_lt h']; decide
theorem cmpQ_add (a b c : Rat) : cmpQ (a + c) (b + c) = cmpQ a b := by
  have h1 : (a + c < b + c) = (a < b) := propext Rat.add_lt_add_right
  have h2 : (b + c < a + c) = (b < a) := propext Rat.add_lt_add_right
  unfold cmpQ
  simp only [h1, h2]
theorem cmpQ_mul (a b c : Rat) : IntKind.i64.wrap (cmpQ a b * sgnQ c) = cmpQ (a * c) (b * c) := by
  have hs := sgn_num c
  change sgnQ c = _ at hs
  rcases Rat.lt_iff_le_and_ne (a := c) (b := 0) |>.1 |> fun _ => (by
    by_cases h0 : c = 0
    · exact Or.inl h0
    · by_cases h1 : c < 0
      · exact Or.inr (Or.inl h1)
      · exact Or.inr (Or.inr (Rat.lt_of_le_of_ne (Rat.not_lt.1 h1) (Ne.symm h0))) : c = 0 ∨ c < 0 ∨ 0 < c) with h | h | h
  · rw [hs, if_pos h, h, Rat.mul_zero, Rat.mul_zero, cmpQ_eq rfl, Int.mul_zero]; decide
  · have h0 : c ≠ 0 := Rat.ne_of_lt h
    rw [hs, if_neg h0, if_pos h]
    have hc : 0 < -c := by rw [Rat.lt_neg_iff]; exact h
    have hm : ∀ x y : Rat, x < y → y * c < x * c := fun x y hxy => by
      have h1 := Rat.mul_lt_mul_of_pos_right hxy hc
      rw [Rat.mul_neg, Rat.mul_neg, Rat.neg_lt_neg_iff] at h1
      exact h1
    rcases cmpQ_cases a b with ⟨h1, h'⟩ | ⟨h1, h'⟩ | ⟨h1, h'⟩
    · rw [h1, cmpQ_gt (hm _ _ h')]; decide
    · rw [h1, cmpQ_eq (by rw [h'])]; decide
    · rw [h1, cmpQ_lt (hm _ _ h')]; decide
  · have h0 : c ≠ 0 := Rat.ne_of_gt h
    have h2 : ¬ c < 0 := Rat.not_lt.2 (Rat.le_of_lt h)
    rw [hs, if_neg h0, if_neg h2, Int.mul_one]
    rcases cmpQ_cases a b with ⟨h1, h'⟩ | ⟨h1, h'⟩ | ⟨h1, h'⟩
    · rw [h1, cmpQ_lt (Rat.mul_lt_mul_of_pos_right h' h)]; decide
    · rw [h1, cmpQ_eq (by rw [h'])]; decide
    · rw [h1, cmpQ_gt (Rat.mul_lt_mul_of_pos_right h' h)]; decide
theorem lt_tr {a b c : Rat} (h : a < b) (h' : b < c) : a < c :=
  Rat.not_le.1 fun h2 => absurd h' (Rat.not_lt.2 (Rat.le_trans h2 (Rat.le_of_lt h)))
theorem qm_floor {k : Nat} {r : Rat} (h : Qm k r) : Qm k ((r.floor : Int) : Rat) := by
  refine Qm.int ?_ h.pos
  rw [Rat.floor_def]
  exact h.1.le (Int.natAbs_ediv_le_natAbs _ _)
theorem qm_ceil {k : Nat} {r : Rat} (h : Qm k r) : Qm k ((r.ceil : Int) : Rat) := by
  refine Qm.int ?_ h.pos
  rw [Rat.ceil_eq_neg_floor_neg, Rat.floor_def]
  refine (Sm.le (h.neg).1 ?_).neg
  exact Int.natAbs_ediv_le_natAbs _ _
theorem nle_lt (r s : Rat) (h : r ≤ s) : decide (0 < cmpQ r s) = false := by
  rcases cmpQ_cases r s with ⟨h1, h'⟩ | ⟨h1, h'⟩ | ⟨h1, h'⟩
  · rw [h1]; decide
  · rw [h1]; decide
  · exact absurd h' (Rat.not_lt.2 h)
theorem nge_lt (r s : Rat) (h : s ≤ r) : decide (cmpQ r s < 0) = false := by
  rcases cmpQ_cases r s with ⟨h1, h'⟩ | ⟨h1, h'⟩ | ⟨h1, h'⟩
  · exact absurd h' (Rat.not_lt.2 h)
  · rw [h1]; decide
  · rw [h1]; decide
theorem min_add (a b : Rat) : minQ a b + maxQ a b = a + b := by
  unfold minQ maxQ
  by_cases h1 : a < b
  · have h2 : ¬ b < a := Rat.not_lt.2 (Rat.le_of_lt h1)
    rw [if_pos h1, if_neg h2]
  · by_cases h2 : b < a
    · rw [if_neg h1, if_pos h2, Rat.add_comm]
    · have h3 := Rat.le_antisymm (Rat.not_lt.1 h2) (Rat.not_lt.1 h1)
      rw [if_neg h1, if_neg h2, h3]
theorem min_le_max (a b : Rat) : minQ a b ≤ maxQ a b := by
  unfold minQ maxQ
  by_cases h1 : a < b
  · have h2 : ¬ b < a := Rat.not_lt.2 (Rat.le_of_lt h1)
    rw [if_pos h1, if_neg h2]; exact Rat.le_of_lt h1
  · by_cases h2 : b < a
    · rw [if_neg h1, if_pos h2]; exact Rat.le_of_lt h2
    · rw [if_neg h1, if_neg h2]; exact Rat.le_refl
theorem le_cmp (r s : Rat) (h : r ≤ s) : decide (cmpQ r s ≤ 0) = true := by
  rcases cmpQ_cases r s with ⟨h1, h'⟩ | ⟨h1, h'⟩ | ⟨h1, h'⟩
  · rw [h1]; decide
  · rw [h1]; decide
  · exact absurd h' (Rat.not_lt.2 h)


set_option maxHeartbeats 40000000 in
theorem order_core {a1 a2 a3 a4 b1 b2 b3 b4 c1 c2 c3 c4 : Value} {a b c : Rat} {w : World} (h1 : Qi w a1 a2 a3 a4 a 6) (h2 : Qi w b1 b2 b3 b4 b 6) (h3 : Qi w c1 c2 c3 c4 c 6)
    (hL : ∀ (V : World) (g : Nat), V.heap[g]? = some (.cells #[a1, a2, a3, a4, b1, b2, b3, b4, c1, c2, c3, c4] 26 (0, 0)) → Calls Try.prog 6 #[.slice (some ⟨g, 0, none⟩) 3 3] V fun e w' => e = .returned (.bool false) ∧ Below V.heap.size V w') :
    Calls Try.prog 4 #[.agg #[a1, a2, a3, a4], .agg #[b1, b2, b3, b4], .agg #[c1, c2, c3, c4]] w fun e w' => e = .returned (.bool true) ∧ Below w.heap.size w w' := by
  have mA : Qm 6 a := h1.qm (by decide)
  have mB : Qm 6 b := h2.qm (by decide)
  have mC : Qm 6 c := h3.qm (by decide)
  obtain ⟨W0, hW0⟩ : ∃ W0, W0 = (((w.alloc (.cells #[a1, a2, a3, a4] 26)).alloc (.cells #[b1, b2, b3, b4] 26)).alloc (.cells #[c1, c2, c3, c4] 26)).alloc (.cells #[a1, a2, a3, a4, b1, b2, b3, b4, c1, c2, c3, c4] 26) := ⟨_, rfl⟩
  have hb : Below w.heap.size w W0 := by rw [hW0]; exact ((((Below.refl _ _).alloc (Nat.le_refl _) _).alloc (by simp) _).alloc (by simp; omega) _).alloc (by simp; omega) _
  have VA : Qb W0 w.heap.size a1 a2 a3 a4 a 6 := ⟨by rw [hW0]; exact (((Four.new w _ _ _ _ _).alloc _).alloc _).alloc _, h1.to hb⟩
  have VB : Qb W0 (w.heap.size + 1) b1 b2 b3 b4 b 6 := ⟨by
    have h := Four.new (w.alloc (.cells #[a1, a2, a3, a4] 26)) b1 b2 b3 b4 26
    rw [World.size_alloc] at h
    rw [hW0]; exact (h.alloc _).alloc _, h2.to hb⟩
  have VC : Qb W0 (w.heap.size + 1 + 1) c1 c2 c3 c4 c 6 := ⟨by
    have h := Four.new ((w.alloc (.cells #[a1, a2, a3, a4] 26)).alloc (.cells #[b1, b2, b3, b4] 26)) c1 c2 c3 c4 26
    rw [World.size_alloc, World.size_alloc] at h
    rw [hW0]; exact h.alloc _, h3.to hb⟩
  have HL : Hid (Calls Try.prog 6 #[.slice (some ⟨w.heap.size + 1 + 1 + 1, 0, none⟩) 3 3] W0 fun e w' => e = .returned (.bool false) ∧ Below W0.heap.size W0 w') := by
    have h := World.alloc_heap_new (((w.alloc (.cells #[a1, a2, a3, a4] 26)).alloc (.cells #[b1, b2, b3, b4] 26)).alloc (.cells #[c1, c2, c3, c4] 26)) (.cells #[a1, a2, a3, a4, b1, b2, b3, b4, c1, c2, c3, c4] 26)
    rw [World.size_alloc, World.size_alloc, World.size_alloc, ← hW0] at h
    exact hL W0 (w.heap.size + 1 + 1 + 1) h
  have HW0 := Lib.hid hW0
  have HB0 := Lib.hid hb
  clear hL h1 h2 h3 hW0 hb
  go_enter Try.func4, Try.ntmps4
  go_wp2_with fail
  rw [← HW0.out]
  clear HW0
  refine HL.out.mono ?_
  rintro e W1 ⟨rfl, bb⟩
  clear HL
  replace VA := VA.to bb
  replace VB := VB.to bb
  replace VC := VC.to bb
  replace HB0 := Lib.hid (HB0.out.trans (bb.mono HB0.out.size))
  clear bb
  go_wp2_with fail
  obtain ⟨x, hx⟩ : ∃ x, cmpQ a b = x := ⟨_, rfl⟩
  obtain ⟨y, hy⟩ : ∃ y, cmpQ b c = y := ⟨_, rfl⟩
  refine wp_region_plan (S := fun w' => Below W1.heap.size W1 w') [(0, true), (1, true), (3, true), (4, true), (2, false), (5, false), (6, true), (7, true)] (by kernel_rfl) (by kernel_rfl) (Below.refl _ _).drew ?_
  have HB := (Below.refl W1.heap.size W1).drew
  refine plan_take rfl (by rfl) (fun w' hS => load_four (by rfl) (VA.four.to hS)) ?_; simp only [Act.put, List.setIfInBounds_toArray, List.set_cons_zero, List.set_cons_succ]
  refine plan_take rfl (by rfl) (fun w' hS => load_four (by rfl) (VB.four.to hS)) ?_; simp only [Act.put, List.setIfInBounds_toArray, List.set_cons_zero, List.set_cons_succ]
  refine plan_take rfl (by rfl) (fun w' hS => load_four (by rfl) (VB.four.to hS)) ?_; simp only [Act.put, List.setIfInBounds_toArray, List.set_cons_zero, List.set_cons_succ]
  refine plan_take rfl (by rfl) (fun w' hS => load_four (by rfl) (VC.four.to hS)) ?_; simp only [Act.put, List.setIfInBounds_toArray, List.set_cons_zero, List.set_cons_succ]
  refine plan_call rfl (by rfl) (fun K hK => ?_)
  go_simp
  refine (cmp_q (VA.qi.to HB) (VB.qi.to HB) (by decide) (by decide) (by decide) hx).mono ?_
  rintro e V ⟨rfl, bb⟩
  replace HB := HB.trans (bb.mono HB.size)
  refine hK.out _ _ HB ?_
  clear hK K bb
  refine plan_call rfl (by rfl) (fun K hK => ?_)
  go_simp
  refine (cmp_q (VB.qi.to HB) (VC.qi.to HB) (by decide) (by decide) (by decide) hy).mono ?_
  rintro e V ⟨rfl, bb⟩
  replace HB := HB.trans (bb.mono HB.size)
  refine hK.out _ _ HB ?_
  clear hK K bb
  refine plan_take (v := ?_) rfl (by rfl) ?_ ?_; rotate_left; (focus (intro w' _; go_simp; try with_reducible rfl)); simp only [Act.put, List.setIfInBounds_toArray, List.set_cons_zero, List.set_cons_succ]
  refine plan_take (v := ?_) rfl (by rfl) ?_ ?_; rotate_left; (focus (intro w' _; go_simp; try with_reducible rfl)); simp only [Act.put, List.setIfInBounds_toArray, List.set_cons_zero, List.set_cons_succ]
  refine plan_done ?_
  replace VA := VA.to HB
  replace VB := VB.to HB
  replace VC := VC.to HB
  replace HB0 := Lib.hid (HB0.out.trans (HB.mono HB0.out.size))
  clear HB
  obtain ⟨V3, hV3⟩ : ∃ V', V' = V := ⟨_, rfl⟩
  subst hV3
  have hx2 : IntKind.i64.wrap (-(cmpQ b a)) = x := by rw [← hx]; exact cmpQ_anti a b
  obtain ⟨x', hx'⟩ : ∃ x', cmpQ b a = x' := ⟨_, rfl⟩
  rw [hx'] at hx2
  have HX := Lib.hid hx
  have HY := Lib.hid hy
  have HX2 := Lib.hid hx2
  have HX' := Lib.hid hx'
  clear hx hy hx2 hx'
  have hK0 := ‹∀ (a : Act) (w : World), Code.wp _ _ _ a w → _›
  refine hK0 _ _ ?_
  clear hK0
  refine wp_seq_k (fun K1 hK1 => ?_)
  refine wp_seq_k (fun K2 hK2 => ?_)
  refine wp_cut (fun a' v' w' => ∃ (u24 u25 u26 u27 u28 u29 u30 u31 u32 u33 u34 u35 u36 u37 u38 u39 u40 u41 u42 u43 u44 u45 u46 u47 u48 u49 u50 u51 u52 u53 : Value), v' = (((((((((((((((((((((((((((((((a'.put (some 24) u24).put (some 25) u25).put (some 26) u26).put (some 27) u27).put (some 28) u28).put (some 29) u29).put (some 30) u30).put (some 31) u31).put (some 32) u32).put (some 33) u33).put (some 34) u34).put (some 35) u35).put (some 36) u36).put (some 37) u37).put (some 38) u38).put (some 39) u39).put (some 40) u40).put (some 41) u41).put (some 42) u42).put (some 43) u43).put (some 44) u44).put (some 45) u45).put (some 46) u46).put (some 47) u47).put (some 48) u48).put (some 49) u49).put (some 50) u50).put (some 51) u51).put (some 52) u52).put (some 53) u53).put (some 54) (.bool false)) ∧ Below V3.heap.size V3 w') ?_ ?_
  · have HE : Hid (decide (a = b) = (x == 0)) := by
      show _ = _
      rw [← HX.out, Bool.eq_iff_iff, beq_iff_eq, decide_eq_true_iff]
      exact cmpQ_zero.symm
    clear hK1 hK2
    rcases cmpQ_cases a b with ⟨h1, o1⟩ | ⟨h1, o1⟩ | ⟨h1, o1⟩
    · obtain rfl : x = -1 := HX.out.symm.trans h1
      rcases cmpQ_cases b c with ⟨h2, o2⟩ | ⟨h2, o2⟩ | ⟨h2, o2⟩
      · obtain rfl : y = -1 := HY.out.symm.trans h2
        have HZ : Hid (cmpQ a c = -1) := cmpQ_lt (lt_tr o1 o2)
        clear h1 o1 h2 o2
        have k0 := VA.four.c0
        have k1 := VA.four.c1
        have k2 := VA.four.c2
        have k3 := VA.four.c3
        have l0 := VB.four.c0
        have l1 := VB.four.c1
        have l2 := VB.four.c2
        have l3 := VB.four.c3
        go_wp2_with fail
        refine (cmp_q VB.qi VA.qi (by decide) (by decide) (by decide) HX'.out).mono ?_
        rintro e V5 ⟨rfl, HB⟩
        clear k0 k1 k2 k3 l0 l1 l2 l3
        replace VA := VA.to HB
        replace VB := VB.to HB
        replace VC := VC.to HB
        have k0 := VA.four.c0
        have k1 := VA.four.c1
        have k2 := VA.four.c2
        have k3 := VA.four.c3
        have l0 := VB.four.c0
        have l1 := VB.four.c1
        have l2 := VB.four.c2
        have l3 := VB.four.c3
        have e1 := HX2.out
        go_wp2_with fail
        refine (equal_q VA.qi VB.qi (by decide) (by decide) (by decide) HE.out).mono ?_
        rintro e V6 ⟨rfl, bb⟩
        clear k0 k1 k2 k3 l0 l1 l2 l3 e1
        replace HB := HB.trans (bb.mono HB.size)
        replace VA := VA.to bb
        replace VB := VB.to bb
        replace VC := VC.to bb
        clear bb
        have k0 := VA.four.c0
        have k1 := VA.four.c1
        have k2 := VA.four.c2
        have k3 := VA.four.c3
        have q0 := VC.four.c0
        have q1 := VC.four.c1
        have q2 := VC.four.c2
        have q3 := VC.four.c3
        go_wp2_with fail
        refine (cmp_q VA.qi VC.qi (by decide) (by decide) (by decide) HZ.out).mono ?_
        rintro e V7 ⟨rfl, bb⟩
        clear k0 k1 k2 k3 q0 q1 q2 q3
        replace HB := HB.trans (bb.mono HB.size)
        clear bb
        have HF := Lib.hid HB
        clear HB
        go_wp2
        first | exact HF.out | exact ⟨by decide, HF.out⟩
      · obtain rfl : y = 0 := HY.out.symm.trans h2
        have HZ : Hid (cmpQ a c = -1) := cmpQ_lt (o2 ▸ o1)
        clear h1 o1 h2 o2
        have k0 := VA.four.c0
        have k1 := VA.four.c1
        have k2 := VA.four.c2
        have k3 := VA.four.c3
        have l0 := VB.four.c0
        have l1 := VB.four.c1
        have l2 := VB.four.c2
        have l3 := VB.four.c3
        go_wp2_with fail
        refine (cmp_q VB.qi VA.qi (by decide) (by decide) (by decide) HX'.out).mono ?_
        rintro e V5 ⟨rfl, HB⟩
        clear k0 k1 k2 k3 l0 l1 l2 l3
        replace VA := VA.to HB
        replace VB := VB.to HB
        replace VC := VC.to HB
        have k0 := VA.four.c0
        have k1 := VA.four.c1
        have k2 := VA.four.c2
        have k3 := VA.four.c3
        have l0 := VB.four.c0
        have l1 := VB.four.c1
        have l2 := VB.four.c2
        have l3 := VB.four.c3
        have e1 := HX2.out
        go_wp2_with fail
        refine (equal_q VA.qi VB.qi (by decide) (by decide) (by decide) HE.out).mono ?_
        rintro e V6 ⟨rfl, bb⟩
        clear k0 k1 k2 k3 l0 l1 l2 l3 e1
        replace HB := HB.trans (bb.mono HB.size)
        replace VA := VA.to bb
        replace VB := VB.to bb
        replace VC := VC.to bb
        clear bb
        have k0 := VA.four.c0
        have k1 := VA.four.c1
        have k2 := VA.four.c2
        have k3 := VA.four.c3
        have q0 := VC.four.c0
        have q1 := VC.four.c1
        have q2 := VC.four.c2
        have q3 := VC.four.c3
        go_wp2_with fail
        refine (cmp_q VA.qi VC.qi (by decide) (by decide) (by decide) HZ.out).mono ?_
        rintro e V7 ⟨rfl, bb⟩
        clear k0 k1 k2 k3 q0 q1 q2 q3
        replace HB := HB.trans (bb.mono HB.size)
        clear bb
        have HF := Lib.hid HB
        clear HB
        go_wp2
        first | exact HF.out | exact ⟨by decide, HF.out⟩
      · obtain rfl : y = 1 := HY.out.symm.trans h2
        clear h1 o1 h2 o2
        have k0 := VA.four.c0
        have k1 := VA.four.c1
        have k2 := VA.four.c2
        have k3 := VA.four.c3
        have l0 := VB.four.c0
        have l1 := VB.four.c1
        have l2 := VB.four.c2
        have l3 := VB.four.c3
        go_wp2_with fail
        refine (cmp_q VB.qi VA.qi (by decide) (by decide) (by decide) HX'.out).mono ?_
        rintro e V5 ⟨rfl, HB⟩
        clear k0 k1 k2 k3 l0 l1 l2 l3
        replace VA := VA.to HB
        replace VB := VB.to HB
        replace VC := VC.to HB
        have k0 := VA.four.c0
        have k1 := VA.four.c1
        have k2 := VA.four.c2
        have k3 := VA.four.c3
        have l0 := VB.four.c0
        have l1 := VB.four.c1
        have l2 := VB.four.c2
        have l3 := VB.four.c3
        have e1 := HX2.out
        go_wp2_with fail
        refine (equal_q VA.qi VB.qi (by decide) (by decide) (by decide) HE.out).mono ?_
        rintro e V6 ⟨rfl, bb⟩
        clear k0 k1 k2 k3 l0 l1 l2 l3 e1
        replace HB := HB.trans (bb.mono HB.size)
        replace VA := VA.to bb
        replace VB := VB.to bb
        replace VC := VC.to bb
        clear bb
        have HF := Lib.hid HB
        clear HB
        go_wp2
        first | exact HF.out | exact ⟨by decide, HF.out⟩
    · obtain rfl : x = 0 := HX.out.symm.trans h1
      rcases cmpQ_cases b c with ⟨h2, o2⟩ | ⟨h2, o2⟩ | ⟨h2, o2⟩
      · obtain rfl : y = -1 := HY.out.symm.trans h2
        have HZ : Hid (cmpQ a c = -1) := cmpQ_lt (o1 ▸ o2)
        clear h1 o1 h2 o2
        have k0 := VA.four.c0
        have k1 := VA.four.c1
        have k2 := VA.four.c2
        have k3 := VA.four.c3
        have l0 := VB.four.c0
        have l1 := VB.four.c1
        have l2 := VB.four.c2
        have l3 := VB.four.c3
        go_wp2_with fail
        refine (cmp_q VB.qi VA.qi (by decide) (by decide) (by decide) HX'.out).mono ?_
        rintro e V5 ⟨rfl, HB⟩
        clear k0 k1 k2 k3 l0 l1 l2 l3
        replace VA := VA.to HB
        replace VB := VB.to HB
        replace VC := VC.to HB
        have k0 := VA.four.c0
        have k1 := VA.four.c1
        have k2 := VA.four.c2
        have k3 := VA.four.c3
        have l0 := VB.four.c0
        have l1 := VB.four.c1
        have l2 := VB.four.c2
        have l3 := VB.four.c3
        have e1 := HX2.out
        go_wp2_with fail
        refine (equal_q VA.qi VB.qi (by decide) (by decide) (by decide) HE.out).mono ?_
        rintro e V6 ⟨rfl, bb⟩
        clear k0 k1 k2 k3 l0 l1 l2 l3 e1
        replace HB := HB.trans (bb.mono HB.size)
        replace VA := VA.to bb
        replace VB := VB.to bb
        replace VC := VC.to bb
        clear bb
        have k0 := VA.four.c0
        have k1 := VA.four.c1
        have k2 := VA.four.c2
        have k3 := VA.four.c3
        have q0 := VC.four.c0
        have q1 := VC.four.c1
        have q2 := VC.four.c2
        have q3 := VC.four.c3
        go_wp2_with fail
        refine (cmp_q VA.qi VC.qi (by decide) (by decide) (by decide) HZ.out).mono ?_
        rintro e V7 ⟨rfl, bb⟩
        clear k0 k1 k2 k3 q0 q1 q2 q3
        replace HB := HB.trans (bb.mono HB.size)
        clear bb
        have HF := Lib.hid HB
        clear HB
        go_wp2
        first | exact HF.out | exact ⟨by decide, HF.out⟩
      · obtain rfl : y = 0 := HY.out.symm.trans h2
        have HZ : Hid (cmpQ a c = 0) := cmpQ_eq (o1.trans o2)
        clear h1 o1 h2 o2
        have k0 := VA.four.c0
        have k1 := VA.four.c1
        have k2 := VA.four.c2
        have k3 := VA.four.c3
        have l0 := VB.four.c0
        have l1 := VB.four.c1
        have l2 := VB.four.c2
        have l3 := VB.four.c3
        go_wp2_with fail
        refine (cmp_q VB.qi VA.qi (by decide) (by decide) (by decide) HX'.out).mono ?_
        rintro e V5 ⟨rfl, HB⟩
        clear k0 k1 k2 k3 l0 l1 l2 l3
        replace VA := VA.to HB
        replace VB := VB.to HB
        replace VC := VC.to HB
        have k0 := VA.four.c0
        have k1 := VA.four.c1
        have k2 := VA.four.c2
        have k3 := VA.four.c3
        have l0 := VB.four.c0
        have l1 := VB.four.c1
        have l2 := VB.four.c2
        have l3 := VB.four.c3
        have e1 := HX2.out
        go_wp2_with fail
        refine (equal_q VA.qi VB.qi (by decide) (by decide) (by decide) HE.out).mono ?_
        rintro e V6 ⟨rfl, bb⟩
        clear k0 k1 k2 k3 l0 l1 l2 l3 e1
        replace HB := HB.trans (bb.mono HB.size)
        replace VA := VA.to bb
        replace VB := VB.to bb
        replace VC := VC.to bb
        clear bb
        have k0 := VA.four.c0
        have k1 := VA.four.c1
        have k2 := VA.four.c2
        have k3 := VA.four.c3
        have q0 := VC.four.c0
        have q1 := VC.four.c1
        have q2 := VC.four.c2
        have q3 := VC.four.c3
        go_wp2_with fail
        refine (cmp_q VA.qi VC.qi (by decide) (by decide) (by decide) HZ.out).mono ?_
        rintro e V7 ⟨rfl, bb⟩
        clear k0 k1 k2 k3 q0 q1 q2 q3
        replace HB := HB.trans (bb.mono HB.size)
        clear bb
        have HF := Lib.hid HB
        clear HB
        go_wp2
        first | exact HF.out | exact ⟨by decide, HF.out⟩
      · obtain rfl : y = 1 := HY.out.symm.trans h2
        clear h1 o1 h2 o2
        have k0 := VA.four.c0
        have k1 := VA.four.c1
        have k2 := VA.four.c2
        have k3 := VA.four.c3
        have l0 := VB.four.c0
        have l1 := VB.four.c1
        have l2 := VB.four.c2
        have l3 := VB.four.c3
        go_wp2_with fail
        refine (cmp_q VB.qi VA.qi (by decide) (by decide) (by decide) HX'.out).mono ?_
        rintro e V5 ⟨rfl, HB⟩
        clear k0 k1 k2 k3 l0 l1 l2 l3
        replace VA := VA.to HB
        replace VB := VB.to HB
        replace VC := VC.to HB
        have k0 := VA.four.c0
        have k1 := VA.four.c1
        have k2 := VA.four.c2
        have k3 := VA.four.c3
        have l0 := VB.four.c0
        have l1 := VB.four.c1
        have l2 := VB.four.c2
        have l3 := VB.four.c3
        have e1 := HX2.out
        go_wp2_with fail
        refine (equal_q VA.qi VB.qi (by decide) (by decide) (by decide) HE.out).mono ?_
        rintro e V6 ⟨rfl, bb⟩
        clear k0 k1 k2 k3 l0 l1 l2 l3 e1
        replace HB := HB.trans (bb.mono HB.size)
        replace VA := VA.to bb
        replace VB := VB.to bb
        replace VC := VC.to bb
        clear bb
        have HF := Lib.hid HB
        clear HB
        go_wp2
        first | exact HF.out | exact ⟨by decide, HF.out⟩
    · obtain rfl : x = 1 := HX.out.symm.trans h1
      rcases cmpQ_cases b c with ⟨h2, o2⟩ | ⟨h2, o2⟩ | ⟨h2, o2⟩
      · obtain rfl : y = -1 := HY.out.symm.trans h2
        clear h1 o1 h2 o2
        have k0 := VA.four.c0
        have k1 := VA.four.c1
        have k2 := VA.four.c2
        have k3 := VA.four.c3
        have l0 := VB.four.c0
        have l1 := VB.four.c1
        have l2 := VB.four.c2
        have l3 := VB.four.c3
        go_wp2_with fail
        refine (cmp_q VB.qi VA.qi (by decide) (by decide) (by decide) HX'.out).mono ?_
        rintro e V5 ⟨rfl, HB⟩
        clear k0 k1 k2 k3 l0 l1 l2 l3
        replace VA := VA.to HB
        replace VB := VB.to HB
        replace VC := VC.to HB
        have k0 := VA.four.c0
        have k1 := VA.four.c1
        have k2 := VA.four.c2
        have k3 := VA.four.c3
        have l0 := VB.four.c0
        have l1 := VB.four.c1
        have l2 := VB.four.c2
        have l3 := VB.four.c3
        have e1 := HX2.out
        go_wp2_with fail
        refine (equal_q VA.qi VB.qi (by decide) (by decide) (by decide) HE.out).mono ?_
        rintro e V6 ⟨rfl, bb⟩
        clear k0 k1 k2 k3 l0 l1 l2 l3 e1
        replace HB := HB.trans (bb.mono HB.size)
        replace VA := VA.to bb
        replace VB := VB.to bb
        replace VC := VC.to bb
        clear bb
        have HF := Lib.hid HB
        clear HB
        go_wp2
        first | exact HF.out | exact ⟨by decide, HF.out⟩
      · obtain rfl : y = 0 := HY.out.symm.trans h2
        clear h1 o1 h2 o2
        have k0 := VA.four.c0
        have k1 := VA.four.c1
        have k2 := VA.four.c2
        have k3 := VA.four.c3
        have l0 := VB.four.c0
        have l1 := VB.four.c1
        have l2 := VB.four.c2
        have l3 := VB.four.c3
        go_wp2_with fail
        refine (cmp_q VB.qi VA.qi (by decide) (by decide) (by decide) HX'.out).mono ?_
        rintro e V5 ⟨rfl, HB⟩
        clear k0 k1 k2 k3 l0 l1 l2 l3
        replace VA := VA.to HB
        replace VB := VB.to HB
        replace VC := VC.to HB
        have k0 := VA.four.c0
        have k1 := VA.four.c1
        have k2 := VA.four.c2
        have k3 := VA.four.c3
        have l0 := VB.four.c0
        have l1 := VB.four.c1
        have l2 := VB.four.c2
        have l3 := VB.four.c3
        have e1 := HX2.out
        go_wp2_with fail
        refine (equal_q VA.qi VB.qi (by decide) (by decide) (by decide) HE.out).mono ?_
        rintro e V6 ⟨rfl, bb⟩
        clear k0 k1 k2 k3 l0 l1 l2 l3 e1
        replace HB := HB.trans (bb.mono HB.size)
        replace VA := VA.to bb
        replace VB := VB.to bb
        replace VC := VC.to bb
        clear bb
        have HF := Lib.hid HB
        clear HB
        go_wp2
        first | exact HF.out | exact ⟨by decide, HF.out⟩
      · obtain rfl : y = 1 := HY.out.symm.trans h2
        clear h1 o1 h2 o2
        have k0 := VA.four.c0
        have k1 := VA.four.c1
        have k2 := VA.four.c2
        have k3 := VA.four.c3
        have l0 := VB.four.c0
        have l1 := VB.four.c1
        have l2 := VB.four.c2
        have l3 := VB.four.c3
        go_wp2_with fail
        refine (cmp_q VB.qi VA.qi (by decide) (by decide) (by decide) HX'.out).mono ?_
        rintro e V5 ⟨rfl, HB⟩
        clear k0 k1 k2 k3 l0 l1 l2 l3
        replace VA := VA.to HB
        replace VB := VB.to HB
        replace VC := VC.to HB
        have k0 := VA.four.c0
        have k1 := VA.four.c1
        have k2 := VA.four.c2
        have k3 := VA.four.c3
        have l0 := VB.four.c0
        have l1 := VB.four.c1
        have l2 := VB.four.c2
        have l3 := VB.four.c3
        have e1 := HX2.out
        go_wp2_with fail
        refine (equal_q VA.qi VB.qi (by decide) (by decide) (by decide) HE.out).mono ?_
        rintro e V6 ⟨rfl, bb⟩
        clear k0 k1 k2 k3 l0 l1 l2 l3 e1
        replace HB := HB.trans (bb.mono HB.size)
        replace VA := VA.to bb
        replace VB := VB.to bb
        replace VC := VC.to bb
        clear bb
        have HF := Lib.hid HB
        clear HB
        go_wp2
        first | exact HF.out | exact ⟨by decide, HF.out⟩
  rintro v' W4 ⟨_, _, _, _, _, _, _, _, _, _, _, _, _, _, _, _, _, _, _, _, _, _, _, _, _, _, _, _, _, _, rfl, HB⟩
  simp only [Act.put, List.setIfInBounds_toArray, List.set_cons_zero, List.set_cons_succ]
  replace VA := VA.to HB
  replace VB := VB.to HB
  replace VC := VC.to HB
  replace HB0 := Lib.hid (HB0.out.trans (HB.mono HB0.out.size))
  clear HB
  go_wp2_with fail
  obtain ⟨s, hs⟩ : ∃ s, sgnQ c = s := ⟨_, rfl⟩
  obtain ⟨m, hm⟩ : ∃ m, cmpQ (a * c) (b * c) = m := ⟨_, rfl⟩
  have hxm : IntKind.i64.wrap (x * s) = m := by rw [← HX.out, ← hs, ← hm]; exact cmpQ_mul a b c
  have HS := Lib.hid hs
  have HM := Lib.hid hm
  clear hs hm
  have mr1 : Qm 13 (a + c) := by have h := mA.add mC; exact h
  have mr2 : Qm 13 (b + c) := by have h := mB.add mC; exact h
  have mr3 : Qm 12 (a * c) := by have h := mA.mul mC; exact h
  have mr4 : Qm 12 (b * c) := by have h := mB.mul mC; exact h
  refine wp_region_plan (S := fun w' => Below W4.heap.size W4 w') [(0, true), (1, true), (3, true), (4, true), (7, true), (2, false), (5, false), (6, false), (8, true), (9, true), (10, true), (11, true), (13, true), (14, true), (17, true), (18, true), (12, false), (15, false), (16, false), (19, false), (20, true), (21, true), (22, true)] (by kernel_rfl) (by kernel_rfl) (Below.refl _ _).drew ?_
  have HB := (Below.refl W4.heap.size W4).drew
  refine plan_take rfl (by rfl) (fun w' hS => load_four (by rfl) (VA.four.to hS)) ?_; simp only [Act.put, List.setIfInBounds_toArray, List.set_cons_zero, List.set_cons_succ]
  refine plan_take rfl (by rfl) (fun w' hS => load_four (by rfl) (VC.four.to hS)) ?_; simp only [Act.put, List.setIfInBounds_toArray, List.set_cons_zero, List.set_cons_succ]
  refine plan_take rfl (by rfl) (fun w' hS => load_four (by rfl) (VB.four.to hS)) ?_; simp only [Act.put, List.setIfInBounds_toArray, List.set_cons_zero, List.set_cons_succ]
  refine plan_take rfl (by rfl) (fun w' hS => load_four (by rfl) (VC.four.to hS)) ?_; simp only [Act.put, List.setIfInBounds_toArray, List.set_cons_zero, List.set_cons_succ]
  refine plan_take (v := ?_) rfl (by rfl) ?_ ?_; rotate_left; (focus (intro w' _; go_simp; try with_reducible rfl)); simp only [Act.put, List.setIfInBounds_toArray, List.set_cons_zero, List.set_cons_succ]
  refine plan_call rfl (by rfl) (fun K hK => ?_)
  go_simp
  refine (add_q (VA.qi.to HB) (VC.qi.to HB) (by decide) (by decide) (by decide)).mono ?_
  rintro e V ⟨ur1, vr1, xr1, yr1, rfl, r1, bb⟩
  replace HB := HB.trans (bb.mono HB.size)
  refine hK.out _ _ HB ?_
  clear hK K bb
  refine plan_call rfl (by rfl) (fun K hK => ?_)
  go_simp
  refine (add_q (VB.qi.to HB) (VC.qi.to HB) (by decide) (by decide) (by decide)).mono ?_
  rintro e V ⟨ur2, vr2, xr2, yr2, rfl, r2, bb⟩
  replace HB := HB.trans (bb.mono HB.size)
  replace r1 := r1.to bb
  refine hK.out _ _ HB ?_
  clear hK K bb
  refine plan_call rfl (by rfl) (fun K hK => ?_)
  go_simp
  refine (cmp_q (r1.qi mr1 (by decide)) (r2.qi mr2 (by decide)) (by decide) (by decide) (by decide) ((cmpQ_add a b c).trans HX.out)).mono ?_
  rintro e V ⟨rfl, bb⟩
  replace HB := HB.trans (bb.mono HB.size)
  clear r1
  clear r2
  refine hK.out _ _ HB ?_
  clear hK K bb
  refine plan_take (v := ?_) rfl (by rfl) ?_ ?_; rotate_left; (focus (intro w' _; go_simp; try with_reducible rfl)); simp only [Act.put, List.setIfInBounds_toArray, List.set_cons_zero, List.set_cons_succ]
  refine plan_take (v := ?_) rfl (by rfl) ?_ ?_; rotate_left; (focus (intro w' _; go_simp; try with_reducible rfl)); simp only [Act.put, List.setIfInBounds_toArray, List.set_cons_zero, List.set_cons_succ]
  refine plan_take rfl (by rfl) (fun w' hS => load_four (by rfl) (VA.four.to hS)) ?_; simp only [Act.put, List.setIfInBounds_toArray, List.set_cons_zero, List.set_cons_succ]
  refine plan_take rfl (by rfl) (fun w' hS => load_four (by rfl) (VC.four.to hS)) ?_; simp only [Act.put, List.setIfInBounds_toArray, List.set_cons_zero, List.set_cons_succ]
  refine plan_take rfl (by rfl) (fun w' hS => load_four (by rfl) (VB.four.to hS)) ?_; simp only [Act.put, List.setIfInBounds_toArray, List.set_cons_zero, List.set_cons_succ]
  refine plan_take rfl (by rfl) (fun w' hS => load_four (by rfl) (VC.four.to hS)) ?_; simp only [Act.put, List.setIfInBounds_toArray, List.set_cons_zero, List.set_cons_succ]
  refine plan_take (v := ?_) rfl (by rfl) ?_ ?_; rotate_left; (focus (intro w' _; go_simp; try with_reducible rfl)); simp only [Act.put, List.setIfInBounds_toArray, List.set_cons_zero, List.set_cons_succ]
  refine plan_take rfl (by rfl) (fun w' hS => load_four (by rfl) (VC.four.to hS)) ?_; simp only [Act.put, List.setIfInBounds_toArray, List.set_cons_zero, List.set_cons_succ]
  refine plan_call rfl (by rfl) (fun K hK => ?_)
  go_simp
  refine (mul_q (VA.qi.to HB) (VC.qi.to HB) (by decide) (by decide) (by decide)).mono ?_
  rintro e V ⟨ur3, vr3, xr3, yr3, rfl, r3, bb⟩
  replace HB := HB.trans (bb.mono HB.size)
  refine hK.out _ _ HB ?_
  clear hK K bb
  refine plan_call rfl (by rfl) (fun K hK => ?_)
  go_simp
  refine (mul_q (VB.qi.to HB) (VC.qi.to HB) (by decide) (by decide) (by decide)).mono ?_
  rintro e V ⟨ur4, vr4, xr4, yr4, rfl, r4, bb⟩
  replace HB := HB.trans (bb.mono HB.size)
  replace r3 := r3.to bb
  refine hK.out _ _ HB ?_
  clear hK K bb
  refine plan_call rfl (by rfl) (fun K hK => ?_)
  go_simp
  refine (cmp_q (r3.qi mr3 (by decide)) (r4.qi mr4 (by decide)) (by decide) (by decide) (by decide) HM.out).mono ?_
  rintro e V ⟨rfl, bb⟩
  replace HB := HB.trans (bb.mono HB.size)
  clear r3
  clear r4
  refine hK.out _ _ HB ?_
  clear hK K bb
  refine plan_call rfl (by rfl) (fun K hK => ?_)
  go_simp
  refine (sign_q (VC.qi.to HB) HS.out).mono ?_
  rintro e V ⟨rfl, bb⟩
  replace HB := HB.trans (bb.mono HB.size)
  refine hK.out _ _ HB ?_
  clear hK K bb
  refine plan_take (v := ?_) rfl (by rfl) ?_ ?_; rotate_left; (focus (intro w' _; go_simp; try with_reducible rfl)); simp only [Act.put, List.setIfInBounds_toArray, List.set_cons_zero, List.set_cons_succ]
  refine plan_take (v := ?_) rfl (by rfl) ?_ ?_; rotate_left; (focus (intro w' _; go_simp; try with_reducible rfl)); simp only [Act.put, List.setIfInBounds_toArray, List.set_cons_zero, List.set_cons_succ]
  refine plan_take (v := ?_) rfl (by rfl) ?_ ?_; rotate_left; (focus (intro w' _; go_simp; try with_reducible rfl)); simp only [Act.put, List.setIfInBounds_toArray, List.set_cons_zero, List.set_cons_succ]
  refine plan_done ?_
  replace VA := VA.to HB
  replace VB := VB.to HB
  replace VC := VC.to HB
  replace HB0 := Lib.hid (HB0.out.trans (HB.mono HB0.out.size))
  clear HB
  clear hxm HX HY HX2 HX' HM HS
  go_wp2_with fail
  obtain ⟨W5, hW5⟩ : ∃ W', W' = V := ⟨_, rfl⟩
  subst hW5
  have mF := qm_floor mA
  have mG := qm_ceil mA
  have sF : Sg a.floor := Sm.sg (k := 6) mF.1 (by decide)
  have sG : Sg a.ceil := Sm.sg (k := 6) mG.1 (by decide)
  refine wp_cut (fun a' v' w' => ∃ (g1 g2 : Nat) (u10 u11 u12 u13 u20 u21 u22 u23 x78 x79 x81 x82 : Value), v' = ((((((((a'.put (some 78) x78).put (some 79) x79).put (some 80) (.agg #[u10, u11, u12, u13])).put (some 81) x81).put (some 82) x82).put (some 83) (.agg #[u20, u21, u22, u23])).put (some 9) (.pointer (some ⟨g1, 0, none⟩))).put (some 10) (.pointer (some ⟨g2, 0, none⟩))) ∧ Four w' g1 u10 u11 u12 u13 ∧ Four w' g2 u20 u21 u22 u23 ∧ Qc w' u10 u11 u12 u13 (a.floor : Rat) ∧ Qc w' u20 u21 u22 u23 (a.ceil : Rat) ∧ Below W5.heap.size W5 w') ?_ ?_
  · refine wp_region_planTo (S := fun w' => Below W5.heap.size W5 w') [(0, true), (3, true)] #[true, false, false, true, false, false, false, false, false, false] 8 (by kernel_rfl) (by kernel_rfl) (Below.refl _ _).drew ?_
    refine plan_take rfl (by rfl) (fun w' hS => load_four (by rfl) (VA.four.to hS)) ?_; simp only [Act.put, List.setIfInBounds_toArray, List.set_cons_zero, List.set_cons_succ]
    refine plan_take rfl (by rfl) (fun w' hS => load_four (by rfl) (VA.four.to hS)) ?_; simp only [Act.put, List.setIfInBounds_toArray, List.set_cons_zero, List.set_cons_succ]
    intro HB
    refine wpAnyH_ready (rs := [1, 6, 7]) (by kernel_rfl) (by simp) (ready_cons rfl (by rfl) (fun K hK => ?_) (ready_cons rfl (by rfl) (fun K hK => ?_) (ready_cons rfl (by rfl) (fun K hK => ?_) AllReadyH.nil)))
    · go_simp
      refine (floor_q (VA.to HB).qi (by decide) (by decide)).mono ?_
      rintro e V ⟨z10, z11, rfl, r1, bb⟩
      replace HB := HB.trans (bb.mono HB.size)
      refine hK.out _ _ HB ?_
      clear hK K bb
      refine wpAnyH_ready (rs := [2, 6, 7]) (by kernel_rfl) (by simp) (ready_cons rfl (by rfl) (fun K hK => ?_) (ready_cons rfl (by rfl) (fun K hK => ?_) (ready_cons rfl (by rfl) (fun K hK => ?_) AllReadyH.nil)))
      · go_simp
        refine (fromInteger_z (r1.zs sF).zi).mono ?_
        rintro e V ⟨u10, u11, u12, u13, rfl, r2, bb⟩
        replace HB := HB.trans (bb.mono HB.size)
        refine hK.out _ _ HB ?_
        clear hK K bb
        refine wpAnyH_ready (rs := [4, 6, 7]) (by kernel_rfl) (by simp) (ready_cons rfl (by rfl) (fun K hK => ?_) (ready_cons rfl (by rfl) (fun K hK => ?_) (ready_cons rfl (by rfl) (fun K hK => ?_) AllReadyH.nil)))
        · go_simp
          refine (ceil_q (VA.to HB).qi (by decide) (by decide)).mono ?_
          rintro e V ⟨z20, z21, rfl, r3, bb⟩
          replace HB := HB.trans (bb.mono HB.size)
          replace r2 := r2.to bb
          refine hK.out _ _ HB ?_
          clear hK K bb
          refine wpAnyH_ready (rs := [5, 6, 7]) (by kernel_rfl) (by simp) (ready_cons rfl (by rfl) (fun K hK => ?_) (ready_cons rfl (by rfl) (fun K hK => ?_) (ready_cons rfl (by rfl) (fun K hK => ?_) AllReadyH.nil)))
          · go_simp
            refine (fromInteger_z (r3.zs sG).zi).mono ?_
            rintro e V ⟨u20, u21, u22, u23, rfl, r4, bb⟩
            replace HB := HB.trans (bb.mono HB.size)
            replace r2 := r2.to bb
            refine hK.out _ _ HB ?_
            clear hK K bb
            refine wpAnyH_ready (rs := [6, 7]) (by kernel_rfl) (by simp) (ready_cons rfl (by rfl) (fun K hK => ?_) (ready_cons rfl (by rfl) (fun K hK => ?_) AllReadyH.nil))
            · refine wp_alloc_four (fun g1 V t1 bb hg => ?_)
              have b1 := Nat.le_trans HB.size hg
              replace HB := HB.trans (bb.mono HB.size)
              replace r2 := r2.to bb
              replace r4 := r4.to bb
              refine hK.out _ _ HB ?_
              clear hK K bb hg
              simp only [Act.put, List.setIfInBounds_toArray, List.set_cons_zero, List.set_cons_succ]
              refine wpAnyH_ready (rs := [7]) (by kernel_rfl) (by simp) (ready_cons rfl (by rfl) (fun K hK => ?_) AllReadyH.nil)
              · refine wp_alloc_four (fun g2 V t2 bb hg => ?_)
                have b2 := Nat.le_trans HB.size hg
                replace HB := HB.trans (bb.mono HB.size)
                have ne : g1 ≠ g2 := Nat.ne_of_lt (Nat.lt_of_lt_of_le t1.lt hg)
                replace t1 := t1.to bb
                replace r2 := r2.to bb
                replace r4 := r4.to bb
                refine hK.out _ _ HB ?_
                clear hK K bb hg
                simp only [Act.put, List.setIfInBounds_toArray, List.set_cons_zero, List.set_cons_succ]
                refine wpAnyH_ready (rs := [8]) (by kernel_rfl) (by simp) (ready_cons rfl (by rfl) (fun K hK => ?_) AllReadyH.nil)
                · refine wp_store_q (by rfl) (by rfl) t1 Fq.nil r2.fq (fun V u kp => ?_)
                  replace t2 := kp.four (Ne.symm ne) t2
                  replace r2 := kp.qc r2
                  replace r4 := kp.qc r4
                  replace HB := kp.bel _ _ HB b1
                  clear t1
                  have t1 := u
                  refine hK.out _ _ HB ?_
                  clear hK K kp u
                  simp only [Act.put, List.setIfInBounds_toArray, List.set_cons_zero, List.set_cons_succ]
                  refine wpAnyH_ready (rs := [9]) (by kernel_rfl) (by simp) (ready_cons rfl (by rfl) (fun K hK => ?_) AllReadyH.nil)
                  · refine wp_store_q (by rfl) (by rfl) t2 Fq.nil r4.fq (fun V u kp => ?_)
                    replace t1 := kp.four ne t1
                    replace r2 := kp.qc r2
                    replace r4 := kp.qc r4
                    replace HB := kp.bel _ _ HB b2
                    clear t2
                    have t2 := u
                    refine hK.out _ _ HB ?_
                    clear hK K kp u
                    simp only [Act.put, List.setIfInBounds_toArray, List.set_cons_zero, List.set_cons_succ]
                    exact wpAnyH_done (by kernel_rfl) ⟨rfl, g1, g2, _, _, _, _, _, _, _, _, _, _, _, _, by rfl, t1, t2, r2, r4, HB⟩ _
            · refine wp_alloc_four (fun g2 V t2 bb hg => ?_)
              have b2 := Nat.le_trans HB.size hg
              replace HB := HB.trans (bb.mono HB.size)
              replace r2 := r2.to bb
              replace r4 := r4.to bb
              refine hK.out _ _ HB ?_
              clear hK K bb hg
              simp only [Act.put, List.setIfInBounds_toArray, List.set_cons_zero, List.set_cons_succ]
              refine wpAnyH_ready (rs := [6]) (by kernel_rfl) (by simp) (ready_cons rfl (by rfl) (fun K hK => ?_) AllReadyH.nil)
              · refine wp_alloc_four (fun g1 V t1 bb hg => ?_)
                have b1 := Nat.le_trans HB.size hg
                replace HB := HB.trans (bb.mono HB.size)
                have ne : g1 ≠ g2 := Nat.ne_of_gt (Nat.lt_of_lt_of_le t2.lt hg)
                replace t2 := t2.to bb
                replace r2 := r2.to bb
                replace r4 := r4.to bb
                refine hK.out _ _ HB ?_
                clear hK K bb hg
                simp only [Act.put, List.setIfInBounds_toArray, List.set_cons_zero, List.set_cons_succ]
                refine wpAnyH_ready (rs := [8]) (by kernel_rfl) (by simp) (ready_cons rfl (by rfl) (fun K hK => ?_) AllReadyH.nil)
                · refine wp_store_q (by rfl) (by rfl) t1 Fq.nil r2.fq (fun V u kp => ?_)
                  replace t2 := kp.four (Ne.symm ne) t2
                  replace r2 := kp.qc r2
                  replace r4 := kp.qc r4
                  replace HB := kp.bel _ _ HB b1
                  clear t1
                  have t1 := u
                  refine hK.out _ _ HB ?_
                  clear hK K kp u
                  simp only [Act.put, List.setIfInBounds_toArray, List.set_cons_zero, List.set_cons_succ]
                  refine wpAnyH_ready (rs := [9]) (by kernel_rfl) (by simp) (ready_cons rfl (by rfl) (fun K hK => ?_) AllReadyH.nil)
                  · refine wp_store_q (by rfl) (by rfl) t2 Fq.nil r4.fq (fun V u kp => ?_)
                    replace t1 := kp.four ne t1
                    replace r2 := kp.qc r2
                    replace r4 := kp.qc r4
                    replace HB := kp.bel _ _ HB b2
                    clear t2
                    have t2 := u
                    refine hK.out _ _ HB ?_
                    clear hK K kp u
                    simp only [Act.put, List.setIfInBounds_toArray, List.set_cons_zero, List.set_cons_succ]
                    exact wpAnyH_done (by kernel_rfl) ⟨rfl, g1, g2, _, _, _, _, _, _, _, _, _, _, _, _, by rfl, t1, t2, r2, r4, HB⟩ _
          · refine wp_alloc_four (fun g1 V t1 bb hg => ?_)
            have b1 := Nat.le_trans HB.size hg
            replace HB := HB.trans (bb.mono HB.size)
            replace r2 := r2.to bb
            replace r3 := r3.to bb
            refine hK.out _ _ HB ?_
            clear hK K bb hg
            simp only [Act.put, List.setIfInBounds_toArray, List.set_cons_zero, List.set_cons_succ]
            refine wpAnyH_ready (rs := [5, 7]) (by kernel_rfl) (by simp) (ready_cons rfl (by rfl) (fun K hK => ?_) (ready_cons rfl (by rfl) (fun K hK => ?_) AllReadyH.nil))
            · go_simp
              refine (fromInteger_z (r3.zs sG).zi).mono ?_
              rintro e V ⟨u20, u21, u22, u23, rfl, r4, bb⟩
              replace HB := HB.trans (bb.mono HB.size)
              replace t1 := t1.to bb
              replace r2 := r2.to bb
              refine hK.out _ _ HB ?_
              clear hK K bb
              refine wpAnyH_ready (rs := [7]) (by kernel_rfl) (by simp) (ready_cons rfl (by rfl) (fun K hK => ?_) AllReadyH.nil)
              · refine wp_alloc_four (fun g2 V t2 bb hg => ?_)
                have b2 := Nat.le_trans HB.size hg
                replace HB := HB.trans (bb.mono HB.size)
                have ne : g1 ≠ g2 := Nat.ne_of_lt (Nat.lt_of_lt_of_le t1.lt hg)
                replace t1 := t1.to bb
                replace r2 := r2.to bb
                replace r4 := r4.to bb
                refine hK.out _ _ HB ?_
                clear hK K bb hg
                simp only [Act.put, List.setIfInBounds_toArray, List.set_cons_zero, List.set_cons_succ]
                refine wpAnyH_ready (rs := [8]) (by kernel_rfl) (by simp) (ready_cons rfl (by rfl) (fun K hK => ?_) AllReadyH.nil)
                · refine wp_store_q (by rfl) (by rfl) t1 Fq.nil r2.fq (fun V u kp => ?_)
                  replace t2 := kp.four (Ne.symm ne) t2
                  replace r2 := kp.qc r2
                  replace r4 := kp.qc r4
                  replace HB := kp.bel _ _ HB b1
                  clear t1
                  have t1 := u
                  refine hK.out _ _ HB ?_
                  clear hK K kp u
                  simp only [Act.put, List.setIfInBounds_toArray, List.set_cons_zero, List.set_cons_succ]
                  refine wpAnyH_ready (rs := [9]) (by kernel_rfl) (by simp) (ready_cons rfl (by rfl) (fun K hK => ?_) AllReadyH.nil)
                  · refine wp_store_q (by rfl) (by rfl) t2 Fq.nil r4.fq (fun V u kp => ?_)
                    replace t1 := kp.four ne t1
                    replace r2 := kp.qc r2
                    replace r4 := kp.qc r4
                    replace HB := kp.bel _ _ HB b2
                    clear t2
                    have t2 := u
                    refine hK.out _ _ HB ?_
                    clear hK K kp u
                    simp only [Act.put, List.setIfInBounds_toArray, List.set_cons_zero, List.set_cons_succ]
                    exact wpAnyH_done (by kernel_rfl) ⟨rfl, g1, g2, _, _, _, _, _, _, _, _, _, _, _, _, by rfl, t1, t2, r2, r4, HB⟩ _
            · refine wp_alloc_four (fun g2 V t2 bb hg => ?_)
              have b2 := Nat.le_trans HB.size hg
              replace HB := HB.trans (bb.mono HB.size)
              have ne : g1 ≠ g2 := Nat.ne_of_lt (Nat.lt_of_lt_of_le t1.lt hg)
              replace t1 := t1.to bb
              replace r2 := r2.to bb
              replace r3 := r3.to bb
              refine hK.out _ _ HB ?_
              clear hK K bb hg
              simp only [Act.put, List.setIfInBounds_toArray, List.set_cons_zero, List.set_cons_succ]
              refine wpAnyH_ready (rs := [5]) (by kernel_rfl) (by simp) (ready_cons rfl (by rfl) (fun K hK => ?_) AllReadyH.nil)
              · go_simp
                refine (fromInteger_z (r3.zs sG).zi).mono ?_
                rintro e V ⟨u20, u21, u22, u23, rfl, r4, bb⟩
                replace HB := HB.trans (bb.mono HB.size)
                replace t1 := t1.to bb
                replace t2 := t2.to bb
                replace r2 := r2.to bb
                refine hK.out _ _ HB ?_
                clear hK K bb
                refine wpAnyH_ready (rs := [8]) (by kernel_rfl) (by simp) (ready_cons rfl (by rfl) (fun K hK => ?_) AllReadyH.nil)
                · refine wp_store_q (by rfl) (by rfl) t1 Fq.nil r2.fq (fun V u kp => ?_)
                  replace t2 := kp.four (Ne.symm ne) t2
                  replace r2 := kp.qc r2
                  replace r4 := kp.qc r4
                  replace HB := kp.bel _ _ HB b1
                  clear t1
                  have t1 := u
                  refine hK.out _ _ HB ?_
                  clear hK K kp u
                  simp only [Act.put, List.setIfInBounds_toArray, List.set_cons_zero, List.set_cons_succ]
                  refine wpAnyH_ready (rs := [9]) (by kernel_rfl) (by simp) (ready_cons rfl (by rfl) (fun K hK => ?_) AllReadyH.nil)
                  · refine wp_store_q (by rfl) (by rfl) t2 Fq.nil r4.fq (fun V u kp => ?_)
                    replace t1 := kp.four ne t1
                    replace r2 := kp.qc r2
                    replace r4 := kp.qc r4
                    replace HB := kp.bel _ _ HB b2
                    clear t2
                    have t2 := u
                    refine hK.out _ _ HB ?_
                    clear hK K kp u
                    simp only [Act.put, List.setIfInBounds_toArray, List.set_cons_zero, List.set_cons_succ]
                    exact wpAnyH_done (by kernel_rfl) ⟨rfl, g1, g2, _, _, _, _, _, _, _, _, _, _, _, _, by rfl, t1, t2, r2, r4, HB⟩ _
          · refine wp_alloc_four (fun g2 V t2 bb hg => ?_)
            have b2 := Nat.le_trans HB.size hg
            replace HB := HB.trans (bb.mono HB.size)
            replace r2 := r2.to bb
            replace r3 := r3.to bb
            refine hK.out _ _ HB ?_
            clear hK K bb hg
            simp only [Act.put, List.setIfInBounds_toArray, List.set_cons_zero, List.set_cons_succ]
            refine wpAnyH_ready (rs := [5, 6]) (by kernel_rfl) (by simp) (ready_cons rfl (by rfl) (fun K hK => ?_) (ready_cons rfl (by rfl) (fun K hK => ?_) AllReadyH.nil))
            · go_simp
              refine (fromInteger_z (r3.zs sG).zi).mono ?_
              rintro e V ⟨u20, u21, u22, u23, rfl, r4, bb⟩
              replace HB := HB.trans (bb.mono HB.size)
              replace t2 := t2.to bb
              replace r2 := r2.to bb
              refine hK.out _ _ HB ?_
              clear hK K bb
              refine wpAnyH_ready (rs := [6]) (by kernel_rfl) (by simp) (ready_cons rfl (by rfl) (fun K hK => ?_) AllReadyH.nil)
              · refine wp_alloc_four (fun g1 V t1 bb hg => ?_)
                have b1 := Nat.le_trans HB.size hg
                replace HB := HB.trans (bb.mono HB.size)
                have ne : g1 ≠ g2 := Nat.ne_of_gt (Nat.lt_of_lt_of_le t2.lt hg)
                replace t2 := t2.to bb
                replace r2 := r2.to bb
                replace r4 := r4.to bb
                refine hK.out _ _ HB ?_
                clear hK K bb hg
                simp only [Act.put, List.setIfInBounds_toArray, List.set_cons_zero, List.set_cons_succ]
                refine wpAnyH_ready (rs := [8]) (by kernel_rfl) (by simp) (ready_cons rfl (by rfl) (fun K hK => ?_) AllReadyH.nil)
                · refine wp_store_q (by rfl) (by rfl) t1 Fq.nil r2.fq (fun V u kp => ?_)
                  replace t2 := kp.four (Ne.symm ne) t2
                  replace r2 := kp.qc r2
                  replace r4 := kp.qc r4
                  replace HB := kp.bel _ _ HB b1
                  clear t1
                  have t1 := u
                  refine hK.out _ _ HB ?_
                  clear hK K kp u
                  simp only [Act.put, List.setIfInBounds_toArray, List.set_cons_zero, List.set_cons_succ]
                  refine wpAnyH_ready (rs := [9]) (by kernel_rfl) (by simp) (ready_cons rfl (by rfl) (fun K hK => ?_) AllReadyH.nil)
                  · refine wp_store_q (by rfl) (by rfl) t2 Fq.nil r4.fq (fun V u kp => ?_)
                    replace t1 := kp.four ne t1
                    replace r2 := kp.qc r2
                    replace r4 := kp.qc r4
                    replace HB := kp.bel _ _ HB b2
                    clear t2
                    have t2 := u
                    refine hK.out _ _ HB ?_
                    clear hK K kp u
                    simp only [Act.put, List.setIfInBounds_toArray, List.set_cons_zero, List.set_cons_succ]
                    exact wpAnyH_done (by kernel_rfl) ⟨rfl, g1, g2, _, _, _, _, _, _, _, _, _, _, _, _, by rfl, t1, t2, r2, r4, HB⟩ _
            · refine wp_alloc_four (fun g1 V t1 bb hg => ?_)
              have b1 := Nat.le_trans HB.size hg
              replace HB := HB.trans (bb.mono HB.size)
              have ne : g1 ≠ g2 := Nat.ne_of_gt (Nat.lt_of_lt_of_le t2.lt hg)
              replace t2 := t2.to bb
              replace r2 := r2.to bb
              replace r3 := r3.to bb
              refine hK.out _ _ HB ?_
              clear hK K bb hg
              simp only [Act.put, List.setIfInBounds_toArray, List.set_cons_zero, List.set_cons_succ]
              refine wpAnyH_ready (rs := [5]) (by kernel_rfl) (by simp) (ready_cons rfl (by rfl) (fun K hK => ?_) AllReadyH.nil)
              · go_simp
                refine (fromInteger_z (r3.zs sG).zi).mono ?_
                rintro e V ⟨u20, u21, u22, u23, rfl, r4, bb⟩
                replace HB := HB.trans (bb.mono HB.size)
                replace t1 := t1.to bb
                replace t2 := t2.to bb
                replace r2 := r2.to bb
                refine hK.out _ _ HB ?_
                clear hK K bb
                refine wpAnyH_ready (rs := [8]) (by kernel_rfl) (by simp) (ready_cons rfl (by rfl) (fun K hK => ?_) AllReadyH.nil)
                · refine wp_store_q (by rfl) (by rfl) t1 Fq.nil r2.fq (fun V u kp => ?_)
                  replace t2 := kp.four (Ne.symm ne) t2
                  replace r2 := kp.qc r2
                  replace r4 := kp.qc r4
                  replace HB := kp.bel _ _ HB b1
                  clear t1
                  have t1 := u
                  refine hK.out _ _ HB ?_
                  clear hK K kp u
                  simp only [Act.put, List.setIfInBounds_toArray, List.set_cons_zero, List.set_cons_succ]
                  refine wpAnyH_ready (rs := [9]) (by kernel_rfl) (by simp) (ready_cons rfl (by rfl) (fun K hK => ?_) AllReadyH.nil)
                  · refine wp_store_q (by rfl) (by rfl) t2 Fq.nil r4.fq (fun V u kp => ?_)
                    replace t1 := kp.four ne t1
                    replace r2 := kp.qc r2
                    replace r4 := kp.qc r4
                    replace HB := kp.bel _ _ HB b2
                    clear t2
                    have t2 := u
                    refine hK.out _ _ HB ?_
                    clear hK K kp u
                    simp only [Act.put, List.setIfInBounds_toArray, List.set_cons_zero, List.set_cons_succ]
                    exact wpAnyH_done (by kernel_rfl) ⟨rfl, g1, g2, _, _, _, _, _, _, _, _, _, _, _, _, by rfl, t1, t2, r2, r4, HB⟩ _
        · refine wp_alloc_four (fun g1 V t1 bb hg => ?_)
          have b1 := Nat.le_trans HB.size hg
          replace HB := HB.trans (bb.mono HB.size)
          replace r2 := r2.to bb
          refine hK.out _ _ HB ?_
          clear hK K bb hg
          simp only [Act.put, List.setIfInBounds_toArray, List.set_cons_zero, List.set_cons_succ]
          refine wpAnyH_ready (rs := [4, 7]) (by kernel_rfl) (by simp) (ready_cons rfl (by rfl) (fun K hK => ?_) (ready_cons rfl (by rfl) (fun K hK => ?_) AllReadyH.nil))
          · go_simp
            refine (ceil_q (VA.to HB).qi (by decide) (by decide)).mono ?_
            rintro e V ⟨z20, z21, rfl, r3, bb⟩
            replace HB := HB.trans (bb.mono HB.size)
            replace t1 := t1.to bb
            replace r2 := r2.to bb
            refine hK.out _ _ HB ?_
            clear hK K bb
            refine wpAnyH_ready (rs := [5, 7]) (by kernel_rfl) (by simp) (ready_cons rfl (by rfl) (fun K hK => ?_) (ready_cons rfl (by rfl) (fun K hK => ?_) AllReadyH.nil))
            · go_simp
              refine (fromInteger_z (r3.zs sG).zi).mono ?_
              rintro e V ⟨u20, u21, u22, u23, rfl, r4, bb⟩
              replace HB := HB.trans (bb.mono HB.size)
              replace t1 := t1.to bb
              replace r2 := r2.to bb
              refine hK.out _ _ HB ?_
              clear hK K bb
              refine wpAnyH_ready (rs := [7]) (by kernel_rfl) (by simp) (ready_cons rfl (by rfl) (fun K hK => ?_) AllReadyH.nil)
              · refine wp_alloc_four (fun g2 V t2 bb hg => ?_)
                have b2 := Nat.le_trans HB.size hg
                replace HB := HB.trans (bb.mono HB.size)
                have ne : g1 ≠ g2 := Nat.ne_of_lt (Nat.lt_of_lt_of_le t1.lt hg)
                replace t1 := t1.to bb
                replace r2 := r2.to bb
                replace r4 := r4.to bb
                refine hK.out _ _ HB ?_
                clear hK K bb hg
                simp only [Act.put, List.setIfInBounds_toArray, List.set_cons_zero, List.set_cons_succ]
                refine wpAnyH_ready (rs := [8]) (by kernel_rfl) (by simp) (ready_cons rfl (by rfl) (fun K hK => ?_) AllReadyH.nil)
                · refine wp_store_q (by rfl) (by rfl) t1 Fq.nil r2.fq (fun V u kp => ?_)
                  replace t2 := kp.four (Ne.symm ne) t2
                  replace r2 := kp.qc r2
                  replace r4 := kp.qc r4
                  replace HB := kp.bel _ _ HB b1
                  clear t1
                  have t1 := u
                  refine hK.out _ _ HB ?_
                  clear hK K kp u
                  simp only [Act.put, List.setIfInBounds_toArray, List.set_cons_zero, List.set_cons_succ]
                  refine wpAnyH_ready (rs := [9]) (by kernel_rfl) (by simp) (ready_cons rfl (by rfl) (fun K hK => ?_) AllReadyH.nil)
                  · refine wp_store_q (by rfl) (by rfl) t2 Fq.nil r4.fq (fun V u kp => ?_)
                    replace t1 := kp.four ne t1
                    replace r2 := kp.qc r2
                    replace r4 := kp.qc r4
                    replace HB := kp.bel _ _ HB b2
                    clear t2
                    have t2 := u
                    refine hK.out _ _ HB ?_
                    clear hK K kp u
                    simp only [Act.put, List.setIfInBounds_toArray, List.set_cons_zero, List.set_cons_succ]
                    exact wpAnyH_done (by kernel_rfl) ⟨rfl, g1, g2, _, _, _, _, _, _, _, _, _, _, _, _, by rfl, t1, t2, r2, r4, HB⟩ _
            · refine wp_alloc_four (fun g2 V t2 bb hg => ?_)
              have b2 := Nat.le_trans HB.size hg
              replace HB := HB.trans (bb.mono HB.size)
              have ne : g1 ≠ g2 := Nat.ne_of_lt (Nat.lt_of_lt_of_le t1.lt hg)
              replace t1 := t1.to bb
              replace r2 := r2.to bb
              replace r3 := r3.to bb
              refine hK.out _ _ HB ?_
              clear hK K bb hg
              simp only [Act.put, List.setIfInBounds_toArray, List.set_cons_zero, List.set_cons_succ]
              refine wpAnyH_ready (rs := [5]) (by kernel_rfl) (by simp) (ready_cons rfl (by rfl) (fun K hK => ?_) AllReadyH.nil)
              · go_simp
                refine (fromInteger_z (r3.zs sG).zi).mono ?_
                rintro e V ⟨u20, u21, u22, u23, rfl, r4, bb⟩
                replace HB := HB.trans (bb.mono HB.size)
                replace t1 := t1.to bb
                replace t2 := t2.to bb
                replace r2 := r2.to bb
                refine hK.out _ _ HB ?_
                clear hK K bb
                refine wpAnyH_ready (rs := [8]) (by kernel_rfl) (by simp) (ready_cons rfl (by rfl) (fun K hK => ?_) AllReadyH.nil)
                · refine wp_store_q (by rfl) (by rfl) t1 Fq.nil r2.fq (fun V u kp => ?_)
                  replace t2 := kp.four (Ne.symm ne) t2
                  replace r2 := kp.qc r2
                  replace r4 := kp.qc r4
                  replace HB := kp.bel _ _ HB b1
                  clear t1
                  have t1 := u
                  refine hK.out _ _ HB ?_
                  clear hK K kp u
                  simp only [Act.put, List.setIfInBounds_toArray, List.set_cons_zero, List.set_cons_succ]
                  refine wpAnyH_ready (rs := [9]) (by kernel_rfl) (by simp) (ready_cons rfl (by rfl) (fun K hK => ?_) AllReadyH.nil)
                  · refine wp_store_q (by rfl) (by rfl) t2 Fq.nil r4.fq (fun V u kp => ?_)
                    replace t1 := kp.four ne t1
                    replace r2 := kp.qc r2
                    replace r4 := kp.qc r4
                    replace HB := kp.bel _ _ HB b2
                    clear t2
                    have t2 := u
                    refine hK.out _ _ HB ?_
                    clear hK K kp u
                    simp only [Act.put, List.setIfInBounds_toArray, List.set_cons_zero, List.set_cons_succ]
                    exact wpAnyH_done (by kernel_rfl) ⟨rfl, g1, g2, _, _, _, _, _, _, _, _, _, _, _, _, by rfl, t1, t2, r2, r4, HB⟩ _
          · refine wp_alloc_four (fun g2 V t2 bb hg => ?_)
            have b2 := Nat.le_trans HB.size hg
            replace HB := HB.trans (bb.mono HB.size)
            have ne : g1 ≠ g2 := Nat.ne_of_lt (Nat.lt_of_lt_of_le t1.lt hg)
            replace t1 := t1.to bb
            replace r2 := r2.to bb
            refine hK.out _ _ HB ?_
            clear hK K bb hg
            simp only [Act.put, List.setIfInBounds_toArray, List.set_cons_zero, List.set_cons_succ]
            refine wpAnyH_ready (rs := [4]) (by kernel_rfl) (by simp) (ready_cons rfl (by rfl) (fun K hK => ?_) AllReadyH.nil)
            · go_simp
              refine (ceil_q (VA.to HB).qi (by decide) (by decide)).mono ?_
              rintro e V ⟨z20, z21, rfl, r3, bb⟩
              replace HB := HB.trans (bb.mono HB.size)
              replace t1 := t1.to bb
              replace t2 := t2.to bb
              replace r2 := r2.to bb
              refine hK.out _ _ HB ?_
              clear hK K bb
              refine wpAnyH_ready (rs := [5]) (by kernel_rfl) (by simp) (ready_cons rfl (by rfl) (fun K hK => ?_) AllReadyH.nil)
              · go_simp
                refine (fromInteger_z (r3.zs sG).zi).mono ?_
                rintro e V ⟨u20, u21, u22, u23, rfl, r4, bb⟩
                replace HB := HB.trans (bb.mono HB.size)
                replace t1 := t1.to bb
                replace t2 := t2.to bb
                replace r2 := r2.to bb
                refine hK.out _ _ HB ?_
                clear hK K bb
                refine wpAnyH_ready (rs := [8]) (by kernel_rfl) (by simp) (ready_cons rfl (by rfl) (fun K hK => ?_) AllReadyH.nil)
                · refine wp_store_q (by rfl) (by rfl) t1 Fq.nil r2.fq (fun V u kp => ?_)
                  replace t2 := kp.four (Ne.symm ne) t2
                  replace r2 := kp.qc r2
                  replace r4 := kp.qc r4
                  replace HB := kp.bel _ _ HB b1
                  clear t1
                  have t1 := u
                  refine hK.out _ _ HB ?_
                  clear hK K kp u
                  simp only [Act.put, List.setIfInBounds_toArray, List.set_cons_zero, List.set_cons_succ]
                  refine wpAnyH_ready (rs := [9]) (by kernel_rfl) (by simp) (ready_cons rfl (by rfl) (fun K hK => ?_) AllReadyH.nil)
                  · refine wp_store_q (by rfl) (by rfl) t2 Fq.nil r4.fq (fun V u kp => ?_)
                    replace t1 := kp.four ne t1
                    replace r2 := kp.qc r2
                    replace r4 := kp.qc r4
                    replace HB := kp.bel _ _ HB b2
                    clear t2
                    have t2 := u
                    refine hK.out _ _ HB ?_
                    clear hK K kp u
                    simp only [Act.put, List.setIfInBounds_toArray, List.set_cons_zero, List.set_cons_succ]
                    exact wpAnyH_done (by kernel_rfl) ⟨rfl, g1, g2, _, _, _, _, _, _, _, _, _, _, _, _, by rfl, t1, t2, r2, r4, HB⟩ _
        · refine wp_alloc_four (fun g2 V t2 bb hg => ?_)
          have b2 := Nat.le_trans HB.size hg
          replace HB := HB.trans (bb.mono HB.size)
          replace r2 := r2.to bb
          refine hK.out _ _ HB ?_
          clear hK K bb hg
          simp only [Act.put, List.setIfInBounds_toArray, List.set_cons_zero, List.set_cons_succ]
          refine wpAnyH_ready (rs := [4, 6]) (by kernel_rfl) (by simp) (ready_cons rfl (by rfl) (fun K hK => ?_) (ready_cons rfl (by rfl) (fun K hK => ?_) AllReadyH.nil))
          · go_simp
            refine (ceil_q (VA.to HB).qi (by decide) (by decide)).mono ?_
            rintro e V ⟨z20, z21, rfl, r3, bb⟩
            replace HB := HB.trans (bb.mono HB.size)
            replace t2 := t2.to bb
            replace r2 := r2.to bb
            refine hK.out _ _ HB ?_
            clear hK K bb
            refine wpAnyH_ready (rs := [5, 6]) (by kernel_rfl) (by simp) (ready_cons rfl (by rfl) (fun K hK => ?_) (ready_cons rfl (by rfl) (fun K hK => ?_) AllReadyH.nil))
            · go_simp
              refine (fromInteger_z (r3.zs sG).zi).mono ?_
              rintro e V ⟨u20, u21, u22, u23, rfl, r4, bb⟩
              replace HB := HB.trans (bb.mono HB.size)
              replace t2 := t2.to bb
              replace r2 := r2.to bb
              refine hK.out _ _ HB ?_
              clear hK K bb
              refine wpAnyH_ready (rs := [6]) (by kernel_rfl) (by simp) (ready_cons rfl (by rfl) (fun K hK => ?_) AllReadyH.nil)
              · refine wp_alloc_four (fun g1 V t1 bb hg => ?_)
                have b1 := Nat.le_trans HB.size hg
                replace HB := HB.trans (bb.mono HB.size)
                have ne : g1 ≠ g2 := Nat.ne_of_gt (Nat.lt_of_lt_of_le t2.lt hg)
                replace t2 := t2.to bb
                replace r2 := r2.to bb
                replace r4 := r4.to bb
                refine hK.out _ _ HB ?_
                clear hK K bb hg
                simp only [Act.put, List.setIfInBounds_toArray, List.set_cons_zero, List.set_cons_succ]
                refine wpAnyH_ready (rs := [8]) (by kernel_rfl) (by simp) (ready_cons rfl (by rfl) (fun K hK => ?_) AllReadyH.nil)
                · refine wp_store_q (by rfl) (by rfl) t1 Fq.nil r2.fq (fun V u kp => ?_)
                  replace t2 := kp.four (Ne.symm ne) t2
                  replace r2 := kp.qc r2
                  replace r4 := kp.qc r4
                  replace HB := kp.bel _ _ HB b1
                  clear t1
                  have t1 := u
                  refine hK.out _ _ HB ?_
                  clear hK K kp u
                  simp only [Act.put, List.setIfInBounds_toArray, List.set_cons_zero, List.set_cons_succ]
                  refine wpAnyH_ready (rs := [9]) (by kernel_rfl) (by simp) (ready_cons rfl (by rfl) (fun K hK => ?_) AllReadyH.nil)
                  · refine wp_store_q (by rfl) (by rfl) t2 Fq.nil r4.fq (fun V u kp => ?_)
                    replace t1 := kp.four ne t1
                    replace r2 := kp.qc r2
                    replace r4 := kp.qc r4
                    replace HB := kp.bel _ _ HB b2
                    clear t2
                    have t2 := u
                    refine hK.out _ _ HB ?_
                    clear hK K kp u
                    simp only [Act.put, List.setIfInBounds_toArray, List.set_cons_zero, List.set_cons_succ]
                    exact wpAnyH_done (by kernel_rfl) ⟨rfl, g1, g2, _, _, _, _, _, _, _, _, _, _, _, _, by rfl, t1, t2, r2, r4, HB⟩ _
            · refine wp_alloc_four (fun g1 V t1 bb hg => ?_)
              have b1 := Nat.le_trans HB.size hg
              replace HB := HB.trans (bb.mono HB.size)
              have ne : g1 ≠ g2 := Nat.ne_of_gt (Nat.lt_of_lt_of_le t2.lt hg)
              replace t2 := t2.to bb
              replace r2 := r2.to bb
              replace r3 := r3.to bb
              refine hK.out _ _ HB ?_
              clear hK K bb hg
              simp only [Act.put, List.setIfInBounds_toArray, List.set_cons_zero, List.set_cons_succ]
              refine wpAnyH_ready (rs := [5]) (by kernel_rfl) (by simp) (ready_cons rfl (by rfl) (fun K hK => ?_) AllReadyH.nil)
              · go_simp
                refine (fromInteger_z (r3.zs sG).zi).mono ?_
                rintro e V ⟨u20, u21, u22, u23, rfl, r4, bb⟩
                replace HB := HB.trans (bb.mono HB.size)
                replace t1 := t1.to bb
                replace t2 := t2.to bb
                replace r2 := r2.to bb
                refine hK.out _ _ HB ?_
                clear hK K bb
                refine wpAnyH_ready (rs := [8]) (by kernel_rfl) (by simp) (ready_cons rfl (by rfl) (fun K hK => ?_) AllReadyH.nil)
                · refine wp_store_q (by rfl) (by rfl) t1 Fq.nil r2.fq (fun V u kp => ?_)
                  replace t2 := kp.four (Ne.symm ne) t2
                  replace r2 := kp.qc r2
                  replace r4 := kp.qc r4
                  replace HB := kp.bel _ _ HB b1
                  clear t1
                  have t1 := u
                  refine hK.out _ _ HB ?_
                  clear hK K kp u
                  simp only [Act.put, List.setIfInBounds_toArray, List.set_cons_zero, List.set_cons_succ]
                  refine wpAnyH_ready (rs := [9]) (by kernel_rfl) (by simp) (ready_cons rfl (by rfl) (fun K hK => ?_) AllReadyH.nil)
                  · refine wp_store_q (by rfl) (by rfl) t2 Fq.nil r4.fq (fun V u kp => ?_)
                    replace t1 := kp.four ne t1
                    replace r2 := kp.qc r2
                    replace r4 := kp.qc r4
                    replace HB := kp.bel _ _ HB b2
                    clear t2
                    have t2 := u
                    refine hK.out _ _ HB ?_
                    clear hK K kp u
                    simp only [Act.put, List.setIfInBounds_toArray, List.set_cons_zero, List.set_cons_succ]
                    exact wpAnyH_done (by kernel_rfl) ⟨rfl, g1, g2, _, _, _, _, _, _, _, _, _, _, _, _, by rfl, t1, t2, r2, r4, HB⟩ _
          · refine wp_alloc_four (fun g1 V t1 bb hg => ?_)
            have b1 := Nat.le_trans HB.size hg
            replace HB := HB.trans (bb.mono HB.size)
            have ne : g1 ≠ g2 := Nat.ne_of_gt (Nat.lt_of_lt_of_le t2.lt hg)
            replace t2 := t2.to bb
            replace r2 := r2.to bb
            refine hK.out _ _ HB ?_
            clear hK K bb hg
            simp only [Act.put, List.setIfInBounds_toArray, List.set_cons_zero, List.set_cons_succ]
            refine wpAnyH_ready (rs := [4]) (by kernel_rfl) (by simp) (ready_cons rfl (by rfl) (fun K hK => ?_) AllReadyH.nil)
            · go_simp
              refine (ceil_q (VA.to HB).qi (by decide) (by decide)).mono ?_
              rintro e V ⟨z20, z21, rfl, r3, bb⟩
              replace HB := HB.trans (bb.mono HB.size)
              replace t1 := t1.to bb
              replace t2 := t2.to bb
              replace r2 := r2.to bb
              refine hK.out _ _ HB ?_
              clear hK K bb
              refine wpAnyH_ready (rs := [5]) (by kernel_rfl) (by simp) (ready_cons rfl (by rfl) (fun K hK => ?_) AllReadyH.nil)
              · go_simp
                refine (fromInteger_z (r3.zs sG).zi).mono ?_
                rintro e V ⟨u20, u21, u22, u23, rfl, r4, bb⟩
                replace HB := HB.trans (bb.mono HB.size)
                replace t1 := t1.to bb
                replace t2 := t2.to bb
                replace r2 := r2.to bb
                refine hK.out _ _ HB ?_
                clear hK K bb
                refine wpAnyH_ready (rs := [8]) (by kernel_rfl) (by simp) (ready_cons rfl (by rfl) (fun K hK => ?_) AllReadyH.nil)
                · refine wp_store_q (by rfl) (by rfl) t1 Fq.nil r2.fq (fun V u kp => ?_)
                  replace t2 := kp.four (Ne.symm ne) t2
                  replace r2 := kp.qc r2
                  replace r4 := kp.qc r4
                  replace HB := kp.bel _ _ HB b1
                  clear t1
                  have t1 := u
                  refine hK.out _ _ HB ?_
                  clear hK K kp u
                  simp only [Act.put, List.setIfInBounds_toArray, List.set_cons_zero, List.set_cons_succ]
                  refine wpAnyH_ready (rs := [9]) (by kernel_rfl) (by simp) (ready_cons rfl (by rfl) (fun K hK => ?_) AllReadyH.nil)
                  · refine wp_store_q (by rfl) (by rfl) t2 Fq.nil r4.fq (fun V u kp => ?_)
                    replace t1 := kp.four ne t1
                    replace r2 := kp.qc r2
                    replace r4 := kp.qc r4
                    replace HB := kp.bel _ _ HB b2
                    clear t2
                    have t2 := u
                    refine hK.out _ _ HB ?_
                    clear hK K kp u
                    simp only [Act.put, List.setIfInBounds_toArray, List.set_cons_zero, List.set_cons_succ]
                    exact wpAnyH_done (by kernel_rfl) ⟨rfl, g1, g2, _, _, _, _, _, _, _, _, _, _, _, _, by rfl, t1, t2, r2, r4, HB⟩ _
      · refine wp_alloc_four (fun g1 V t1 bb hg => ?_)
        have b1 := Nat.le_trans HB.size hg
        replace HB := HB.trans (bb.mono HB.size)
        replace r1 := r1.to bb
        refine hK.out _ _ HB ?_
        clear hK K bb hg
        simp only [Act.put, List.setIfInBounds_toArray, List.set_cons_zero, List.set_cons_succ]
        refine wpAnyH_ready (rs := [2, 7]) (by kernel_rfl) (by simp) (ready_cons rfl (by rfl) (fun K hK => ?_) (ready_cons rfl (by rfl) (fun K hK => ?_) AllReadyH.nil))
        · go_simp
          refine (fromInteger_z (r1.zs sF).zi).mono ?_
          rintro e V ⟨u10, u11, u12, u13, rfl, r2, bb⟩
          replace HB := HB.trans (bb.mono HB.size)
          replace t1 := t1.to bb
          refine hK.out _ _ HB ?_
          clear hK K bb
          refine wpAnyH_ready (rs := [4, 7]) (by kernel_rfl) (by simp) (ready_cons rfl (by rfl) (fun K hK => ?_) (ready_cons rfl (by rfl) (fun K hK => ?_) AllReadyH.nil))
          · go_simp
            refine (ceil_q (VA.to HB).qi (by decide) (by decide)).mono ?_
            rintro e V ⟨z20, z21, rfl, r3, bb⟩
            replace HB := HB.trans (bb.mono HB.size)
            replace t1 := t1.to bb
            replace r2 := r2.to bb
            refine hK.out _ _ HB ?_
            clear hK K bb
            refine wpAnyH_ready (rs := [5, 7]) (by kernel_rfl) (by simp) (ready_cons rfl (by rfl) (fun K hK => ?_) (ready_cons rfl (by rfl) (fun K hK => ?_) AllReadyH.nil))
            · go_simp
              refine (fromInteger_z (r3.zs sG).zi).mono ?_
              rintro e V ⟨u20, u21, u22, u23, rfl, r4, bb⟩
              replace HB := HB.trans (bb.mono HB.size)
              replace t1 := t1.to bb
              replace r2 := r2.to bb
              refine hK.out _ _ HB ?_
              clear hK K bb
              refine wpAnyH_ready (rs := [7]) (by kernel_rfl) (by simp) (ready_cons rfl (by rfl) (fun K hK => ?_) AllReadyH.nil)
              · refine wp_alloc_four (fun g2 V t2 bb hg => ?_)
                have b2 := Nat.le_trans HB.size hg
                replace HB := HB.trans (bb.mono HB.size)
                have ne : g1 ≠ g2 := Nat.ne_of_lt (Nat.lt_of_lt_of_le t1.lt hg)
                replace t1 := t1.to bb
                replace r2 := r2.to bb
                replace r4 := r4.to bb
                refine hK.out _ _ HB ?_
                clear hK K bb hg
                simp only [Act.put, List.setIfInBounds_toArray, List.set_cons_zero, List.set_cons_succ]
                refine wpAnyH_ready (rs := [8]) (by kernel_rfl) (by simp) (ready_cons rfl (by rfl) (fun K hK => ?_) AllReadyH.nil)
                · refine wp_store_q (by rfl) (by rfl) t1 Fq.nil r2.fq (fun V u kp => ?_)
                  replace t2 := kp.four (Ne.symm ne) t2
                  replace r2 := kp.qc r2
                  replace r4 := kp.qc r4
                  replace HB := kp.bel _ _ HB b1
                  clear t1
                  have t1 := u
                  refine hK.out _ _ HB ?_
                  clear hK K kp u
                  simp only [Act.put, List.setIfInBounds_toArray, List.set_cons_zero, List.set_cons_succ]
                  refine wpAnyH_ready (rs := [9]) (by kernel_rfl) (by simp) (ready_cons rfl (by rfl) (fun K hK => ?_) AllReadyH.nil)
                  · refine wp_store_q (by rfl) (by rfl) t2 Fq.nil r4.fq (fun V u kp => ?_)
                    replace t1 := kp.four ne t1
                    replace r2 := kp.qc r2
                    replace r4 := kp.qc r4
                    replace HB := kp.bel _ _ HB b2
                    clear t2
                    have t2 := u
                    refine hK.out _ _ HB ?_
                    clear hK K kp u
                    simp only [Act.put, List.setIfInBounds_toArray, List.set_cons_zero, List.set_cons_succ]
                    exact wpAnyH_done (by kernel_rfl) ⟨rfl, g1, g2, _, _, _, _, _, _, _, _, _, _, _, _, by rfl, t1, t2, r2, r4, HB⟩ _
            · refine wp_alloc_four (fun g2 V t2 bb hg => ?_)
              have b2 := Nat.le_trans HB.size hg
              replace HB := HB.trans (bb.mono HB.size)
              have ne : g1 ≠ g2 := Nat.ne_of_lt (Nat.lt_of_lt_of_le t1.lt hg)
              replace t1 := t1.to bb
              replace r2 := r2.to bb
              replace r3 := r3.to bb
              refine hK.out _ _ HB ?_
              clear hK K bb hg
              simp only [Act.put, List.setIfInBounds_toArray, List.set_cons_zero, List.set_cons_succ]
              refine wpAnyH_ready (rs := [5]) (by kernel_rfl) (by simp) (ready_cons rfl (by rfl) (fun K hK => ?_) AllReadyH.nil)
              · go_simp
                refine (fromInteger_z (r3.zs sG).zi).mono ?_
                rintro e V ⟨u20, u21, u22, u23, rfl, r4, bb⟩
                replace HB := HB.trans (bb.mono HB.size)
                replace t1 := t1.to bb
                replace t2 := t2.to bb
                replace r2 := r2.to bb
                refine hK.out _ _ HB ?_
                clear hK K bb
                refine wpAnyH_ready (rs := [8]) (by kernel_rfl) (by simp) (ready_cons rfl (by rfl) (fun K hK => ?_) AllReadyH.nil)
                · refine wp_store_q (by rfl) (by rfl) t1 Fq.nil r2.fq (fun V u kp => ?_)
                  replace t2 := kp.four (Ne.symm ne) t2
                  replace r2 := kp.qc r2
                  replace r4 := kp.qc r4
                  replace HB := kp.bel _ _ HB b1
                  clear t1
                  have t1 := u
                  refine hK.out _ _ HB ?_
                  clear hK K kp u
                  simp only [Act.put, List.setIfInBounds_toArray, List.set_cons_zero, List.set_cons_succ]
                  refine wpAnyH_ready (rs := [9]) (by kernel_rfl) (by simp) (ready_cons rfl (by rfl) (fun K hK => ?_) AllReadyH.nil)
                  · refine wp_store_q (by rfl) (by rfl) t2 Fq.nil r4.fq (fun V u kp => ?_)
                    replace t1 := kp.four ne t1
                    replace r2 := kp.qc r2
                    replace r4 := kp.qc r4
                    replace HB := kp.bel _ _ HB b2
                    clear t2
                    have t2 := u
                    refine hK.out _ _ HB ?_
                    clear hK K kp u
                    simp only [Act.put, List.setIfInBounds_toArray, List.set_cons_zero, List.set_cons_succ]
                    exact wpAnyH_done (by kernel_rfl) ⟨rfl, g1, g2, _, _, _, _, _, _, _, _, _, _, _, _, by rfl, t1, t2, r2, r4, HB⟩ _
          · refine wp_alloc_four (fun g2 V t2 bb hg => ?_)
            have b2 := Nat.le_trans HB.size hg
            replace HB := HB.trans (bb.mono HB.size)
            have ne : g1 ≠ g2 := Nat.ne_of_lt (Nat.lt_of_lt_of_le t1.lt hg)
            replace t1 := t1.to bb
            replace r2 := r2.to bb
            refine hK.out _ _ HB ?_
            clear hK K bb hg
            simp only [Act.put, List.setIfInBounds_toArray, List.set_cons_zero, List.set_cons_succ]
            refine wpAnyH_ready (rs := [4]) (by kernel_rfl) (by simp) (ready_cons rfl (by rfl) (fun K hK => ?_) AllReadyH.nil)
            · go_simp
              refine (ceil_q (VA.to HB).qi (by decide) (by decide)).mono ?_
              rintro e V ⟨z20, z21, rfl, r3, bb⟩
              replace HB := HB.trans (bb.mono HB.size)
              replace t1 := t1.to bb
              replace t2 := t2.to bb
              replace r2 := r2.to bb
              refine hK.out _ _ HB ?_
              clear hK K bb
              refine wpAnyH_ready (rs := [5]) (by kernel_rfl) (by simp) (ready_cons rfl (by rfl) (fun K hK => ?_) AllReadyH.nil)
              · go_simp
                refine (fromInteger_z (r3.zs sG).zi).mono ?_
                rintro e V ⟨u20, u21, u22, u23, rfl, r4, bb⟩
                replace HB := HB.trans (bb.mono HB.size)
                replace t1 := t1.to bb
                replace t2 := t2.to bb
                replace r2 := r2.to bb
                refine hK.out _ _ HB ?_
                clear hK K bb
                refine wpAnyH_ready (rs := [8]) (by kernel_rfl) (by simp) (ready_cons rfl (by rfl) (fun K hK => ?_) AllReadyH.nil)
                · refine wp_store_q (by rfl) (by rfl) t1 Fq.nil r2.fq (fun V u kp => ?_)
                  replace t2 := kp.four (Ne.symm ne) t2
                  replace r2 := kp.qc r2
                  replace r4 := kp.qc r4
                  replace HB := kp.bel _ _ HB b1
                  clear t1
                  have t1 := u
                  refine hK.out _ _ HB ?_
                  clear hK K kp u
                  simp only [Act.put, List.setIfInBounds_toArray, List.set_cons_zero, List.set_cons_succ]
                  refine wpAnyH_ready (rs := [9]) (by kernel_rfl) (by simp) (ready_cons rfl (by rfl) (fun K hK => ?_) AllReadyH.nil)
                  · refine wp_store_q (by rfl) (by rfl) t2 Fq.nil r4.fq (fun V u kp => ?_)
                    replace t1 := kp.four ne t1
                    replace r2 := kp.qc r2
                    replace r4 := kp.qc r4
                    replace HB := kp.bel _ _ HB b2
                    clear t2
                    have t2 := u
                    refine hK.out _ _ HB ?_
                    clear hK K kp u
                    simp only [Act.put, List.setIfInBounds_toArray, List.set_cons_zero, List.set_cons_succ]
                    exact wpAnyH_done (by kernel_rfl) ⟨rfl, g1, g2, _, _, _, _, _, _, _, _, _, _, _, _, by rfl, t1, t2, r2, r4, HB⟩ _
        · refine wp_alloc_four (fun g2 V t2 bb hg => ?_)
          have b2 := Nat.le_trans HB.size hg
          replace HB := HB.trans (bb.mono HB.size)
          have ne : g1 ≠ g2 := Nat.ne_of_lt (Nat.lt_of_lt_of_le t1.lt hg)
          replace t1 := t1.to bb
          replace r1 := r1.to bb
          refine hK.out _ _ HB ?_
          clear hK K bb hg
          simp only [Act.put, List.setIfInBounds_toArray, List.set_cons_zero, List.set_cons_succ]
          refine wpAnyH_ready (rs := [2]) (by kernel_rfl) (by simp) (ready_cons rfl (by rfl) (fun K hK => ?_) AllReadyH.nil)
          · go_simp
            refine (fromInteger_z (r1.zs sF).zi).mono ?_
            rintro e V ⟨u10, u11, u12, u13, rfl, r2, bb⟩
            replace HB := HB.trans (bb.mono HB.size)
            replace t1 := t1.to bb
            replace t2 := t2.to bb
            refine hK.out _ _ HB ?_
            clear hK K bb
            refine wpAnyH_ready (rs := [4]) (by kernel_rfl) (by simp) (ready_cons rfl (by rfl) (fun K hK => ?_) AllReadyH.nil)
            · go_simp
              refine (ceil_q (VA.to HB).qi (by decide) (by decide)).mono ?_
              rintro e V ⟨z20, z21, rfl, r3, bb⟩
              replace HB := HB.trans (bb.mono HB.size)
              replace t1 := t1.to bb
              replace t2 := t2.to bb
              replace r2 := r2.to bb
              refine hK.out _ _ HB ?_
              clear hK K bb
              refine wpAnyH_ready (rs := [5]) (by kernel_rfl) (by simp) (ready_cons rfl (by rfl) (fun K hK => ?_) AllReadyH.nil)
              · go_simp
                refine (fromInteger_z (r3.zs sG).zi).mono ?_
                rintro e V ⟨u20, u21, u22, u23, rfl, r4, bb⟩
                replace HB := HB.trans (bb.mono HB.size)
                replace t1 := t1.to bb
                replace t2 := t2.to bb
                replace r2 := r2.to bb
                refine hK.out _ _ HB ?_
                clear hK K bb
                refine wpAnyH_ready (rs := [8]) (by kernel_rfl) (by simp) (ready_cons rfl (by rfl) (fun K hK => ?_) AllReadyH.nil)
                · refine wp_store_q (by rfl) (by rfl) t1 Fq.nil r2.fq (fun V u kp => ?_)
                  replace t2 := kp.four (Ne.symm ne) t2
                  replace r2 := kp.qc r2
                  replace r4 := kp.qc r4
                  replace HB := kp.bel _ _ HB b1
                  clear t1
                  have t1 := u
                  refine hK.out _ _ HB ?_
                  clear hK K kp u
                  simp only [Act.put, List.setIfInBounds_toArray, List.set_cons_zero, List.set_cons_succ]
                  refine wpAnyH_ready (rs := [9]) (by kernel_rfl) (by simp) (ready_cons rfl (by rfl) (fun K hK => ?_) AllReadyH.nil)
                  · refine wp_store_q (by rfl) (by rfl) t2 Fq.nil r4.fq (fun V u kp => ?_)
                    replace t1 := kp.four ne t1
                    replace r2 := kp.qc r2
                    replace r4 := kp.qc r4
                    replace HB := kp.bel _ _ HB b2
                    clear t2
                    have t2 := u
                    refine hK.out _ _ HB ?_
                    clear hK K kp u
                    simp only [Act.put, List.setIfInBounds_toArray, List.set_cons_zero, List.set_cons_succ]
                    exact wpAnyH_done (by kernel_rfl) ⟨rfl, g1, g2, _, _, _, _, _, _, _, _, _, _, _, _, by rfl, t1, t2, r2, r4, HB⟩ _
      · refine wp_alloc_four (fun g2 V t2 bb hg => ?_)
        have b2 := Nat.le_trans HB.size hg
        replace HB := HB.trans (bb.mono HB.size)
        replace r1 := r1.to bb
        refine hK.out _ _ HB ?_
        clear hK K bb hg
        simp only [Act.put, List.setIfInBounds_toArray, List.set_cons_zero, List.set_cons_succ]
        refine wpAnyH_ready (rs := [2, 6]) (by kernel_rfl) (by simp) (ready_cons rfl (by rfl) (fun K hK => ?_) (ready_cons rfl (by rfl) (fun K hK => ?_) AllReadyH.nil))
        · go_simp
          refine (fromInteger_z (r1.zs sF).zi).mono ?_
          rintro e V ⟨u10, u11, u12, u13, rfl, r2, bb⟩
          replace HB := HB.trans (bb.mono HB.size)
          replace t2 := t2.to bb
          refine hK.out _ _ HB ?_
          clear hK K bb
          refine wpAnyH_ready (rs := [4, 6]) (by kernel_rfl) (by simp) (ready_cons rfl (by rfl) (fun K hK => ?_) (ready_cons rfl (by rfl) (fun K hK => ?_) AllReadyH.nil))
          · go_simp
            refine (ceil_q (VA.to HB).qi (by decide) (by decide)).mono ?_
            rintro e V ⟨z20, z21, rfl, r3, bb⟩
            replace HB := HB.trans (bb.mono HB.size)
            replace t2 := t2.to bb
            replace r2 := r2.to bb
            refine hK.out _ _ HB ?_
            clear hK K bb
            refine wpAnyH_ready (rs := [5, 6]) (by kernel_rfl) (by simp) (ready_cons rfl (by rfl) (fun K hK => ?_) (ready_cons rfl (by rfl) (fun K hK => ?_) AllReadyH.nil))
            · go_simp
              refine (fromInteger_z (r3.zs sG).zi).mono ?_
              rintro e V ⟨u20, u21, u22, u23, rfl, r4, bb⟩
              replace HB := HB.trans (bb.mono HB.size)
              replace t2 := t2.to bb
              replace r2 := r2.to bb
              refine hK.out _ _ HB ?_
              clear hK K bb
              refine wpAnyH_ready (rs := [6]) (by kernel_rfl) (by simp) (ready_cons rfl (by rfl) (fun K hK => ?_) AllReadyH.nil)
              · refine wp_alloc_four (fun g1 V t1 bb hg => ?_)
                have b1 := Nat.le_trans HB.size hg
                replace HB := HB.trans (bb.mono HB.size)
                have ne : g1 ≠ g2 := Nat.ne_of_gt (Nat.lt_of_lt_of_le t2.lt hg)
                replace t2 := t2.to bb
                replace r2 := r2.to bb
                replace r4 := r4.to bb
                refine hK.out _ _ HB ?_
                clear hK K bb hg
                simp only [Act.put, List.setIfInBounds_toArray, List.set_cons_zero, List.set_cons_succ]
                refine wpAnyH_ready (rs := [8]) (by kernel_rfl) (by simp) (ready_cons rfl (by rfl) (fun K hK => ?_) AllReadyH.nil)
                · refine wp_store_q (by rfl) (by rfl) t1 Fq.nil r2.fq (fun V u kp => ?_)
                  replace t2 := kp.four (Ne.symm ne) t2
                  replace r2 := kp.qc r2
                  replace r4 := kp.qc r4
                  replace HB := kp.bel _ _ HB b1
                  clear t1
                  have t1 := u
                  refine hK.out _ _ HB ?_
                  clear hK K kp u
                  simp only [Act.put, List.setIfInBounds_toArray, List.set_cons_zero, List.set_cons_succ]
                  refine wpAnyH_ready (rs := [9]) (by kernel_rfl) (by simp) (ready_cons rfl (by rfl) (fun K hK => ?_) AllReadyH.nil)
                  · refine wp_store_q (by rfl) (by rfl) t2 Fq.nil r4.fq (fun V u kp => ?_)
                    replace t1 := kp.four ne t1
                    replace r2 := kp.qc r2
                    replace r4 := kp.qc r4
                    replace HB := kp.bel _ _ HB b2
                    clear t2
                    have t2 := u
                    refine hK.out _ _ HB ?_
                    clear hK K kp u
                    simp only [Act.put, List.setIfInBounds_toArray, List.set_cons_zero, List.set_cons_succ]
                    exact wpAnyH_done (by kernel_rfl) ⟨rfl, g1, g2, _, _, _, _, _, _, _, _, _, _, _, _, by rfl, t1, t2, r2, r4, HB⟩ _
            · refine wp_alloc_four (fun g1 V t1 bb hg => ?_)
              have b1 := Nat.le_trans HB.size hg
              replace HB := HB.trans (bb.mono HB.size)
              have ne : g1 ≠ g2 := Nat.ne_of_gt (Nat.lt_of_lt_of_le t2.lt hg)
              replace t2 := t2.to bb
              replace r2 := r2.to bb
              replace r3 := r3.to bb
              refine hK.out _ _ HB ?_
              clear hK K bb hg
              simp only [Act.put, List.setIfInBounds_toArray, List.set_cons_zero, List.set_cons_succ]
              refine wpAnyH_ready (rs := [5]) (by kernel_rfl) (by simp) (ready_cons rfl (by rfl) (fun K hK => ?_) AllReadyH.nil)
              · go_simp
                refine (fromInteger_z (r3.zs sG).zi).mono ?_
                rintro e V ⟨u20, u21, u22, u23, rfl, r4, bb⟩
                replace HB := HB.trans (bb.mono HB.size)
                replace t1 := t1.to bb
                replace t2 := t2.to bb
                replace r2 := r2.to bb
                refine hK.out _ _ HB ?_
                clear hK K bb
                refine wpAnyH_ready (rs := [8]) (by kernel_rfl) (by simp) (ready_cons rfl (by rfl) (fun K hK => ?_) AllReadyH.nil)
                · refine wp_store_q (by rfl) (by rfl) t1 Fq.nil r2.fq (fun V u kp => ?_)
                  replace t2 := kp.four (Ne.symm ne) t2
                  replace r2 := kp.qc r2
                  replace r4 := kp.qc r4
                  replace HB := kp.bel _ _ HB b1
                  clear t1
                  have t1 := u
                  refine hK.out _ _ HB ?_
                  clear hK K kp u
                  simp only [Act.put, List.setIfInBounds_toArray, List.set_cons_zero, List.set_cons_succ]
                  refine wpAnyH_ready (rs := [9]) (by kernel_rfl) (by simp) (ready_cons rfl (by rfl) (fun K hK => ?_) AllReadyH.nil)
                  · refine wp_store_q (by rfl) (by rfl) t2 Fq.nil r4.fq (fun V u kp => ?_)
                    replace t1 := kp.four ne t1
                    replace r2 := kp.qc r2
                    replace r4 := kp.qc r4
                    replace HB := kp.bel _ _ HB b2
                    clear t2
                    have t2 := u
                    refine hK.out _ _ HB ?_
                    clear hK K kp u
                    simp only [Act.put, List.setIfInBounds_toArray, List.set_cons_zero, List.set_cons_succ]
                    exact wpAnyH_done (by kernel_rfl) ⟨rfl, g1, g2, _, _, _, _, _, _, _, _, _, _, _, _, by rfl, t1, t2, r2, r4, HB⟩ _
          · refine wp_alloc_four (fun g1 V t1 bb hg => ?_)
            have b1 := Nat.le_trans HB.size hg
            replace HB := HB.trans (bb.mono HB.size)
            have ne : g1 ≠ g2 := Nat.ne_of_gt (Nat.lt_of_lt_of_le t2.lt hg)
            replace t2 := t2.to bb
            replace r2 := r2.to bb
            refine hK.out _ _ HB ?_
            clear hK K bb hg
            simp only [Act.put, List.setIfInBounds_toArray, List.set_cons_zero, List.set_cons_succ]
            refine wpAnyH_ready (rs := [4]) (by kernel_rfl) (by simp) (ready_cons rfl (by rfl) (fun K hK => ?_) AllReadyH.nil)
            · go_simp
              refine (ceil_q (VA.to HB).qi (by decide) (by decide)).mono ?_
              rintro e V ⟨z20, z21, rfl, r3, bb⟩
              replace HB := HB.trans (bb.mono HB.size)
              replace t1 := t1.to bb
              replace t2 := t2.to bb
              replace r2 := r2.to bb
              refine hK.out _ _ HB ?_
              clear hK K bb
              refine wpAnyH_ready (rs := [5]) (by kernel_rfl) (by simp) (ready_cons rfl (by rfl) (fun K hK => ?_) AllReadyH.nil)
              · go_simp
                refine (fromInteger_z (r3.zs sG).zi).mono ?_
                rintro e V ⟨u20, u21, u22, u23, rfl, r4, bb⟩
                replace HB := HB.trans (bb.mono HB.size)
                replace t1 := t1.to bb
                replace t2 := t2.to bb
                replace r2 := r2.to bb
                refine hK.out _ _ HB ?_
                clear hK K bb
                refine wpAnyH_ready (rs := [8]) (by kernel_rfl) (by simp) (ready_cons rfl (by rfl) (fun K hK => ?_) AllReadyH.nil)
                · refine wp_store_q (by rfl) (by rfl) t1 Fq.nil r2.fq (fun V u kp => ?_)
                  replace t2 := kp.four (Ne.symm ne) t2
                  replace r2 := kp.qc r2
                  replace r4 := kp.qc r4
                  replace HB := kp.bel _ _ HB b1
                  clear t1
                  have t1 := u
                  refine hK.out _ _ HB ?_
                  clear hK K kp u
                  simp only [Act.put, List.setIfInBounds_toArray, List.set_cons_zero, List.set_cons_succ]
                  refine wpAnyH_ready (rs := [9]) (by kernel_rfl) (by simp) (ready_cons rfl (by rfl) (fun K hK => ?_) AllReadyH.nil)
                  · refine wp_store_q (by rfl) (by rfl) t2 Fq.nil r4.fq (fun V u kp => ?_)
                    replace t1 := kp.four ne t1
                    replace r2 := kp.qc r2
                    replace r4 := kp.qc r4
                    replace HB := kp.bel _ _ HB b2
                    clear t2
                    have t2 := u
                    refine hK.out _ _ HB ?_
                    clear hK K kp u
                    simp only [Act.put, List.setIfInBounds_toArray, List.set_cons_zero, List.set_cons_succ]
                    exact wpAnyH_done (by kernel_rfl) ⟨rfl, g1, g2, _, _, _, _, _, _, _, _, _, _, _, _, by rfl, t1, t2, r2, r4, HB⟩ _
        · refine wp_alloc_four (fun g1 V t1 bb hg => ?_)
          have b1 := Nat.le_trans HB.size hg
          replace HB := HB.trans (bb.mono HB.size)
          have ne : g1 ≠ g2 := Nat.ne_of_gt (Nat.lt_of_lt_of_le t2.lt hg)
          replace t2 := t2.to bb
          replace r1 := r1.to bb
          refine hK.out _ _ HB ?_
          clear hK K bb hg
          simp only [Act.put, List.setIfInBounds_toArray, List.set_cons_zero, List.set_cons_succ]
          refine wpAnyH_ready (rs := [2]) (by kernel_rfl) (by simp) (ready_cons rfl (by rfl) (fun K hK => ?_) AllReadyH.nil)
          · go_simp
            refine (fromInteger_z (r1.zs sF).zi).mono ?_
            rintro e V ⟨u10, u11, u12, u13, rfl, r2, bb⟩
            replace HB := HB.trans (bb.mono HB.size)
            replace t1 := t1.to bb
            replace t2 := t2.to bb
            refine hK.out _ _ HB ?_
            clear hK K bb
            refine wpAnyH_ready (rs := [4]) (by kernel_rfl) (by simp) (ready_cons rfl (by rfl) (fun K hK => ?_) AllReadyH.nil)
            · go_simp
              refine (ceil_q (VA.to HB).qi (by decide) (by decide)).mono ?_
              rintro e V ⟨z20, z21, rfl, r3, bb⟩
              replace HB := HB.trans (bb.mono HB.size)
              replace t1 := t1.to bb
              replace t2 := t2.to bb
              replace r2 := r2.to bb
              refine hK.out _ _ HB ?_
              clear hK K bb
              refine wpAnyH_ready (rs := [5]) (by kernel_rfl) (by simp) (ready_cons rfl (by rfl) (fun K hK => ?_) AllReadyH.nil)
              · go_simp
                refine (fromInteger_z (r3.zs sG).zi).mono ?_
                rintro e V ⟨u20, u21, u22, u23, rfl, r4, bb⟩
                replace HB := HB.trans (bb.mono HB.size)
                replace t1 := t1.to bb
                replace t2 := t2.to bb
                replace r2 := r2.to bb
                refine hK.out _ _ HB ?_
                clear hK K bb
                refine wpAnyH_ready (rs := [8]) (by kernel_rfl) (by simp) (ready_cons rfl (by rfl) (fun K hK => ?_) AllReadyH.nil)
                · refine wp_store_q (by rfl) (by rfl) t1 Fq.nil r2.fq (fun V u kp => ?_)
                  replace t2 := kp.four (Ne.symm ne) t2
                  replace r2 := kp.qc r2
                  replace r4 := kp.qc r4
                  replace HB := kp.bel _ _ HB b1
                  clear t1
                  have t1 := u
                  refine hK.out _ _ HB ?_
                  clear hK K kp u
                  simp only [Act.put, List.setIfInBounds_toArray, List.set_cons_zero, List.set_cons_succ]
                  refine wpAnyH_ready (rs := [9]) (by kernel_rfl) (by simp) (ready_cons rfl (by rfl) (fun K hK => ?_) AllReadyH.nil)
                  · refine wp_store_q (by rfl) (by rfl) t2 Fq.nil r4.fq (fun V u kp => ?_)
                    replace t1 := kp.four ne t1
                    replace r2 := kp.qc r2
                    replace r4 := kp.qc r4
                    replace HB := kp.bel _ _ HB b2
                    clear t2
                    have t2 := u
                    refine hK.out _ _ HB ?_
                    clear hK K kp u
                    simp only [Act.put, List.setIfInBounds_toArray, List.set_cons_zero, List.set_cons_succ]
                    exact wpAnyH_done (by kernel_rfl) ⟨rfl, g1, g2, _, _, _, _, _, _, _, _, _, _, _, _, by rfl, t1, t2, r2, r4, HB⟩ _
    · refine wp_alloc_four (fun g1 V t1 bb hg => ?_)
      have b1 := Nat.le_trans HB.size hg
      replace HB := HB.trans (bb.mono HB.size)
      refine hK.out _ _ HB ?_
      clear hK K bb hg
      simp only [Act.put, List.setIfInBounds_toArray, List.set_cons_zero, List.set_cons_succ]
      refine wpAnyH_ready (rs := [1, 7]) (by kernel_rfl) (by simp) (ready_cons rfl (by rfl) (fun K hK => ?_) (ready_cons rfl (by rfl) (fun K hK => ?_) AllReadyH.nil))
      · go_simp
        refine (floor_q (VA.to HB).qi (by decide) (by decide)).mono ?_
        rintro e V ⟨z10, z11, rfl, r1, bb⟩
        replace HB := HB.trans (bb.mono HB.size)
        replace t1 := t1.to bb
        refine hK.out _ _ HB ?_
        clear hK K bb
        refine wpAnyH_ready (rs := [2, 7]) (by kernel_rfl) (by simp) (ready_cons rfl (by rfl) (fun K hK => ?_) (ready_cons rfl (by rfl) (fun K hK => ?_) AllReadyH.nil))
        · go_simp
          refine (fromInteger_z (r1.zs sF).zi).mono ?_
          rintro e V ⟨u10, u11, u12, u13, rfl, r2, bb⟩
          replace HB := HB.trans (bb.mono HB.size)
          replace t1 := t1.to bb
          refine hK.out _ _ HB ?_
          clear hK K bb
          refine wpAnyH_ready (rs := [4, 7]) (by kernel_rfl) (by simp) (ready_cons rfl (by rfl) (fun K hK => ?_) (ready_cons rfl (by rfl) (fun K hK => ?_) AllReadyH.nil))
          · go_simp
            refine (ceil_q (VA.to HB).qi (by decide) (by decide)).mono ?_
            rintro e V ⟨z20, z21, rfl, r3, bb⟩
            replace HB := HB.trans (bb.mono HB.size)
            replace t1 := t1.to bb
            replace r2 := r2.to bb
            refine hK.out _ _ HB ?_
            clear hK K bb
            refine wpAnyH_ready (rs := [5, 7]) (by kernel_rfl) (by simp) (ready_cons rfl (by rfl) (fun K hK => ?_) (ready_cons rfl (by rfl) (fun K hK => ?_) AllReadyH.nil))
            · go_simp
              refine (fromInteger_z (r3.zs sG).zi).mono ?_
              rintro e V ⟨u20, u21, u22, u23, rfl, r4, bb⟩
              replace HB := HB.trans (bb.mono HB.size)
              replace t1 := t1.to bb
              replace r2 := r2.to bb
              refine hK.out _ _ HB ?_
              clear hK K bb
              refine wpAnyH_ready (rs := [7]) (by kernel_rfl) (by simp) (ready_cons rfl (by rfl) (fun K hK => ?_) AllReadyH.nil)
              · refine wp_alloc_four (fun g2 V t2 bb hg => ?_)
                have b2 := Nat.le_trans HB.size hg
                replace HB := HB.trans (bb.mono HB.size)
                have ne : g1 ≠ g2 := Nat.ne_of_lt (Nat.lt_of_lt_of_le t1.lt hg)
                replace t1 := t1.to bb
                replace r2 := r2.to bb
                replace r4 := r4.to bb
                refine hK.out _ _ HB ?_
                clear hK K bb hg
                simp only [Act.put, List.setIfInBounds_toArray, List.set_cons_zero, List.set_cons_succ]
                refine wpAnyH_ready (rs := [8]) (by kernel_rfl) (by simp) (ready_cons rfl (by rfl) (fun K hK => ?_) AllReadyH.nil)
                · refine wp_store_q (by rfl) (by rfl) t1 Fq.nil r2.fq (fun V u kp => ?_)
                  replace t2 := kp.four (Ne.symm ne) t2
                  replace r2 := kp.qc r2
                  replace r4 := kp.qc r4
                  replace HB := kp.bel _ _ HB b1
                  clear t1
                  have t1 := u
                  refine hK.out _ _ HB ?_
                  clear hK K kp u
                  simp only [Act.put, List.setIfInBounds_toArray, List.set_cons_zero, List.set_cons_succ]
                  refine wpAnyH_ready (rs := [9]) (by kernel_rfl) (by simp) (ready_cons rfl (by rfl) (fun K hK => ?_) AllReadyH.nil)
                  · refine wp_store_q (by rfl) (by rfl) t2 Fq.nil r4.fq (fun V u kp => ?_)
                    replace t1 := kp.four ne t1
                    replace r2 := kp.qc r2
                    replace r4 := kp.qc r4
                    replace HB := kp.bel _ _ HB b2
                    clear t2
                    have t2 := u
                    refine hK.out _ _ HB ?_
                    clear hK K kp u
                    simp only [Act.put, List.setIfInBounds_toArray, List.set_cons_zero, List.set_cons_succ]
                    exact wpAnyH_done (by kernel_rfl) ⟨rfl, g1, g2, _, _, _, _, _, _, _, _, _, _, _, _, by rfl, t1, t2, r2, r4, HB⟩ _
            · refine wp_alloc_four (fun g2 V t2 bb hg => ?_)
              have b2 := Nat.le_trans HB.size hg
              replace HB := HB.trans (bb.mono HB.size)
              have ne : g1 ≠ g2 := Nat.ne_of_lt (Nat.lt_of_lt_of_le t1.lt hg)
              replace t1 := t1.to bb
              replace r2 := r2.to bb
              replace r3 := r3.to bb
              refine hK.out _ _ HB ?_
              clear hK K bb hg
              simp only [Act.put, List.setIfInBounds_toArray, List.set_cons_zero, List.set_cons_succ]
              refine wpAnyH_ready (rs := [5]) (by kernel_rfl) (by simp) (ready_cons rfl (by rfl) (fun K hK => ?_) AllReadyH.nil)
              · go_simp
                refine (fromInteger_z (r3.zs sG).zi).mono ?_
                rintro e V ⟨u20, u21, u22, u23, rfl, r4, bb⟩
                replace HB := HB.trans (bb.mono HB.size)
                replace t1 := t1.to bb
                replace t2 := t2.to bb
                replace r2 := r2.to bb
                refine hK.out _ _ HB ?_
                clear hK K bb
                refine wpAnyH_ready (rs := [8]) (by kernel_rfl) (by simp) (ready_cons rfl (by rfl) (fun K hK => ?_) AllReadyH.nil)
                · refine wp_store_q (by rfl) (by rfl) t1 Fq.nil r2.fq (fun V u kp => ?_)
                  replace t2 := kp.four (Ne.symm ne) t2
                  replace r2 := kp.qc r2
                  replace r4 := kp.qc r4
                  replace HB := kp.bel _ _ HB b1
                  clear t1
                  have t1 := u
                  refine hK.out _ _ HB ?_
                  clear hK K kp u
                  simp only [Act.put, List.setIfInBounds_toArray, List.set_cons_zero, List.set_cons_succ]
                  refine wpAnyH_ready (rs := [9]) (by kernel_rfl) (by simp) (ready_cons rfl (by rfl) (fun K hK => ?_) AllReadyH.nil)
                  · refine wp_store_q (by rfl) (by rfl) t2 Fq.nil r4.fq (fun V u kp => ?_)
                    replace t1 := kp.four ne t1
                    replace r2 := kp.qc r2
                    replace r4 := kp.qc r4
                    replace HB := kp.bel _ _ HB b2
                    clear t2
                    have t2 := u
                    refine hK.out _ _ HB ?_
                    clear hK K kp u
                    simp only [Act.put, List.setIfInBounds_toArray, List.set_cons_zero, List.set_cons_succ]
                    exact wpAnyH_done (by kernel_rfl) ⟨rfl, g1, g2, _, _, _, _, _, _, _, _, _, _, _, _, by rfl, t1, t2, r2, r4, HB⟩ _
          · refine wp_alloc_four (fun g2 V t2 bb hg => ?_)
            have b2 := Nat.le_trans HB.size hg
            replace HB := HB.trans (bb.mono HB.size)
            have ne : g1 ≠ g2 := Nat.ne_of_lt (Nat.lt_of_lt_of_le t1.lt hg)
            replace t1 := t1.to bb
            replace r2 := r2.to bb
            refine hK.out _ _ HB ?_
            clear hK K bb hg
            simp only [Act.put, List.setIfInBounds_toArray, List.set_cons_zero, List.set_cons_succ]
            refine wpAnyH_ready (rs := [4]) (by kernel_rfl) (by simp) (ready_cons rfl (by rfl) (fun K hK => ?_) AllReadyH.nil)
            · go_simp
              refine (ceil_q (VA.to HB).qi (by decide) (by decide)).mono ?_
              rintro e V ⟨z20, z21, rfl, r3, bb⟩
              replace HB := HB.trans (bb.mono HB.size)
              replace t1 := t1.to bb
              replace t2 := t2.to bb
              replace r2 := r2.to bb
              refine hK.out _ _ HB ?_
              clear hK K bb
              refine wpAnyH_ready (rs := [5]) (by kernel_rfl) (by simp) (ready_cons rfl (by rfl) (fun K hK => ?_) AllReadyH.nil)
              · go_simp
                refine (fromInteger_z (r3.zs sG).zi).mono ?_
                rintro e V ⟨u20, u21, u22, u23, rfl, r4, bb⟩
                replace HB := HB.trans (bb.mono HB.size)
                replace t1 := t1.to bb
                replace t2 := t2.to bb
                replace r2 := r2.to bb
                refine hK.out _ _ HB ?_
                clear hK K bb
                refine wpAnyH_ready (rs := [8]) (by kernel_rfl) (by simp) (ready_cons rfl (by rfl) (fun K hK => ?_) AllReadyH.nil)
                · refine wp_store_q (by rfl) (by rfl) t1 Fq.nil r2.fq (fun V u kp => ?_)
                  replace t2 := kp.four (Ne.symm ne) t2
                  replace r2 := kp.qc r2
                  replace r4 := kp.qc r4
                  replace HB := kp.bel _ _ HB b1
                  clear t1
                  have t1 := u
                  refine hK.out _ _ HB ?_
                  clear hK K kp u
                  simp only [Act.put, List.setIfInBounds_toArray, List.set_cons_zero, List.set_cons_succ]
                  refine wpAnyH_ready (rs := [9]) (by kernel_rfl) (by simp) (ready_cons rfl (by rfl) (fun K hK => ?_) AllReadyH.nil)
                  · refine wp_store_q (by rfl) (by rfl) t2 Fq.nil r4.fq (fun V u kp => ?_)
                    replace t1 := kp.four ne t1
                    replace r2 := kp.qc r2
                    replace r4 := kp.qc r4
                    replace HB := kp.bel _ _ HB b2
                    clear t2
                    have t2 := u
                    refine hK.out _ _ HB ?_
                    clear hK K kp u
                    simp only [Act.put, List.setIfInBounds_toArray, List.set_cons_zero, List.set_cons_succ]
                    exact wpAnyH_done (by kernel_rfl) ⟨rfl, g1, g2, _, _, _, _, _, _, _, _, _, _, _, _, by rfl, t1, t2, r2, r4, HB⟩ _
        · refine wp_alloc_four (fun g2 V t2 bb hg => ?_)
          have b2 := Nat.le_trans HB.size hg
          replace HB := HB.trans (bb.mono HB.size)
          have ne : g1 ≠ g2 := Nat.ne_of_lt (Nat.lt_of_lt_of_le t1.lt hg)
          replace t1 := t1.to bb
          replace r1 := r1.to bb
          refine hK.out _ _ HB ?_
          clear hK K bb hg
          simp only [Act.put, List.setIfInBounds_toArray, List.set_cons_zero, List.set_cons_succ]
          refine wpAnyH_ready (rs := [2]) (by kernel_rfl) (by simp) (ready_cons rfl (by rfl) (fun K hK => ?_) AllReadyH.nil)
          · go_simp
            refine (fromInteger_z (r1.zs sF).zi).mono ?_
            rintro e V ⟨u10, u11, u12, u13, rfl, r2, bb⟩
            replace HB := HB.trans (bb.mono HB.size)
            replace t1 := t1.to bb
            replace t2 := t2.to bb
            refine hK.out _ _ HB ?_
            clear hK K bb
            refine wpAnyH_ready (rs := [4]) (by kernel_rfl) (by simp) (ready_cons rfl (by rfl) (fun K hK => ?_) AllReadyH.nil)
            · go_simp
              refine (ceil_q (VA.to HB).qi (by decide) (by decide)).mono ?_
              rintro e V ⟨z20, z21, rfl, r3, bb⟩
              replace HB := HB.trans (bb.mono HB.size)
              replace t1 := t1.to bb
              replace t2 := t2.to bb
              replace r2 := r2.to bb
              refine hK.out _ _ HB ?_
              clear hK K bb
              refine wpAnyH_ready (rs := [5]) (by kernel_rfl) (by simp) (ready_cons rfl (by rfl) (fun K hK => ?_) AllReadyH.nil)
              · go_simp
                refine (fromInteger_z (r3.zs sG).zi).mono ?_
                rintro e V ⟨u20, u21, u22, u23, rfl, r4, bb⟩
                replace HB := HB.trans (bb.mono HB.size)
                replace t1 := t1.to bb
                replace t2 := t2.to bb
                replace r2 := r2.to bb
                refine hK.out _ _ HB ?_
                clear hK K bb
                refine wpAnyH_ready (rs := [8]) (by kernel_rfl) (by simp) (ready_cons rfl (by rfl) (fun K hK => ?_) AllReadyH.nil)
                · refine wp_store_q (by rfl) (by rfl) t1 Fq.nil r2.fq (fun V u kp => ?_)
                  replace t2 := kp.four (Ne.symm ne) t2
                  replace r2 := kp.qc r2
                  replace r4 := kp.qc r4
                  replace HB := kp.bel _ _ HB b1
                  clear t1
                  have t1 := u
                  refine hK.out _ _ HB ?_
                  clear hK K kp u
                  simp only [Act.put, List.setIfInBounds_toArray, List.set_cons_zero, List.set_cons_succ]
                  refine wpAnyH_ready (rs := [9]) (by kernel_rfl) (by simp) (ready_cons rfl (by rfl) (fun K hK => ?_) AllReadyH.nil)
                  · refine wp_store_q (by rfl) (by rfl) t2 Fq.nil r4.fq (fun V u kp => ?_)
                    replace t1 := kp.four ne t1
                    replace r2 := kp.qc r2
                    replace r4 := kp.qc r4
                    replace HB := kp.bel _ _ HB b2
                    clear t2
                    have t2 := u
                    refine hK.out _ _ HB ?_
                    clear hK K kp u
                    simp only [Act.put, List.setIfInBounds_toArray, List.set_cons_zero, List.set_cons_succ]
                    exact wpAnyH_done (by kernel_rfl) ⟨rfl, g1, g2, _, _, _, _, _, _, _, _, _, _, _, _, by rfl, t1, t2, r2, r4, HB⟩ _
      · refine wp_alloc_four (fun g2 V t2 bb hg => ?_)
        have b2 := Nat.le_trans HB.size hg
        replace HB := HB.trans (bb.mono HB.size)
        have ne : g1 ≠ g2 := Nat.ne_of_lt (Nat.lt_of_lt_of_le t1.lt hg)
        replace t1 := t1.to bb
        refine hK.out _ _ HB ?_
        clear hK K bb hg
        simp only [Act.put, List.setIfInBounds_toArray, List.set_cons_zero, List.set_cons_succ]
        refine wpAnyH_ready (rs := [1]) (by kernel_rfl) (by simp) (ready_cons rfl (by rfl) (fun K hK => ?_) AllReadyH.nil)
        · go_simp
          refine (floor_q (VA.to HB).qi (by decide) (by decide)).mono ?_
          rintro e V ⟨z10, z11, rfl, r1, bb⟩
          replace HB := HB.trans (bb.mono HB.size)
          replace t1 := t1.to bb
          replace t2 := t2.to bb
          refine hK.out _ _ HB ?_
          clear hK K bb
          refine wpAnyH_ready (rs := [2]) (by kernel_rfl) (by simp) (ready_cons rfl (by rfl) (fun K hK => ?_) AllReadyH.nil)
          · go_simp
            refine (fromInteger_z (r1.zs sF).zi).mono ?_
            rintro e V ⟨u10, u11, u12, u13, rfl, r2, bb⟩
            replace HB := HB.trans (bb.mono HB.size)
            replace t1 := t1.to bb
            replace t2 := t2.to bb
            refine hK.out _ _ HB ?_
            clear hK K bb
            refine wpAnyH_ready (rs := [4]) (by kernel_rfl) (by simp) (ready_cons rfl (by rfl) (fun K hK => ?_) AllReadyH.nil)
            · go_simp
              refine (ceil_q (VA.to HB).qi (by decide) (by decide)).mono ?_
              rintro e V ⟨z20, z21, rfl, r3, bb⟩
              replace HB := HB.trans (bb.mono HB.size)
              replace t1 := t1.to bb
              replace t2 := t2.to bb
              replace r2 := r2.to bb
              refine hK.out _ _ HB ?_
              clear hK K bb
              refine wpAnyH_ready (rs := [5]) (by kernel_rfl) (by simp) (ready_cons rfl (by rfl) (fun K hK => ?_) AllReadyH.nil)
              · go_simp
                refine (fromInteger_z (r3.zs sG).zi).mono ?_
                rintro e V ⟨u20, u21, u22, u23, rfl, r4, bb⟩
                replace HB := HB.trans (bb.mono HB.size)
                replace t1 := t1.to bb
                replace t2 := t2.to bb
                replace r2 := r2.to bb
                refine hK.out _ _ HB ?_
                clear hK K bb
                refine wpAnyH_ready (rs := [8]) (by kernel_rfl) (by simp) (ready_cons rfl (by rfl) (fun K hK => ?_) AllReadyH.nil)
                · refine wp_store_q (by rfl) (by rfl) t1 Fq.nil r2.fq (fun V u kp => ?_)
                  replace t2 := kp.four (Ne.symm ne) t2
                  replace r2 := kp.qc r2
                  replace r4 := kp.qc r4
                  replace HB := kp.bel _ _ HB b1
                  clear t1
                  have t1 := u
                  refine hK.out _ _ HB ?_
                  clear hK K kp u
                  simp only [Act.put, List.setIfInBounds_toArray, List.set_cons_zero, List.set_cons_succ]
                  refine wpAnyH_ready (rs := [9]) (by kernel_rfl) (by simp) (ready_cons rfl (by rfl) (fun K hK => ?_) AllReadyH.nil)
                  · refine wp_store_q (by rfl) (by rfl) t2 Fq.nil r4.fq (fun V u kp => ?_)
                    replace t1 := kp.four ne t1
                    replace r2 := kp.qc r2
                    replace r4 := kp.qc r4
                    replace HB := kp.bel _ _ HB b2
                    clear t2
                    have t2 := u
                    refine hK.out _ _ HB ?_
                    clear hK K kp u
                    simp only [Act.put, List.setIfInBounds_toArray, List.set_cons_zero, List.set_cons_succ]
                    exact wpAnyH_done (by kernel_rfl) ⟨rfl, g1, g2, _, _, _, _, _, _, _, _, _, _, _, _, by rfl, t1, t2, r2, r4, HB⟩ _
    · refine wp_alloc_four (fun g2 V t2 bb hg => ?_)
      have b2 := Nat.le_trans HB.size hg
      replace HB := HB.trans (bb.mono HB.size)
      refine hK.out _ _ HB ?_
      clear hK K bb hg
      simp only [Act.put, List.setIfInBounds_toArray, List.set_cons_zero, List.set_cons_succ]
      refine wpAnyH_ready (rs := [1, 6]) (by kernel_rfl) (by simp) (ready_cons rfl (by rfl) (fun K hK => ?_) (ready_cons rfl (by rfl) (fun K hK => ?_) AllReadyH.nil))
      · go_simp
        refine (floor_q (VA.to HB).qi (by decide) (by decide)).mono ?_
        rintro e V ⟨z10, z11, rfl, r1, bb⟩
        replace HB := HB.trans (bb.mono HB.size)
        replace t2 := t2.to bb
        refine hK.out _ _ HB ?_
        clear hK K bb
        refine wpAnyH_ready (rs := [2, 6]) (by kernel_rfl) (by simp) (ready_cons rfl (by rfl) (fun K hK => ?_) (ready_cons rfl (by rfl) (fun K hK => ?_) AllReadyH.nil))
        · go_simp
          refine (fromInteger_z (r1.zs sF).zi).mono ?_
          rintro e V ⟨u10, u11, u12, u13, rfl, r2, bb⟩
          replace HB := HB.trans (bb.mono HB.size)
          replace t2 := t2.to bb
          refine hK.out _ _ HB ?_
          clear hK K bb
          refine wpAnyH_ready (rs := [4, 6]) (by kernel_rfl) (by simp) (ready_cons rfl (by rfl) (fun K hK => ?_) (ready_cons rfl (by rfl) (fun K hK => ?_) AllReadyH.nil))
          · go_simp
            refine (ceil_q (VA.to HB).qi (by decide) (by decide)).mono ?_
            rintro e V ⟨z20, z21, rfl, r3, bb⟩
            replace HB := HB.trans (bb.mono HB.size)
            replace t2 := t2.to bb
            replace r2 := r2.to bb
            refine hK.out _ _ HB ?_
            clear hK K bb
            refine wpAnyH_ready (rs := [5, 6]) (by kernel_rfl) (by simp) (ready_cons rfl (by rfl) (fun K hK => ?_) (ready_cons rfl (by rfl) (fun K hK => ?_) AllReadyH.nil))
            · go_simp
              refine (fromInteger_z (r3.zs sG).zi).mono ?_
              rintro e V ⟨u20, u21, u22, u23, rfl, r4, bb⟩
              replace HB := HB.trans (bb.mono HB.size)
              replace t2 := t2.to bb
              replace r2 := r2.to bb
              refine hK.out _ _ HB ?_
              clear hK K bb
              refine wpAnyH_ready (rs := [6]) (by kernel_rfl) (by simp) (ready_cons rfl (by rfl) (fun K hK => ?_) AllReadyH.nil)
              · refine wp_alloc_four (fun g1 V t1 bb hg => ?_)
                have b1 := Nat.le_trans HB.size hg
                replace HB := HB.trans (bb.mono HB.size)
                have ne : g1 ≠ g2 := Nat.ne_of_gt (Nat.lt_of_lt_of_le t2.lt hg)
                replace t2 := t2.to bb
                replace r2 := r2.to bb
                replace r4 := r4.to bb
                refine hK.out _ _ HB ?_
                clear hK K bb hg
                simp only [Act.put, List.setIfInBounds_toArray, List.set_cons_zero, List.set_cons_succ]
                refine wpAnyH_ready (rs := [8]) (by kernel_rfl) (by simp) (ready_cons rfl (by rfl) (fun K hK => ?_) AllReadyH.nil)
                · refine wp_store_q (by rfl) (by rfl) t1 Fq.nil r2.fq (fun V u kp => ?_)
                  replace t2 := kp.four (Ne.symm ne) t2
                  replace r2 := kp.qc r2
                  replace r4 := kp.qc r4
                  replace HB := kp.bel _ _ HB b1
                  clear t1
                  have t1 := u
                  refine hK.out _ _ HB ?_
                  clear hK K kp u
                  simp only [Act.put, List.setIfInBounds_toArray, List.set_cons_zero, List.set_cons_succ]
                  refine wpAnyH_ready (rs := [9]) (by kernel_rfl) (by simp) (ready_cons rfl (by rfl) (fun K hK => ?_) AllReadyH.nil)
                  · refine wp_store_q (by rfl) (by rfl) t2 Fq.nil r4.fq (fun V u kp => ?_)
                    replace t1 := kp.four ne t1
                    replace r2 := kp.qc r2
                    replace r4 := kp.qc r4
                    replace HB := kp.bel _ _ HB b2
                    clear t2
                    have t2 := u
                    refine hK.out _ _ HB ?_
                    clear hK K kp u
                    simp only [Act.put, List.setIfInBounds_toArray, List.set_cons_zero, List.set_cons_succ]
                    exact wpAnyH_done (by kernel_rfl) ⟨rfl, g1, g2, _, _, _, _, _, _, _, _, _, _, _, _, by rfl, t1, t2, r2, r4, HB⟩ _
            · refine wp_alloc_four (fun g1 V t1 bb hg => ?_)
              have b1 := Nat.le_trans HB.size hg
              replace HB := HB.trans (bb.mono HB.size)
              have ne : g1 ≠ g2 := Nat.ne_of_gt (Nat.lt_of_lt_of_le t2.lt hg)
              replace t2 := t2.to bb
              replace r2 := r2.to bb
              replace r3 := r3.to bb
              refine hK.out _ _ HB ?_
              clear hK K bb hg
              simp only [Act.put, List.setIfInBounds_toArray, List.set_cons_zero, List.set_cons_succ]
              refine wpAnyH_ready (rs := [5]) (by kernel_rfl) (by simp) (ready_cons rfl (by rfl) (fun K hK => ?_) AllReadyH.nil)
              · go_simp
                refine (fromInteger_z (r3.zs sG).zi).mono ?_
                rintro e V ⟨u20, u21, u22, u23, rfl, r4, bb⟩
                replace HB := HB.trans (bb.mono HB.size)
                replace t1 := t1.to bb
                replace t2 := t2.to bb
                replace r2 := r2.to bb
                refine hK.out _ _ HB ?_
                clear hK K bb
                refine wpAnyH_ready (rs := [8]) (by kernel_rfl) (by simp) (ready_cons rfl (by rfl) (fun K hK => ?_) AllReadyH.nil)
                · refine wp_store_q (by rfl) (by rfl) t1 Fq.nil r2.fq (fun V u kp => ?_)
                  replace t2 := kp.four (Ne.symm ne) t2
                  replace r2 := kp.qc r2
                  replace r4 := kp.qc r4
                  replace HB := kp.bel _ _ HB b1
                  clear t1
                  have t1 := u
                  refine hK.out _ _ HB ?_
                  clear hK K kp u
                  simp only [Act.put, List.setIfInBounds_toArray, List.set_cons_zero, List.set_cons_succ]
                  refine wpAnyH_ready (rs := [9]) (by kernel_rfl) (by simp) (ready_cons rfl (by rfl) (fun K hK => ?_) AllReadyH.nil)
                  · refine wp_store_q (by rfl) (by rfl) t2 Fq.nil r4.fq (fun V u kp => ?_)
                    replace t1 := kp.four ne t1
                    replace r2 := kp.qc r2
                    replace r4 := kp.qc r4
                    replace HB := kp.bel _ _ HB b2
                    clear t2
                    have t2 := u
                    refine hK.out _ _ HB ?_
                    clear hK K kp u
                    simp only [Act.put, List.setIfInBounds_toArray, List.set_cons_zero, List.set_cons_succ]
                    exact wpAnyH_done (by kernel_rfl) ⟨rfl, g1, g2, _, _, _, _, _, _, _, _, _, _, _, _, by rfl, t1, t2, r2, r4, HB⟩ _
          · refine wp_alloc_four (fun g1 V t1 bb hg => ?_)
            have b1 := Nat.le_trans HB.size hg
            replace HB := HB.trans (bb.mono HB.size)
            have ne : g1 ≠ g2 := Nat.ne_of_gt (Nat.lt_of_lt_of_le t2.lt hg)
            replace t2 := t2.to bb
            replace r2 := r2.to bb
            refine hK.out _ _ HB ?_
            clear hK K bb hg
            simp only [Act.put, List.setIfInBounds_toArray, List.set_cons_zero, List.set_cons_succ]
            refine wpAnyH_ready (rs := [4]) (by kernel_rfl) (by simp) (ready_cons rfl (by rfl) (fun K hK => ?_) AllReadyH.nil)
            · go_simp
              refine (ceil_q (VA.to HB).qi (by decide) (by decide)).mono ?_
              rintro e V ⟨z20, z21, rfl, r3, bb⟩
              replace HB := HB.trans (bb.mono HB.size)
              replace t1 := t1.to bb
              replace t2 := t2.to bb
              replace r2 := r2.to bb
              refine hK.out _ _ HB ?_
              clear hK K bb
              refine wpAnyH_ready (rs := [5]) (by kernel_rfl) (by simp) (ready_cons rfl (by rfl) (fun K hK => ?_) AllReadyH.nil)
              · go_simp
                refine (fromInteger_z (r3.zs sG).zi).mono ?_
                rintro e V ⟨u20, u21, u22, u23, rfl, r4, bb⟩
                replace HB := HB.trans (bb.mono HB.size)
                replace t1 := t1.to bb
                replace t2 := t2.to bb
                replace r2 := r2.to bb
                refine hK.out _ _ HB ?_
                clear hK K bb
                refine wpAnyH_ready (rs := [8]) (by kernel_rfl) (by simp) (ready_cons rfl (by rfl) (fun K hK => ?_) AllReadyH.nil)
                · refine wp_store_q (by rfl) (by rfl) t1 Fq.nil r2.fq (fun V u kp => ?_)
                  replace t2 := kp.four (Ne.symm ne) t2
                  replace r2 := kp.qc r2
                  replace r4 := kp.qc r4
                  replace HB := kp.bel _ _ HB b1
                  clear t1
                  have t1 := u
                  refine hK.out _ _ HB ?_
                  clear hK K kp u
                  simp only [Act.put, List.setIfInBounds_toArray, List.set_cons_zero, List.set_cons_succ]
                  refine wpAnyH_ready (rs := [9]) (by kernel_rfl) (by simp) (ready_cons rfl (by rfl) (fun K hK => ?_) AllReadyH.nil)
                  · refine wp_store_q (by rfl) (by rfl) t2 Fq.nil r4.fq (fun V u kp => ?_)
                    replace t1 := kp.four ne t1
                    replace r2 := kp.qc r2
                    replace r4 := kp.qc r4
                    replace HB := kp.bel _ _ HB b2
                    clear t2
                    have t2 := u
                    refine hK.out _ _ HB ?_
                    clear hK K kp u
                    simp only [Act.put, List.setIfInBounds_toArray, List.set_cons_zero, List.set_cons_succ]
                    exact wpAnyH_done (by kernel_rfl) ⟨rfl, g1, g2, _, _, _, _, _, _, _, _, _, _, _, _, by rfl, t1, t2, r2, r4, HB⟩ _
        · refine wp_alloc_four (fun g1 V t1 bb hg => ?_)
          have b1 := Nat.le_trans HB.size hg
          replace HB := HB.trans (bb.mono HB.size)
          have ne : g1 ≠ g2 := Nat.ne_of_gt (Nat.lt_of_lt_of_le t2.lt hg)
          replace t2 := t2.to bb
          replace r1 := r1.to bb
          refine hK.out _ _ HB ?_
          clear hK K bb hg
          simp only [Act.put, List.setIfInBounds_toArray, List.set_cons_zero, List.set_cons_succ]
          refine wpAnyH_ready (rs := [2]) (by kernel_rfl) (by simp) (ready_cons rfl (by rfl) (fun K hK => ?_) AllReadyH.nil)
          · go_simp
            refine (fromInteger_z (r1.zs sF).zi).mono ?_
            rintro e V ⟨u10, u11, u12, u13, rfl, r2, bb⟩
            replace HB := HB.trans (bb.mono HB.size)
            replace t1 := t1.to bb
            replace t2 := t2.to bb
            refine hK.out _ _ HB ?_
            clear hK K bb
            refine wpAnyH_ready (rs := [4]) (by kernel_rfl) (by simp) (ready_cons rfl (by rfl) (fun K hK => ?_) AllReadyH.nil)
            · go_simp
              refine (ceil_q (VA.to HB).qi (by decide) (by decide)).mono ?_
              rintro e V ⟨z20, z21, rfl, r3, bb⟩
              replace HB := HB.trans (bb.mono HB.size)
              replace t1 := t1.to bb
              replace t2 := t2.to bb
              replace r2 := r2.to bb
              refine hK.out _ _ HB ?_
              clear hK K bb
              refine wpAnyH_ready (rs := [5]) (by kernel_rfl) (by simp) (ready_cons rfl (by rfl) (fun K hK => ?_) AllReadyH.nil)
              · go_simp
                refine (fromInteger_z (r3.zs sG).zi).mono ?_
                rintro e V ⟨u20, u21, u22, u23, rfl, r4, bb⟩
                replace HB := HB.trans (bb.mono HB.size)
                replace t1 := t1.to bb
                replace t2 := t2.to bb
                replace r2 := r2.to bb
                refine hK.out _ _ HB ?_
                clear hK K bb
                refine wpAnyH_ready (rs := [8]) (by kernel_rfl) (by simp) (ready_cons rfl (by rfl) (fun K hK => ?_) AllReadyH.nil)
                · refine wp_store_q (by rfl) (by rfl) t1 Fq.nil r2.fq (fun V u kp => ?_)
                  replace t2 := kp.four (Ne.symm ne) t2
                  replace r2 := kp.qc r2
                  replace r4 := kp.qc r4
                  replace HB := kp.bel _ _ HB b1
                  clear t1
                  have t1 := u
                  refine hK.out _ _ HB ?_
                  clear hK K kp u
                  simp only [Act.put, List.setIfInBounds_toArray, List.set_cons_zero, List.set_cons_succ]
                  refine wpAnyH_ready (rs := [9]) (by kernel_rfl) (by simp) (ready_cons rfl (by rfl) (fun K hK => ?_) AllReadyH.nil)
                  · refine wp_store_q (by rfl) (by rfl) t2 Fq.nil r4.fq (fun V u kp => ?_)
                    replace t1 := kp.four ne t1
                    replace r2 := kp.qc r2
                    replace r4 := kp.qc r4
                    replace HB := kp.bel _ _ HB b2
                    clear t2
                    have t2 := u
                    refine hK.out _ _ HB ?_
                    clear hK K kp u
                    simp only [Act.put, List.setIfInBounds_toArray, List.set_cons_zero, List.set_cons_succ]
                    exact wpAnyH_done (by kernel_rfl) ⟨rfl, g1, g2, _, _, _, _, _, _, _, _, _, _, _, _, by rfl, t1, t2, r2, r4, HB⟩ _
      · refine wp_alloc_four (fun g1 V t1 bb hg => ?_)
        have b1 := Nat.le_trans HB.size hg
        replace HB := HB.trans (bb.mono HB.size)
        have ne : g1 ≠ g2 := Nat.ne_of_gt (Nat.lt_of_lt_of_le t2.lt hg)
        replace t2 := t2.to bb
        refine hK.out _ _ HB ?_
        clear hK K bb hg
        simp only [Act.put, List.setIfInBounds_toArray, List.set_cons_zero, List.set_cons_succ]
        refine wpAnyH_ready (rs := [1]) (by kernel_rfl) (by simp) (ready_cons rfl (by rfl) (fun K hK => ?_) AllReadyH.nil)
        · go_simp
          refine (floor_q (VA.to HB).qi (by decide) (by decide)).mono ?_
          rintro e V ⟨z10, z11, rfl, r1, bb⟩
          replace HB := HB.trans (bb.mono HB.size)
          replace t1 := t1.to bb
          replace t2 := t2.to bb
          refine hK.out _ _ HB ?_
          clear hK K bb
          refine wpAnyH_ready (rs := [2]) (by kernel_rfl) (by simp) (ready_cons rfl (by rfl) (fun K hK => ?_) AllReadyH.nil)
          · go_simp
            refine (fromInteger_z (r1.zs sF).zi).mono ?_
            rintro e V ⟨u10, u11, u12, u13, rfl, r2, bb⟩
            replace HB := HB.trans (bb.mono HB.size)
            replace t1 := t1.to bb
            replace t2 := t2.to bb
            refine hK.out _ _ HB ?_
            clear hK K bb
            refine wpAnyH_ready (rs := [4]) (by kernel_rfl) (by simp) (ready_cons rfl (by rfl) (fun K hK => ?_) AllReadyH.nil)
            · go_simp
              refine (ceil_q (VA.to HB).qi (by decide) (by decide)).mono ?_
              rintro e V ⟨z20, z21, rfl, r3, bb⟩
              replace HB := HB.trans (bb.mono HB.size)
              replace t1 := t1.to bb
              replace t2 := t2.to bb
              replace r2 := r2.to bb
              refine hK.out _ _ HB ?_
              clear hK K bb
              refine wpAnyH_ready (rs := [5]) (by kernel_rfl) (by simp) (ready_cons rfl (by rfl) (fun K hK => ?_) AllReadyH.nil)
              · go_simp
                refine (fromInteger_z (r3.zs sG).zi).mono ?_
                rintro e V ⟨u20, u21, u22, u23, rfl, r4, bb⟩
                replace HB := HB.trans (bb.mono HB.size)
                replace t1 := t1.to bb
                replace t2 := t2.to bb
                replace r2 := r2.to bb
                refine hK.out _ _ HB ?_
                clear hK K bb
                refine wpAnyH_ready (rs := [8]) (by kernel_rfl) (by simp) (ready_cons rfl (by rfl) (fun K hK => ?_) AllReadyH.nil)
                · refine wp_store_q (by rfl) (by rfl) t1 Fq.nil r2.fq (fun V u kp => ?_)
                  replace t2 := kp.four (Ne.symm ne) t2
                  replace r2 := kp.qc r2
                  replace r4 := kp.qc r4
                  replace HB := kp.bel _ _ HB b1
                  clear t1
                  have t1 := u
                  refine hK.out _ _ HB ?_
                  clear hK K kp u
                  simp only [Act.put, List.setIfInBounds_toArray, List.set_cons_zero, List.set_cons_succ]
                  refine wpAnyH_ready (rs := [9]) (by kernel_rfl) (by simp) (ready_cons rfl (by rfl) (fun K hK => ?_) AllReadyH.nil)
                  · refine wp_store_q (by rfl) (by rfl) t2 Fq.nil r4.fq (fun V u kp => ?_)
                    replace t1 := kp.four ne t1
                    replace r2 := kp.qc r2
                    replace r4 := kp.qc r4
                    replace HB := kp.bel _ _ HB b2
                    clear t2
                    have t2 := u
                    refine hK.out _ _ HB ?_
                    clear hK K kp u
                    simp only [Act.put, List.setIfInBounds_toArray, List.set_cons_zero, List.set_cons_succ]
                    exact wpAnyH_done (by kernel_rfl) ⟨rfl, g1, g2, _, _, _, _, _, _, _, _, _, _, _, _, by rfl, t1, t2, r2, r4, HB⟩ _
  rintro v' W6 ⟨gF, gG, F0, F1, F2, F3, G0, G1, G2, G3, _, _, _, _, rfl, t1, t2, cF, cG, HB⟩
  simp only [Act.put, List.setIfInBounds_toArray, List.set_cons_zero, List.set_cons_succ]
  have VF : Qb W6 gF F0 F1 F2 F3 (a.floor : Rat) 6 := ⟨t1, cF.qi mF (by decide)⟩
  have VG : Qb W6 gG G0 G1 G2 G3 (a.ceil : Rat) 6 := ⟨t2, cG.qi mG (by decide)⟩
  replace VA := VA.to HB
  replace VB := VB.to HB
  replace VC := VC.to HB
  replace HB0 := Lib.hid (HB0.out.trans (HB.mono HB0.out.size))
  clear HB
  clear t1 t2 cF cG
  go_wp2_with fail
  refine (fromInt_q 1 (by decide) (by decide) _).mono ?_
  rintro e V9 ⟨_, _, _, _, rfl, cO, bb⟩
  replace VA := VA.to bb
  replace VB := VB.to bb
  replace VC := VC.to bb
  replace VF := VF.to bb
  replace VG := VG.to bb
  replace HB0 := Lib.hid (HB0.out.trans (bb.mono HB0.out.size))
  clear bb
  have mO : Qm 1 ((1 : Int) : Rat) := Qm.int (by unfold Sm; decide) (by decide)
  obtain ⟨one, eone⟩ : ∃ o : Rat, Hid (((1 : Int) : Rat) = o) := ⟨_, rfl⟩
  rw [eone.out] at cO mO
  obtain ⟨⟨n1, A1, j1, m1, rfl, rfl⟩, ⟨n2, A2, j2, m2, rfl, rfl⟩⟩ := cO.fq
  have tO := Four.new V9 (.bool n1) (.slice A1 j1 m1) (.bool n2) (.slice A2 j2 m2) 26
  have bb := (Below.refl V9.heap.size V9).alloc (Nat.le_refl _) (.cells #[.bool n1, .slice A1 j1 m1, .bool n2, .slice A2 j2 m2] 26)
  replace cO := cO.to bb
  replace VA := VA.to bb
  replace VB := VB.to bb
  replace VC := VC.to bb
  replace VF := VF.to bb
  replace VG := VG.to bb
  replace HB0 := Lib.hid (HB0.out.trans (bb.mono HB0.out.size))
  clear bb
  go_wp2_with fail
  obtain ⟨W7, hW7⟩ : ∃ W, W = V9.alloc (.cells #[.bool n1, .slice A1 j1 m1, .bool n2, .slice A2 j2 m2] 26) := ⟨_, rfl⟩
  obtain ⟨gO, hgO⟩ : ∃ g, g = V9.heap.size := ⟨_, rfl⟩
  rw [← hW7, ← hgO] at tO
  rw [← hW7, ← hgO]
  rw [← hW7] at cO HB0 VA VB VC VF VG
  clear hW7 hgO
  have VO : Qb W7 gO _ _ _ _ one 1 := ⟨tO, cO.qi mO (by decide)⟩
  clear cO tO
  obtain ⟨v1, e1⟩ : ∃ v, cmpQ (a.floor : Rat) a = v := ⟨_, rfl⟩
  obtain ⟨v2, e2⟩ : ∃ v, cmpQ (a.ceil : Rat) a = v := ⟨_, rfl⟩
  have d1 : decide (0 < v1) = false := by rw [← e1]; exact nle_lt _ _ (Rat.floor_le a)
  have d2 : decide (v2 < 0) = false := by rw [← e2]; exact nge_lt _ _ Rat.le_ceil
  have E1 := Lib.hid e1
  have E2 := Lib.hid e2
  clear e1 e2
  have E3 : Hid (cmpQ ((a.floor : Rat) + one) a = 1) := by
    show _ = _
    rw [← eone.out, ← Rat.intCast_add]
    exact cmpQ_gt (Rat.lt_floor_add_one a)
  have E4 : Hid (cmpQ ((a.ceil : Rat) - one) a = -1) := by
    show _ = _
    rw [← eone.out]
    refine cmpQ_lt ?_
    rw [Rat.sub_lt_iff]
    exact Rat.ceil_lt
  have mr5 : Qm 8 ((a.floor : Rat) + one) := by have h := mF.add mO; exact h
  have mr6 : Qm 8 ((a.ceil : Rat) - one) := by have h := mG.sub mO; exact h
  refine wp_region_plan (S := fun w' => Below W7.heap.size W7 w') [(0, true), (1, true), (2, false), (3, true), (4, true), (5, true), (6, true), (7, false), (8, true), (9, true), (10, true), (11, true), (12, true), (14, true), (13, false), (15, false), (16, true), (17, true), (18, true), (19, true), (20, true), (22, true), (21, false), (23, false), (24, true), (25, true)] (by kernel_rfl) (by kernel_rfl) (Below.refl _ _).drew ?_
  have HB := (Below.refl W7.heap.size W7).drew
  refine plan_take rfl (by rfl) (fun w' hS => load_four (by rfl) (VF.four.to hS)) ?_; simp only [Act.put, List.setIfInBounds_toArray, List.set_cons_zero, List.set_cons_succ]
  refine plan_take rfl (by rfl) (fun w' hS => load_four (by rfl) (VA.four.to hS)) ?_; simp only [Act.put, List.setIfInBounds_toArray, List.set_cons_zero, List.set_cons_succ]
  refine plan_call rfl (by rfl) (fun K hK => ?_)
  go_simp
  refine (cmp_q (VF.qi.to HB) (VA.qi.to HB) (by decide) (by decide) (by decide) E1.out).mono ?_
  rintro e V ⟨rfl, bb⟩
  replace HB := HB.trans (bb.mono HB.size)
  refine hK.out _ _ HB ?_
  clear hK K bb
  refine plan_take (v := ?_) rfl (by rfl) ?_ ?_; rotate_left; (focus (intro w' _; go_simp; try with_reducible rfl)); simp only [Act.put, List.setIfInBounds_toArray, List.set_cons_zero, List.set_cons_succ]
  refine plan_take (v := ?_) rfl (by rfl) ?_ ?_; rotate_left; (focus (intro w' _; go_simp; try with_reducible rfl)); simp only [Act.put, List.setIfInBounds_toArray, List.set_cons_zero, List.set_cons_succ]
  refine plan_take rfl (by rfl) (fun w' hS => load_four (by rfl) (VG.four.to hS)) ?_; simp only [Act.put, List.setIfInBounds_toArray, List.set_cons_zero, List.set_cons_succ]
  refine plan_take rfl (by rfl) (fun w' hS => load_four (by rfl) (VA.four.to hS)) ?_; simp only [Act.put, List.setIfInBounds_toArray, List.set_cons_zero, List.set_cons_succ]
  refine plan_call rfl (by rfl) (fun K hK => ?_)
  go_simp
  refine (cmp_q (VG.qi.to HB) (VA.qi.to HB) (by decide) (by decide) (by decide) E2.out).mono ?_
  rintro e V ⟨rfl, bb⟩
  replace HB := HB.trans (bb.mono HB.size)
  refine hK.out _ _ HB ?_
  clear hK K bb
  refine plan_take (v := ?_) rfl (by rfl) ?_ ?_; rotate_left; (focus (intro w' _; go_simp; try with_reducible rfl)); simp only [Act.put, List.setIfInBounds_toArray, List.set_cons_zero, List.set_cons_succ]
  refine plan_take (v := ?_) rfl (by rfl) ?_ ?_; rotate_left; (focus (intro w' _; go_simp; try with_reducible rfl)); simp only [Act.put, List.setIfInBounds_toArray, List.set_cons_zero, List.set_cons_succ]
  refine plan_take (v := ?_) rfl (by rfl) ?_ ?_; rotate_left; (focus (intro w' _; go_simp; try with_reducible rfl)); simp only [Act.put, List.setIfInBounds_toArray, List.set_cons_zero, List.set_cons_succ]
  refine plan_take rfl (by rfl) (fun w' hS => load_four (by rfl) (VF.four.to hS)) ?_; simp only [Act.put, List.setIfInBounds_toArray, List.set_cons_zero, List.set_cons_succ]
  refine plan_take rfl (by rfl) (fun w' hS => load_four (by rfl) (VO.four.to hS)) ?_; simp only [Act.put, List.setIfInBounds_toArray, List.set_cons_zero, List.set_cons_succ]
  refine plan_take rfl (by rfl) (fun w' hS => load_four (by rfl) (VA.four.to hS)) ?_; simp only [Act.put, List.setIfInBounds_toArray, List.set_cons_zero, List.set_cons_succ]
  refine plan_call rfl (by rfl) (fun K hK => ?_)
  go_simp
  refine (add_q (VF.qi.to HB) (VO.qi.to HB) (by decide) (by decide) (by decide)).mono ?_
  rintro e V ⟨ur5, vr5, xr5, yr5, rfl, r5, bb⟩
  replace HB := HB.trans (bb.mono HB.size)
  refine hK.out _ _ HB ?_
  clear hK K bb
  refine plan_call rfl (by rfl) (fun K hK => ?_)
  go_simp
  refine (cmp_q (r5.qi mr5 (by decide)) (VA.qi.to HB) (by decide) (by decide) (by decide) E3.out).mono ?_
  rintro e V ⟨rfl, bb⟩
  replace HB := HB.trans (bb.mono HB.size)
  clear r5
  refine hK.out _ _ HB ?_
  clear hK K bb
  refine plan_take (v := ?_) rfl (by rfl) ?_ ?_; rotate_left; (focus (intro w' _; go_simp; try with_reducible rfl)); simp only [Act.put, List.setIfInBounds_toArray, List.set_cons_zero, List.set_cons_succ]
  refine plan_take (v := ?_) rfl (by rfl) ?_ ?_; rotate_left; (focus (intro w' _; go_simp; try with_reducible rfl)); simp only [Act.put, List.setIfInBounds_toArray, List.set_cons_zero, List.set_cons_succ]
  refine plan_take (v := ?_) rfl (by rfl) ?_ ?_; rotate_left; (focus (intro w' _; go_simp; try with_reducible rfl)); simp only [Act.put, List.setIfInBounds_toArray, List.set_cons_zero, List.set_cons_succ]
  refine plan_take rfl (by rfl) (fun w' hS => load_four (by rfl) (VG.four.to hS)) ?_; simp only [Act.put, List.setIfInBounds_toArray, List.set_cons_zero, List.set_cons_succ]
  refine plan_take rfl (by rfl) (fun w' hS => load_four (by rfl) (VO.four.to hS)) ?_; simp only [Act.put, List.setIfInBounds_toArray, List.set_cons_zero, List.set_cons_succ]
  refine plan_take rfl (by rfl) (fun w' hS => load_four (by rfl) (VA.four.to hS)) ?_; simp only [Act.put, List.setIfInBounds_toArray, List.set_cons_zero, List.set_cons_succ]
  refine plan_call rfl (by rfl) (fun K hK => ?_)
  go_simp
  refine (sub_q (VG.qi.to HB) (VO.qi.to HB) (by decide) (by decide) (by decide)).mono ?_
  rintro e V ⟨ur6, vr6, xr6, yr6, rfl, r6, bb⟩
  replace HB := HB.trans (bb.mono HB.size)
  refine hK.out _ _ HB ?_
  clear hK K bb
  refine plan_call rfl (by rfl) (fun K hK => ?_)
  go_simp
  refine (cmp_q (r6.qi mr6 (by decide)) (VA.qi.to HB) (by decide) (by decide) (by decide) E4.out).mono ?_
  rintro e V ⟨rfl, bb⟩
  replace HB := HB.trans (bb.mono HB.size)
  clear r6
  refine hK.out _ _ HB ?_
  clear hK K bb
  refine plan_take (v := ?_) rfl (by rfl) ?_ ?_; rotate_left; (focus (intro w' _; go_simp; try with_reducible rfl)); simp only [Act.put, List.setIfInBounds_toArray, List.set_cons_zero, List.set_cons_succ]
  refine plan_take (v := ?_) rfl (by rfl) ?_ ?_; rotate_left; (focus (intro w' _; go_simp; try with_reducible rfl)); simp only [Act.put, List.setIfInBounds_toArray, List.set_cons_zero, List.set_cons_succ]
  refine plan_done ?_
  replace VA := VA.to HB
  replace VB := VB.to HB
  replace VC := VC.to HB
  replace VF := VF.to HB
  replace VG := VG.to HB
  replace VO := VO.to HB
  replace HB0 := Lib.hid (HB0.out.trans (HB.mono HB0.out.size))
  clear HB
  clear E1 E2 E3 E4 d1 d2
  go_wp2_with fail
  obtain ⟨W8, hW8⟩ : ∃ W', W' = V := ⟨_, rfl⟩
  subst hW8
  obtain ⟨v4, e4⟩ : ∃ v, cmpQ (minQ a b) (maxQ a b) = v := ⟨_, rfl⟩
  have d4 : decide (v4 ≤ 0) = true := by rw [← e4]; exact le_cmp _ _ (min_le_max a b)
  have E5 := Lib.hid e4
  clear e4
  have mr7 : Qm 6 (minQ a b) := by have h := Qm.min mA mB; exact h
  have mr8 : Qm 6 (maxQ a b) := by have h := Qm.max mA mB; exact h
  have mr9 : Qm 13 ((minQ a b) + (maxQ a b)) := by have h := mr7.add mr8; exact h
  have mr10 : Qm 13 (a + b) := by have h := mA.add mB; exact h
  have mr11 : Qm 6 (minQ a b) := by have h := Qm.min mA mB; exact h
  have mr12 : Qm 6 (maxQ a b) := by have h := Qm.max mA mB; exact h
  refine wp_region_plan (S := fun w' => Below W8.heap.size W8 w') [(0, true), (1, true), (3, true), (4, true), (7, true), (8, true), (2, false), (5, false), (6, false), (9, false), (10, false), (11, true), (12, true), (13, true), (15, true), (16, true), (14, false), (17, false), (18, false), (19, true), (20, true), (21, true), (22, false), (23, true), (24, true)] (by kernel_rfl) (by kernel_rfl) (Below.refl _ _).drew ?_
  have HB := (Below.refl W8.heap.size W8).drew
  refine plan_take rfl (by rfl) (fun w' hS => load_four (by rfl) (VA.four.to hS)) ?_; simp only [Act.put, List.setIfInBounds_toArray, List.set_cons_zero, List.set_cons_succ]
  refine plan_take rfl (by rfl) (fun w' hS => load_four (by rfl) (VB.four.to hS)) ?_; simp only [Act.put, List.setIfInBounds_toArray, List.set_cons_zero, List.set_cons_succ]
  refine plan_take rfl (by rfl) (fun w' hS => load_four (by rfl) (VA.four.to hS)) ?_; simp only [Act.put, List.setIfInBounds_toArray, List.set_cons_zero, List.set_cons_succ]
  refine plan_take rfl (by rfl) (fun w' hS => load_four (by rfl) (VB.four.to hS)) ?_; simp only [Act.put, List.setIfInBounds_toArray, List.set_cons_zero, List.set_cons_succ]
  refine plan_take rfl (by rfl) (fun w' hS => load_four (by rfl) (VA.four.to hS)) ?_; simp only [Act.put, List.setIfInBounds_toArray, List.set_cons_zero, List.set_cons_succ]
  refine plan_take rfl (by rfl) (fun w' hS => load_four (by rfl) (VB.four.to hS)) ?_; simp only [Act.put, List.setIfInBounds_toArray, List.set_cons_zero, List.set_cons_succ]
  refine plan_call rfl (by rfl) (fun K hK => ?_)
  go_simp
  refine (min_q (VA.qi.to HB) (VB.qi.to HB) (by decide) (by decide) (by decide)).mono ?_
  rintro e V ⟨ur7, vr7, xr7, yr7, rfl, r7, bb⟩
  replace HB := HB.trans (bb.mono HB.size)
  refine hK.out _ _ HB ?_
  clear hK K bb
  refine plan_call rfl (by rfl) (fun K hK => ?_)
  go_simp
  refine (max_q (VA.qi.to HB) (VB.qi.to HB) (by decide) (by decide) (by decide)).mono ?_
  rintro e V ⟨ur8, vr8, xr8, yr8, rfl, r8, bb⟩
  replace HB := HB.trans (bb.mono HB.size)
  replace r7 := r7.to bb
  refine hK.out _ _ HB ?_
  clear hK K bb
  refine plan_call rfl (by rfl) (fun K hK => ?_)
  go_simp
  refine (add_q (r7.qi mr7 (by decide)) (r8.qi mr8 (by decide)) (by decide) (by decide) (by decide)).mono ?_
  rintro e V ⟨ur9, vr9, xr9, yr9, rfl, r9, bb⟩
  replace HB := HB.trans (bb.mono HB.size)
  clear r7
  clear r8
  refine hK.out _ _ HB ?_
  clear hK K bb
  refine plan_call rfl (by rfl) (fun K hK => ?_)
  go_simp
  refine (add_q (VA.qi.to HB) (VB.qi.to HB) (by decide) (by decide) (by decide)).mono ?_
  rintro e V ⟨ur10, vr10, xr10, yr10, rfl, r10, bb⟩
  replace HB := HB.trans (bb.mono HB.size)
  replace r9 := r9.to bb
  refine hK.out _ _ HB ?_
  clear hK K bb
  refine plan_call rfl (by rfl) (fun K hK => ?_)
  go_simp
  refine (equal_q (r9.qi mr9 (by decide)) (r10.qi mr10 (by decide)) (by decide) (by decide) (by decide) (v := true) (decide_eq_true (min_add a b))).mono ?_
  rintro e V ⟨rfl, bb⟩
  replace HB := HB.trans (bb.mono HB.size)
  clear r9
  clear r10
  refine hK.out _ _ HB ?_
  clear hK K bb
  refine plan_take (v := ?_) rfl (by rfl) ?_ ?_; rotate_left; (focus (intro w' _; go_simp; try with_reducible rfl)); simp only [Act.put, List.setIfInBounds_toArray, List.set_cons_zero, List.set_cons_succ]
  refine plan_take rfl (by rfl) (fun w' hS => load_four (by rfl) (VA.four.to hS)) ?_; simp only [Act.put, List.setIfInBounds_toArray, List.set_cons_zero, List.set_cons_succ]
  refine plan_take rfl (by rfl) (fun w' hS => load_four (by rfl) (VB.four.to hS)) ?_; simp only [Act.put, List.setIfInBounds_toArray, List.set_cons_zero, List.set_cons_succ]
  refine plan_take rfl (by rfl) (fun w' hS => load_four (by rfl) (VA.four.to hS)) ?_; simp only [Act.put, List.setIfInBounds_toArray, List.set_cons_zero, List.set_cons_succ]
  refine plan_take rfl (by rfl) (fun w' hS => load_four (by rfl) (VB.four.to hS)) ?_; simp only [Act.put, List.setIfInBounds_toArray, List.set_cons_zero, List.set_cons_succ]
  refine plan_call rfl (by rfl) (fun K hK => ?_)
  go_simp
  refine (min_q (VA.qi.to HB) (VB.qi.to HB) (by decide) (by decide) (by decide)).mono ?_
  rintro e V ⟨ur11, vr11, xr11, yr11, rfl, r11, bb⟩
  replace HB := HB.trans (bb.mono HB.size)
  refine hK.out _ _ HB ?_
  clear hK K bb
  refine plan_call rfl (by rfl) (fun K hK => ?_)
  go_simp
  refine (max_q (VA.qi.to HB) (VB.qi.to HB) (by decide) (by decide) (by decide)).mono ?_
  rintro e V ⟨ur12, vr12, xr12, yr12, rfl, r12, bb⟩
  replace HB := HB.trans (bb.mono HB.size)
  replace r11 := r11.to bb
  refine hK.out _ _ HB ?_
  clear hK K bb
  refine plan_call rfl (by rfl) (fun K hK => ?_)
  go_simp
  refine (cmp_q (r11.qi mr11 (by decide)) (r12.qi mr12 (by decide)) (by decide) (by decide) (by decide) E5.out).mono ?_
  rintro e V ⟨rfl, bb⟩
  replace HB := HB.trans (bb.mono HB.size)
  clear r11
  clear r12
  refine hK.out _ _ HB ?_
  clear hK K bb
  refine plan_take (v := ?_) rfl (by rfl) ?_ ?_; rotate_left; (focus (intro w' _; go_simp; try with_reducible rfl)); simp only [Act.put, List.setIfInBounds_toArray, List.set_cons_zero, List.set_cons_succ]
  refine plan_take (v := ?_) rfl (by rfl) ?_ ?_; rotate_left; (focus (intro w' _; go_simp; try with_reducible rfl)); simp only [Act.put, List.setIfInBounds_toArray, List.set_cons_zero, List.set_cons_succ]
  refine plan_take (v := ?_) rfl (by rfl) ?_ ?_; rotate_left; (focus (intro w' _; go_simp; try with_reducible rfl)); simp only [Act.put, List.setIfInBounds_toArray, List.set_cons_zero, List.set_cons_succ]
  refine plan_call rfl (by rfl) (fun K hK => ?_)
  go_simp
  refine (falive_any _).mono ?_
  rintro e V ⟨rfl, bb⟩
  replace HB := HB.trans (bb.mono HB.size)
  refine hK.out _ _ HB ?_
  clear hK K bb
  refine plan_take (v := ?_) rfl (by rfl) ?_ ?_; rotate_left; (focus (intro w' _; go_simp; try with_reducible rfl)); simp only [Act.put, List.setIfInBounds_toArray, List.set_cons_zero, List.set_cons_succ]
  refine plan_take (v := ?_) rfl (by rfl) ?_ ?_; rotate_left; (focus (intro w' _; go_simp; try with_reducible rfl)); simp only [Act.put, List.setIfInBounds_toArray, List.set_cons_zero, List.set_cons_succ]
  refine plan_done ?_
  have HE := Lib.hid (HB0.out.trans (HB.mono HB0.out.size))
  clear HB
  go_wp2
  go_ret
  exact ⟨rfl, HE.out⟩

set_option maxHeartbeats 2000000 in
theorem order_long {a1 a2 a3 a4 b1 b2 b3 b4 c1 c2 c3 c4 : Value} {w : World}
    (hL : ∀ (V : World) (g : Nat), V.heap[g]? = some (.cells #[a1, a2, a3, a4, b1, b2, b3, b4, c1, c2, c3, c4] 26 (0, 0)) → Calls Try.prog 6 #[.slice (some ⟨g, 0, none⟩) 3 3] V fun e w' => e = .returned (.bool true) ∧ Below V.heap.size V w') :
    Calls Try.prog 4 #[.agg #[a1, a2, a3, a4], .agg #[b1, b2, b3, b4], .agg #[c1, c2, c3, c4]] w fun e w' => e = .returned (.bool true) ∧ Below w.heap.size w w' := by
  obtain ⟨W0, hW0⟩ : ∃ W0, W0 = (((w.alloc (.cells #[a1, a2, a3, a4] 26)).alloc (.cells #[b1, b2, b3, b4] 26)).alloc (.cells #[c1, c2, c3, c4] 26)).alloc (.cells #[a1, a2, a3, a4, b1, b2, b3, b4, c1, c2, c3, c4] 26) := ⟨_, rfl⟩
  have hb : Below w.heap.size w W0 := by rw [hW0]; exact ((((Below.refl _ _).alloc (Nat.le_refl _) _).alloc (by simp) _).alloc (by simp; omega) _).alloc (by simp; omega) _
  have HL : Hid (Calls Try.prog 6 #[.slice (some ⟨w.heap.size + 1 + 1 + 1, 0, none⟩) 3 3] W0 fun e w' => e = .returned (.bool true) ∧ Below W0.heap.size W0 w') := by
    have h := World.alloc_heap_new (((w.alloc (.cells #[a1, a2, a3, a4] 26)).alloc (.cells #[b1, b2, b3, b4] 26)).alloc (.cells #[c1, c2, c3, c4] 26)) (.cells #[a1, a2, a3, a4, b1, b2, b3, b4, c1, c2, c3, c4] 26)
    rw [World.size_alloc, World.size_alloc, World.size_alloc, ← hW0] at h
    exact hL W0 (w.heap.size + 1 + 1 + 1) h
  have HW0 := Lib.hid hW0
  have HB0 := Lib.hid hb
  clear hL hW0 hb
  go_enter Try.func4, Try.ntmps4
  go_wp2_with fail
  rw [← HW0.out]
  refine HL.out.mono ?_
  rintro e W1 ⟨rfl, bb⟩
  replace HB0 := Lib.hid (HB0.out.trans (bb.mono HB0.out.size))
  clear HL HW0 bb
  go_wp2_with fail
  refine (falive_any _).mono ?_
  rintro e w' ⟨rfl, b⟩
  have HE := Lib.hid (HB0.out.trans (b.mono HB0.out.size))
  clear b HB0
  go_wp2
  go_ret
  exact ⟨rfl, HE.out⟩

end Go.Proofs.Ytbmnloelimmgiaa
