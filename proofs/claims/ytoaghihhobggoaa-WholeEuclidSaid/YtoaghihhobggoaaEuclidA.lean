/- The law WholeEuclid: the walk where the divisor is 0. -/
import Derived.Test.YtoaghihhobggoaaEuclidM
set_option linter.unusedVariables false
set_option linter.unusedSimpArgs false
namespace Go.Proofs.Ytoaghihhobggoaa
open Go.RowKit Go.Shelf

set_option maxRecDepth 100000 in
set_option maxHeartbeats 20000000 in
theorem euclid_z00 {x1 y1 x2 y2 x3 y3 : Value} {a b d : Int} {w : World} (h1 : Zl w x1 y1 a) (h2 : Zl w x2 y2 b) (h3 : Zl w x3 y3 d) (m1 : Sm 12 a) (m2 : Sm 12 b) (m3 : Sm 12 d)
    (h0 : b = 0) (va : decide (d ∣ a) = false) 
    (hL : ∀ (V : World) (g : Nat), V.cell? ⟨g, 1, none⟩ = some y1 → V.cell? ⟨g, 3, none⟩ = some y2 → V.cell? ⟨g, 5, none⟩ = some y3 → Calls Try.prog 9 #[.slice (some ⟨g, 0, none⟩) 3 3] V fun e w' => e = .returned (.bool false) ∧ w' = V) :
    Calls Try.prog 7 #[.agg #[x1, y1], .agg #[x2, y2], .agg #[x3, y3]] w fun e w' => e = .returned (.bool true) ∧ Below w.heap.size w w' := by
  subst h0
  have hdm : ∀ V, Zl V x1 y1 a → Zl V x2 y2 0 → Calls Try.prog 33 #[.agg #[x1, y1], .agg #[x2, y2]] V (ZE V 0 0 7) := by
    intro V hx hy
    have h := dm_x hx hy
    unfold dr de at h
    rw [if_pos rfl, if_pos rfl, Int.ediv_zero] at h
    exact h
  have HDM := Lib.hid hdm
  have hsb : sgn 0 = 0 := rfl
  have HSB := Lib.hid hsb
  obtain ⟨q, eq⟩ : ∃ q : Int, Hid ((0 : Int) = q) := ⟨_, rfl⟩
  obtain ⟨r, er⟩ : ∃ r : Int, Hid ((0 : Int) = r) := ⟨_, rfl⟩
  have hq0 : Hid (sgn q = 0) := by show _ = _; rw [← eq.out]; rfl
  have hr0 : Hid (sgn r = 0) := by show _ = _; rw [← er.out]; rfl
  have SQ : Sm 12 q := by rw [← eq.out]; unfold Sm b32; decide
  have SR : Sm 12 r := by rw [← er.out]; unfold Sm b32; decide
  clear hdm hsb
  obtain ⟨g, eg⟩ : ∃ g : Int, Hid (((Int.gcd a 0 : Nat) : Int) = g) := ⟨_, rfl⟩
  have SG : Sm 12 g := by rw [← eg.out]; exact m1.gcd m2
  obtain ⟨sg, esg⟩ : ∃ s, Hid (sgn g = s) := ⟨_, rfl⟩
  have hsg : ¬ sg < 0 := by rw [← esg.out, ← eg.out]; exact sgn_nonneg (Int.natCast_nonneg _)
  have HSG := Lib.hid hsg
  have DA : Hid (decide (g ∣ a) = true) := by show _ = _; rw [← eg.out]; exact decide_eq_true (Int.gcd_dvd_left ..)
  have DB : Hid (decide (g ∣ 0) = true) := by show _ = _; rw [← eg.out]; exact decide_eq_true (Int.gcd_dvd_right ..)
  have VA := Lib.hid va
  have E1 : Hid (((Int.gcd (a * d) (0 * d) : Nat) : Int) = g * (d.natAbs : Int)) := by show _ = _; rw [← eg.out]; exact gcd_scale a 0 d
  have E2 : Hid (((Int.gcd 0 a : Nat) : Int) = g) := by show _ = _; rw [← eg.out, Int.gcd_comm]
  have S1 : Sm 24 (a * d) := m1.mul m3
  have S2 : Sm 24 (0 * d) := m2.mul m3
  clear hsg va 
  obtain ⟨W0, hW0⟩ : ∃ W0, W0 = (((w.alloc (.cells #[x1, y1] 24)).alloc (.cells #[x2, y2] 24)).alloc (.cells #[x3, y3] 24)).alloc (.cells #[x1, y1, x2, y2, x3, y3] 24) := ⟨_, rfl⟩
  have hb : Below w.heap.size w W0 := by rw [hW0]; exact ((((Below.refl _ _).alloc (Nat.le_refl _) _).alloc (by simp) _).alloc (by simp; omega) _).alloc (by simp; omega) _
  have X3 : Zm W0 w.heap.size x1 y1 a := ⟨by rw [hW0]; exact (((Two.new w _ _ _).alloc _).alloc _).alloc _, h1.to hb⟩
  have X4 : Zm W0 (w.heap.size + 1) x2 y2 0 := ⟨by
    have h := Two.new (w.alloc (.cells #[x1, y1] 24)) x2 y2 24
    rw [World.size_alloc] at h
    rw [hW0]; exact (h.alloc _).alloc _, h2.to hb⟩
  have X5 : Zm W0 (w.heap.size + 1 + 1) x3 y3 d := ⟨by
    have h := Two.new ((w.alloc (.cells #[x1, y1] 24)).alloc (.cells #[x2, y2] 24)) x3 y3 24
    rw [World.size_alloc, World.size_alloc] at h
    rw [hW0]; exact h.alloc _, h3.to hb⟩
  have HL : Hid (Calls Try.prog 9 #[.slice (some ⟨w.heap.size + 1 + 1 + 1, 0, none⟩) 3 3] W0 fun e w' => e = .returned (.bool false) ∧ w' = W0) := by
    have h := World.alloc_heap_new (((w.alloc (.cells #[x1, y1] 24)).alloc (.cells #[x2, y2] 24)).alloc (.cells #[x3, y3] 24)) (.cells #[x1, y1, x2, y2, x3, y3] 24)
    rw [World.size_alloc, World.size_alloc, World.size_alloc, ← hW0] at h
    exact hL W0 (w.heap.size + 1 + 1 + 1) (by simp [World.cell?, h]) (by simp [World.cell?, h]) (by simp [World.cell?, h])
  have HW0 := Lib.hid hW0
  have HB0 := Lib.hid hb
  clear hL h1 h2 h3 hW0 hb
  go_enter Try.func7, Try.ntmps7
  go_wp2_with fail
  rw [← HW0.out]
  refine HL.out.mono ?_
  rintro e W1 ⟨rfl, rfl⟩
  clear HL
  have hdm := HDM.out _ X3.zl X4.zl
  have hdm : Calls Try.prog 33 #[.agg #[x1, y1], .agg #[x2, y2]] W1 (ZE W1 q r 7) := by have h := hdm; rwa [show ZE W1 0 0 7 = ZE W1 q r 7 from by rw [← eq.out, ← er.out]] at h
  have HD2 := Lib.hid hdm
  clear hdm HDM HW0
  have q1 := X3.two.c0
  have q2 := X3.two.c1
  have q3 := X4.two.c0
  have q4 := X4.two.c1
  go_wp2_with fail
  refine HD2.out.mono ?_
  rintro e W3 ⟨_, _, _, _, rfl, ⟨Aq, cq, rfl, rfl, a1, a2, a3⟩, ⟨Ar, cr, rfl, rfl, b1, b2, b3⟩, HB⟩
  have RQ : Hid (Zc W3 (.bool (decide (q < 0))) (.slice Aq (dig b32 q.natAbs).length cq) q) := ⟨Aq, cq, rfl, rfl, a1, a2, a3⟩
  have RR : Hid (Zc W3 (.bool (decide (r < 0))) (.slice Ar (dig b32 r.natAbs).length cr) r) := ⟨Ar, cr, rfl, rfl, b1, b2, b3⟩
  clear q1 q2 q3 q4 a1 a2 a3 b1 b2 b3 HD2
  replace X3 := X3.to HB
  replace X4 := X4.to HB
  replace X5 := X5.to HB
  replace HB0 := Lib.hid (HB0.out.trans (HB.mono HB0.out.size))
  clear HB
  obtain ⟨W4, hW4⟩ : ∃ W4, W4 = (W3.alloc (.cells #[.bool (decide (q < 0)), .slice Aq (dig b32 q.natAbs).length cq] 24)).alloc (.cells #[.bool (decide (r < 0)), .slice Ar (dig b32 r.natAbs).length cr] 24) := ⟨_, rfl⟩
  have HB : Below W3.heap.size W3 W4 := by rw [hW4]; exact ((Below.refl _ _).alloc (Nat.le_refl _) _).alloc (by simp) _
  have Y7 : Zb W4 W3.heap.size (.bool (decide (q < 0))) (.slice Aq (dig b32 q.natAbs).length cq) q := ⟨by rw [hW4]; exact (Two.new W3 _ _ _).alloc _, (Zc.to RQ.out HB).zi SQ (by decide)⟩
  have Y8 : Zb W4 (W3.heap.size + 1) (.bool (decide (r < 0))) (.slice Ar (dig b32 r.natAbs).length cr) r := ⟨by
    have h := Two.new (W3.alloc (.cells #[.bool (decide (q < 0)), .slice Aq (dig b32 q.natAbs).length cq] 24)) (.bool (decide (r < 0))) (.slice Ar (dig b32 r.natAbs).length cr) 24
    rw [World.size_alloc] at h
    rw [hW4]; exact h, (Zc.to RR.out HB).zi SR (by decide)⟩
  replace X3 := X3.to HB
  replace X4 := X4.to HB
  replace X5 := X5.to HB
  replace HB0 := Lib.hid (HB0.out.trans (HB.mono HB0.out.size))
  clear HB
  have HW4 := Lib.hid hW4
  clear RQ RR
  have q0 := X4.two.c0
  have q1 := X4.two.c1
  rw [hW4] at q0 q1
  clear hW4
  go_wp2_with fail
  rw [← HW4.out]
  refine (sgv X4.zl.zi HSB.out).mono ?_
  rintro e V ⟨rfl, HB⟩
  clear q0 q1 HW4
  replace X3 := X3.to HB
  replace X4 := X4.to HB
  replace X5 := X5.to HB
  replace Y7 := Y7.to HB
  replace Y8 := Y8.to HB
  replace HB0 := Lib.hid (HB0.out.trans (HB.mono HB0.out.size))
  clear HB
  have q0 := Y7.two.c0
  have q1 := Y7.two.c1
  go_wp2_with fail
  refine (sgv Y7.zi hq0.out).mono ?_
  rintro e V ⟨rfl, HB⟩
  clear q0 q1
  replace X3 := X3.to HB
  replace X4 := X4.to HB
  replace X5 := X5.to HB
  replace Y7 := Y7.to HB
  replace Y8 := Y8.to HB
  replace HB0 := Lib.hid (HB0.out.trans (HB.mono HB0.out.size))
  clear HB
  have q0 := Y8.two.c0
  have q1 := Y8.two.c1
  go_wp2_with fail
  refine (sgv Y8.zi hr0.out).mono ?_
  rintro e V ⟨rfl, HB⟩
  clear q0 q1
  replace X3 := X3.to HB
  replace X4 := X4.to HB
  replace X5 := X5.to HB
  replace Y7 := Y7.to HB
  replace Y8 := Y8.to HB
  replace HB0 := Lib.hid (HB0.out.trans (HB.mono HB0.out.size))
  clear HB
  go_wp2_with fail
  refine wp_region_plan (S := fun w' => Below V.heap.size V w') [(0, true), (1, true), (2, true), (3, true), (4, true), (5, true), (6, true), (7, true), (8, true), (9, true), (10, true), (11, true), (12, true), (13, true), (14, true), (15, true), (16, true), (17, true), (18, true), (19, true), (20, true), (21, true), (22, true), (23, true)] (by kernel_rfl) (by kernel_rfl) (Below.refl _ _).drew ?_
  have HB := (Below.refl V.heap.size V).drew
  refine plan_take (v := ?_) rfl (by rfl) ?_ ?_; rotate_left; (focus (intro w' _; go_simp; try with_reducible rfl)); simp only [Act.put, List.setIfInBounds_toArray, List.set_cons_zero, List.set_cons_succ]
  refine plan_take (v := ?_) rfl (by rfl) ?_ ?_; rotate_left; (focus (intro w' _; go_simp; try with_reducible rfl)); simp only [Act.put, List.setIfInBounds_toArray, List.set_cons_zero, List.set_cons_succ]
  refine plan_take (v := ?_) rfl (by rfl) ?_ ?_; rotate_left; (focus (intro w' _; go_simp; try with_reducible rfl)); simp only [Act.put, List.setIfInBounds_toArray, List.set_cons_zero, List.set_cons_succ]
  refine plan_skip rfl (by rfl) ?_; simp only [Act.put, List.setIfInBounds_toArray, List.set_cons_zero, List.set_cons_succ]
  refine plan_skip rfl (by rfl) ?_; simp only [Act.put, List.setIfInBounds_toArray, List.set_cons_zero, List.set_cons_succ]
  refine plan_skip rfl (by rfl) ?_; simp only [Act.put, List.setIfInBounds_toArray, List.set_cons_zero, List.set_cons_succ]
  refine plan_skip rfl (by rfl) ?_; simp only [Act.put, List.setIfInBounds_toArray, List.set_cons_zero, List.set_cons_succ]
  refine plan_skip rfl (by rfl) ?_; simp only [Act.put, List.setIfInBounds_toArray, List.set_cons_zero, List.set_cons_succ]
  refine plan_skip rfl (by rfl) ?_; simp only [Act.put, List.setIfInBounds_toArray, List.set_cons_zero, List.set_cons_succ]
  refine plan_skip rfl (by rfl) ?_; simp only [Act.put, List.setIfInBounds_toArray, List.set_cons_zero, List.set_cons_succ]
  refine plan_skip rfl (by rfl) ?_; simp only [Act.put, List.setIfInBounds_toArray, List.set_cons_zero, List.set_cons_succ]
  refine plan_skip rfl (by rfl) ?_; simp only [Act.put, List.setIfInBounds_toArray, List.set_cons_zero, List.set_cons_succ]
  refine plan_skip rfl (by rfl) ?_; simp only [Act.put, List.setIfInBounds_toArray, List.set_cons_zero, List.set_cons_succ]
  refine plan_skip rfl (by rfl) ?_; simp only [Act.put, List.setIfInBounds_toArray, List.set_cons_zero, List.set_cons_succ]
  refine plan_skip rfl (by rfl) ?_; simp only [Act.put, List.setIfInBounds_toArray, List.set_cons_zero, List.set_cons_succ]
  refine plan_skip rfl (by rfl) ?_; simp only [Act.put, List.setIfInBounds_toArray, List.set_cons_zero, List.set_cons_succ]
  refine plan_skip rfl (by rfl) ?_; simp only [Act.put, List.setIfInBounds_toArray, List.set_cons_zero, List.set_cons_succ]
  refine plan_skip rfl (by rfl) ?_; simp only [Act.put, List.setIfInBounds_toArray, List.set_cons_zero, List.set_cons_succ]
  refine plan_skip rfl (by rfl) ?_; simp only [Act.put, List.setIfInBounds_toArray, List.set_cons_zero, List.set_cons_succ]
  refine plan_skip rfl (by rfl) ?_; simp only [Act.put, List.setIfInBounds_toArray, List.set_cons_zero, List.set_cons_succ]
  refine plan_skip rfl (by rfl) ?_; simp only [Act.put, List.setIfInBounds_toArray, List.set_cons_zero, List.set_cons_succ]
  refine plan_skip rfl (by rfl) ?_; simp only [Act.put, List.setIfInBounds_toArray, List.set_cons_zero, List.set_cons_succ]
  refine plan_skip rfl (by rfl) ?_; simp only [Act.put, List.setIfInBounds_toArray, List.set_cons_zero, List.set_cons_succ]
  refine plan_take (v := ?_) rfl (by rfl) ?_ ?_; rotate_left; (focus (intro w' _; go_simp; try with_reducible rfl)); simp only [Act.put, List.setIfInBounds_toArray, List.set_cons_zero, List.set_cons_succ]
  refine plan_done ?_
  replace X3 := X3.to HB
  replace X4 := X4.to HB
  replace X5 := X5.to HB
  replace Y7 := Y7.to HB
  replace Y8 := Y8.to HB
  replace HB0 := Lib.hid (HB0.out.trans (HB.mono HB0.out.size))
  clear HB
  have hgc := gcd_x X3.zl X4.zl
  rw [eg.out] at hgc
  have HGC := Lib.hid hgc
  clear hgc
  have q1 := X3.two.c0
  have q2 := X3.two.c1
  have q3 := X4.two.c0
  have q4 := X4.two.c1
  go_wp2_with fail
  refine HGC.out.mono ?_
  rintro e W6 ⟨_, _, rfl, ⟨Ag, cg, rfl, rfl, a1, a2, a3⟩, HB⟩
  have RG : Hid (Zc W6 (.bool (decide (g < 0))) (.slice Ag (dig b32 g.natAbs).length cg) g) := ⟨Ag, cg, rfl, rfl, a1, a2, a3⟩
  clear q1 q2 q3 q4 a1 a2 a3 HGC
  replace X3 := X3.to HB
  replace X4 := X4.to HB
  replace X5 := X5.to HB
  replace HB0 := Lib.hid (HB0.out.trans (HB.mono HB0.out.size))
  clear HB
  obtain ⟨W7, hW7⟩ : ∃ W7, W7 = W6.alloc (.cells #[.bool (decide (g < 0)), .slice Ag (dig b32 g.natAbs).length cg] 24) := ⟨_, rfl⟩
  have HB : Below W6.heap.size W6 W7 := by rw [hW7]; exact (Below.refl _ _).alloc (Nat.le_refl _) _
  have G : Cb W7 W6.heap.size (.bool (decide (g < 0))) (.slice Ag (dig b32 g.natAbs).length cg) g := ⟨by rw [hW7]; exact Two.new W6 _ _ _, Zc.to RG.out HB⟩
  replace X3 := X3.to HB
  replace X4 := X4.to HB
  replace X5 := X5.to HB
  replace HB0 := Lib.hid (HB0.out.trans (HB.mono HB0.out.size))
  clear HB
  have HW7 := Lib.hid hW7
  clear RG Y7 Y8
  have q0 := G.two.c0
  have q1 := G.two.c1
  rw [hW7] at q0 q1
  clear hW7
  have hsg := HSG.out
  go_wp2_with fail
  rw [← HW7.out]
  refine (sgv (G.zc.zi SG (by decide)) esg.out).mono ?_
  rintro e V ⟨rfl, HB⟩
  clear q0 q1 HW7
  replace X3 := X3.to HB
  replace X4 := X4.to HB
  replace X5 := X5.to HB
  replace G := G.to HB
  replace HB0 := Lib.hid (HB0.out.trans (HB.mono HB0.out.size))
  clear HB
  have q0 := G.two.c0
  have q1 := G.two.c1
  have q2 := X3.two.c0
  have q3 := X3.two.c1
  go_wp2_with fail
  refine (dvz (G.zc.zl SG (by decide)) X3.zl DA.out).mono ?_
  rintro e V ⟨rfl, HB⟩
  clear q0 q1 q2 q3
  replace X3 := X3.to HB
  replace X4 := X4.to HB
  replace X5 := X5.to HB
  replace G := G.to HB
  replace HB0 := Lib.hid (HB0.out.trans (HB.mono HB0.out.size))
  clear HB
  clear hsg
  have q0 := G.two.c0
  have q1 := G.two.c1
  have q2 := X4.two.c0
  have q3 := X4.two.c1
  go_wp2_with fail
  refine (dvz (G.zc.zl SG (by decide)) X4.zl DB.out).mono ?_
  rintro e V ⟨rfl, HB⟩
  clear q0 q1 q2 q3
  replace X3 := X3.to HB
  replace X4 := X4.to HB
  replace X5 := X5.to HB
  replace G := G.to HB
  replace HB0 := Lib.hid (HB0.out.trans (HB.mono HB0.out.size))
  clear HB
  have q0 := X5.two.c0
  have q1 := X5.two.c1
  have q2 := X3.two.c0
  have q3 := X3.two.c1
  go_wp2_with fail
  refine (dvz X5.zl X3.zl VA.out).mono ?_
  rintro e V ⟨rfl, HB⟩
  clear q0 q1 q2 q3
  replace X3 := X3.to HB
  replace X4 := X4.to HB
  replace X5 := X5.to HB
  replace G := G.to HB
  replace HB0 := Lib.hid (HB0.out.trans (HB.mono HB0.out.size))
  clear HB
  go_wp2_with fail
  refine wp_region_plan (S := fun w' => Below V.heap.size V w') [(0, true), (1, true), (3, true), (4, true), (7, true), (8, true), (2, false), (5, false), (6, false), (9, false), (10, false), (11, false), (12, true), (13, true), (14, true), (16, true), (15, false), (17, false), (18, true), (19, true), (20, false), (21, true), (22, true)] (by kernel_rfl) (by kernel_rfl) (Below.refl _ _).drew ?_
  have HB := (Below.refl V.heap.size V).drew
  refine plan_take rfl (by rfl) (fun w' hS => load_two (by rfl) (X3.two.to hS)) ?_; simp only [Act.put, List.setIfInBounds_toArray, List.set_cons_zero, List.set_cons_succ]
  refine plan_take rfl (by rfl) (fun w' hS => load_two (by rfl) (X5.two.to hS)) ?_; simp only [Act.put, List.setIfInBounds_toArray, List.set_cons_zero, List.set_cons_succ]
  refine plan_take rfl (by rfl) (fun w' hS => load_two (by rfl) (X4.two.to hS)) ?_; simp only [Act.put, List.setIfInBounds_toArray, List.set_cons_zero, List.set_cons_succ]
  refine plan_take rfl (by rfl) (fun w' hS => load_two (by rfl) (X5.two.to hS)) ?_; simp only [Act.put, List.setIfInBounds_toArray, List.set_cons_zero, List.set_cons_succ]
  refine plan_take rfl (by rfl) (fun w' hS => load_two (by rfl) (G.two.to hS)) ?_; simp only [Act.put, List.setIfInBounds_toArray, List.set_cons_zero, List.set_cons_succ]
  refine plan_take rfl (by rfl) (fun w' hS => load_two (by rfl) (X5.two.to hS)) ?_; simp only [Act.put, List.setIfInBounds_toArray, List.set_cons_zero, List.set_cons_succ]
  refine plan_call rfl (by rfl) (fun K hK => ?_)
  go_simp
  refine (mul_z (X3.to HB).zl.zi (X5.to HB).zl.zi).mono ?_
  rintro e V ⟨u108, v108, rfl, r108, bb⟩
  replace HB := HB.trans (bb.mono HB.size)
  refine hK.out _ _ HB ?_
  clear hK K bb
  refine plan_call rfl (by rfl) (fun K hK => ?_)
  go_simp
  refine (mul_z (X4.to HB).zl.zi (X5.to HB).zl.zi).mono ?_
  rintro e V ⟨u111, v111, rfl, r111, bb⟩
  replace HB := HB.trans (bb.mono HB.size)
  replace r108 := r108.to bb
  refine hK.out _ _ HB ?_
  clear hK K bb
  refine plan_call rfl (by rfl) (fun K hK => ?_)
  go_simp
  refine (gcd_x (r108.zl S1 (by decide)) (r111.zl S2 (by decide))).mono ?_
  rintro e V ⟨u112, v112, rfl, r112, bb⟩
  replace HB := HB.trans (bb.mono HB.size)
  clear r108
  clear r111
  refine hK.out _ _ HB ?_
  clear hK K bb
  refine plan_call rfl (by rfl) (fun K hK => ?_)
  go_simp
  refine (abs_z (X5.to HB).zl.zi).mono ?_
  rintro e V ⟨u115, v115, rfl, r115, bb⟩
  replace HB := HB.trans (bb.mono HB.size)
  replace r112 := r112.to bb
  refine hK.out _ _ HB ?_
  clear hK K bb
  refine plan_call rfl (by rfl) (fun K hK => ?_)
  go_simp
  refine (mul_z ((G.to HB).zc.zi SG (by decide)) (r115.zi m3.abs (by decide))).mono ?_
  rintro e V ⟨u116, v116, rfl, r116, bb⟩
  replace HB := HB.trans (bb.mono HB.size)
  replace r112 := r112.to bb
  clear r115
  refine hK.out _ _ HB ?_
  clear hK K bb
  refine plan_call rfl (by rfl) (fun K hK => ?_)
  go_simp
  refine (smv r112 r116 E1.out).mono ?_
  rintro e V ⟨rfl, bb⟩
  replace HB := HB.trans (bb.mono HB.size)
  clear r112
  clear r116
  refine hK.out _ _ HB ?_
  clear hK K bb
  refine plan_take (v := ?_) rfl (by rfl) ?_ ?_; rotate_left; (focus (intro w' _; go_simp; try with_reducible rfl)); simp only [Act.put, List.setIfInBounds_toArray, List.set_cons_zero, List.set_cons_succ]
  refine plan_take rfl (by rfl) (fun w' hS => load_two (by rfl) (X4.two.to hS)) ?_; simp only [Act.put, List.setIfInBounds_toArray, List.set_cons_zero, List.set_cons_succ]
  refine plan_take rfl (by rfl) (fun w' hS => load_two (by rfl) (X3.two.to hS)) ?_; simp only [Act.put, List.setIfInBounds_toArray, List.set_cons_zero, List.set_cons_succ]
  refine plan_take rfl (by rfl) (fun w' hS => load_two (by rfl) (G.two.to hS)) ?_; simp only [Act.put, List.setIfInBounds_toArray, List.set_cons_zero, List.set_cons_succ]
  refine plan_call rfl (by rfl) (fun K hK => ?_)
  go_simp
  refine (gcd_x (X4.to HB).zl (X3.to HB).zl).mono ?_
  rintro e V ⟨u121, v121, rfl, r121, bb⟩
  replace HB := HB.trans (bb.mono HB.size)
  refine hK.out _ _ HB ?_
  clear hK K bb
  refine plan_call rfl (by rfl) (fun K hK => ?_)
  go_simp
  refine (smv r121 (G.to HB).zc E2.out).mono ?_
  rintro e V ⟨rfl, bb⟩
  replace HB := HB.trans (bb.mono HB.size)
  clear r121
  refine hK.out _ _ HB ?_
  clear hK K bb
  refine plan_take (v := ?_) rfl (by rfl) ?_ ?_; rotate_left; (focus (intro w' _; go_simp; try with_reducible rfl)); simp only [Act.put, List.setIfInBounds_toArray, List.set_cons_zero, List.set_cons_succ]
  refine plan_take (v := ?_) rfl (by rfl) ?_ ?_; rotate_left; (focus (intro w' _; go_simp; try with_reducible rfl)); simp only [Act.put, List.setIfInBounds_toArray, List.set_cons_zero, List.set_cons_succ]
  refine plan_call rfl (by rfl) (fun K hK => ?_)
  go_simp
  refine (alive_any _).mono ?_
  rintro e V ⟨rfl, bb⟩
  replace HB := HB.trans (bb.mono HB.size)
  refine hK.out _ _ HB ?_
  clear hK K bb
  refine plan_take (v := ?_) rfl (by rfl) ?_ ?_; rotate_left; (focus (intro w' _; go_simp; try with_reducible rfl)); simp only [Act.put, List.setIfInBounds_toArray, List.set_cons_zero, List.set_cons_succ]
  refine plan_take (v := ?_) rfl (by rfl) ?_ ?_; rotate_left; (focus (intro w' _; go_simp; try with_reducible rfl)); simp only [Act.put, List.setIfInBounds_toArray, List.set_cons_zero, List.set_cons_succ]
  refine plan_done ?_
  replace HB0 := Lib.hid (HB0.out.trans (HB.mono HB0.out.size))
  clear HB
  go_wp2
  go_ret
  exact ⟨by rfl, HB0.out⟩

set_option maxRecDepth 100000 in
set_option maxHeartbeats 20000000 in
theorem euclid_z11 {x1 y1 x2 y2 x3 y3 : Value} {a b d : Int} {w : World} (h1 : Zl w x1 y1 a) (h2 : Zl w x2 y2 b) (h3 : Zl w x3 y3 d) (m1 : Sm 12 a) (m2 : Sm 12 b) (m3 : Sm 12 d)
    (h0 : b = 0) (va : decide (d ∣ a) = true) (vb : decide (d ∣ b) = true)
    (hL : ∀ (V : World) (g : Nat), V.cell? ⟨g, 1, none⟩ = some y1 → V.cell? ⟨g, 3, none⟩ = some y2 → V.cell? ⟨g, 5, none⟩ = some y3 → Calls Try.prog 9 #[.slice (some ⟨g, 0, none⟩) 3 3] V fun e w' => e = .returned (.bool false) ∧ w' = V) :
    Calls Try.prog 7 #[.agg #[x1, y1], .agg #[x2, y2], .agg #[x3, y3]] w fun e w' => e = .returned (.bool true) ∧ Below w.heap.size w w' := by
  subst h0
  have hdm : ∀ V, Zl V x1 y1 a → Zl V x2 y2 0 → Calls Try.prog 33 #[.agg #[x1, y1], .agg #[x2, y2]] V (ZE V 0 0 7) := by
    intro V hx hy
    have h := dm_x hx hy
    unfold dr de at h
    rw [if_pos rfl, if_pos rfl, Int.ediv_zero] at h
    exact h
  have HDM := Lib.hid hdm
  have hsb : sgn 0 = 0 := rfl
  have HSB := Lib.hid hsb
  obtain ⟨q, eq⟩ : ∃ q : Int, Hid ((0 : Int) = q) := ⟨_, rfl⟩
  obtain ⟨r, er⟩ : ∃ r : Int, Hid ((0 : Int) = r) := ⟨_, rfl⟩
  have hq0 : Hid (sgn q = 0) := by show _ = _; rw [← eq.out]; rfl
  have hr0 : Hid (sgn r = 0) := by show _ = _; rw [← er.out]; rfl
  have SQ : Sm 12 q := by rw [← eq.out]; unfold Sm b32; decide
  have SR : Sm 12 r := by rw [← er.out]; unfold Sm b32; decide
  clear hdm hsb
  obtain ⟨g, eg⟩ : ∃ g : Int, Hid (((Int.gcd a 0 : Nat) : Int) = g) := ⟨_, rfl⟩
  have SG : Sm 12 g := by rw [← eg.out]; exact m1.gcd m2
  obtain ⟨sg, esg⟩ : ∃ s, Hid (sgn g = s) := ⟨_, rfl⟩
  have hsg : ¬ sg < 0 := by rw [← esg.out, ← eg.out]; exact sgn_nonneg (Int.natCast_nonneg _)
  have HSG := Lib.hid hsg
  have DA : Hid (decide (g ∣ a) = true) := by show _ = _; rw [← eg.out]; exact decide_eq_true (Int.gcd_dvd_left ..)
  have DB : Hid (decide (g ∣ 0) = true) := by show _ = _; rw [← eg.out]; exact decide_eq_true (Int.gcd_dvd_right ..)
  have VA := Lib.hid va
  have VB := Lib.hid vb
  have VG : Hid (decide (d ∣ g) = true) := by show _ = _; rw [← eg.out]; exact decide_eq_true (Int.dvd_coe_gcd (of_decide_eq_true va) (of_decide_eq_true vb))
  have E1 : Hid (((Int.gcd (a * d) (0 * d) : Nat) : Int) = g * (d.natAbs : Int)) := by show _ = _; rw [← eg.out]; exact gcd_scale a 0 d
  have E2 : Hid (((Int.gcd 0 a : Nat) : Int) = g) := by show _ = _; rw [← eg.out, Int.gcd_comm]
  have S1 : Sm 24 (a * d) := m1.mul m3
  have S2 : Sm 24 (0 * d) := m2.mul m3
  clear hsg va vb
  obtain ⟨W0, hW0⟩ : ∃ W0, W0 = (((w.alloc (.cells #[x1, y1] 24)).alloc (.cells #[x2, y2] 24)).alloc (.cells #[x3, y3] 24)).alloc (.cells #[x1, y1, x2, y2, x3, y3] 24) := ⟨_, rfl⟩
  have hb : Below w.heap.size w W0 := by rw [hW0]; exact ((((Below.refl _ _).alloc (Nat.le_refl _) _).alloc (by simp) _).alloc (by simp; omega) _).alloc (by simp; omega) _
  have X3 : Zm W0 w.heap.size x1 y1 a := ⟨by rw [hW0]; exact (((Two.new w _ _ _).alloc _).alloc _).alloc _, h1.to hb⟩
  have X4 : Zm W0 (w.heap.size + 1) x2 y2 0 := ⟨by
    have h := Two.new (w.alloc (.cells #[x1, y1] 24)) x2 y2 24
    rw [World.size_alloc] at h
    rw [hW0]; exact (h.alloc _).alloc _, h2.to hb⟩
  have X5 : Zm W0 (w.heap.size + 1 + 1) x3 y3 d := ⟨by
    have h := Two.new ((w.alloc (.cells #[x1, y1] 24)).alloc (.cells #[x2, y2] 24)) x3 y3 24
    rw [World.size_alloc, World.size_alloc] at h
    rw [hW0]; exact h.alloc _, h3.to hb⟩
  have HL : Hid (Calls Try.prog 9 #[.slice (some ⟨w.heap.size + 1 + 1 + 1, 0, none⟩) 3 3] W0 fun e w' => e = .returned (.bool false) ∧ w' = W0) := by
    have h := World.alloc_heap_new (((w.alloc (.cells #[x1, y1] 24)).alloc (.cells #[x2, y2] 24)).alloc (.cells #[x3, y3] 24)) (.cells #[x1, y1, x2, y2, x3, y3] 24)
    rw [World.size_alloc, World.size_alloc, World.size_alloc, ← hW0] at h
    exact hL W0 (w.heap.size + 1 + 1 + 1) (by simp [World.cell?, h]) (by simp [World.cell?, h]) (by simp [World.cell?, h])
  have HW0 := Lib.hid hW0
  have HB0 := Lib.hid hb
  clear hL h1 h2 h3 hW0 hb
  go_enter Try.func7, Try.ntmps7
  go_wp2_with fail
  rw [← HW0.out]
  refine HL.out.mono ?_
  rintro e W1 ⟨rfl, rfl⟩
  clear HL
  have hdm := HDM.out _ X3.zl X4.zl
  have hdm : Calls Try.prog 33 #[.agg #[x1, y1], .agg #[x2, y2]] W1 (ZE W1 q r 7) := by have h := hdm; rwa [show ZE W1 0 0 7 = ZE W1 q r 7 from by rw [← eq.out, ← er.out]] at h
  have HD2 := Lib.hid hdm
  clear hdm HDM HW0
  have q1 := X3.two.c0
  have q2 := X3.two.c1
  have q3 := X4.two.c0
  have q4 := X4.two.c1
  go_wp2_with fail
  refine HD2.out.mono ?_
  rintro e W3 ⟨_, _, _, _, rfl, ⟨Aq, cq, rfl, rfl, a1, a2, a3⟩, ⟨Ar, cr, rfl, rfl, b1, b2, b3⟩, HB⟩
  have RQ : Hid (Zc W3 (.bool (decide (q < 0))) (.slice Aq (dig b32 q.natAbs).length cq) q) := ⟨Aq, cq, rfl, rfl, a1, a2, a3⟩
  have RR : Hid (Zc W3 (.bool (decide (r < 0))) (.slice Ar (dig b32 r.natAbs).length cr) r) := ⟨Ar, cr, rfl, rfl, b1, b2, b3⟩
  clear q1 q2 q3 q4 a1 a2 a3 b1 b2 b3 HD2
  replace X3 := X3.to HB
  replace X4 := X4.to HB
  replace X5 := X5.to HB
  replace HB0 := Lib.hid (HB0.out.trans (HB.mono HB0.out.size))
  clear HB
  obtain ⟨W4, hW4⟩ : ∃ W4, W4 = (W3.alloc (.cells #[.bool (decide (q < 0)), .slice Aq (dig b32 q.natAbs).length cq] 24)).alloc (.cells #[.bool (decide (r < 0)), .slice Ar (dig b32 r.natAbs).length cr] 24) := ⟨_, rfl⟩
  have HB : Below W3.heap.size W3 W4 := by rw [hW4]; exact ((Below.refl _ _).alloc (Nat.le_refl _) _).alloc (by simp) _
  have Y7 : Zb W4 W3.heap.size (.bool (decide (q < 0))) (.slice Aq (dig b32 q.natAbs).length cq) q := ⟨by rw [hW4]; exact (Two.new W3 _ _ _).alloc _, (Zc.to RQ.out HB).zi SQ (by decide)⟩
  have Y8 : Zb W4 (W3.heap.size + 1) (.bool (decide (r < 0))) (.slice Ar (dig b32 r.natAbs).length cr) r := ⟨by
    have h := Two.new (W3.alloc (.cells #[.bool (decide (q < 0)), .slice Aq (dig b32 q.natAbs).length cq] 24)) (.bool (decide (r < 0))) (.slice Ar (dig b32 r.natAbs).length cr) 24
    rw [World.size_alloc] at h
    rw [hW4]; exact h, (Zc.to RR.out HB).zi SR (by decide)⟩
  replace X3 := X3.to HB
  replace X4 := X4.to HB
  replace X5 := X5.to HB
  replace HB0 := Lib.hid (HB0.out.trans (HB.mono HB0.out.size))
  clear HB
  have HW4 := Lib.hid hW4
  clear RQ RR
  have q0 := X4.two.c0
  have q1 := X4.two.c1
  rw [hW4] at q0 q1
  clear hW4
  go_wp2_with fail
  rw [← HW4.out]
  refine (sgv X4.zl.zi HSB.out).mono ?_
  rintro e V ⟨rfl, HB⟩
  clear q0 q1 HW4
  replace X3 := X3.to HB
  replace X4 := X4.to HB
  replace X5 := X5.to HB
  replace Y7 := Y7.to HB
  replace Y8 := Y8.to HB
  replace HB0 := Lib.hid (HB0.out.trans (HB.mono HB0.out.size))
  clear HB
  have q0 := Y7.two.c0
  have q1 := Y7.two.c1
  go_wp2_with fail
  refine (sgv Y7.zi hq0.out).mono ?_
  rintro e V ⟨rfl, HB⟩
  clear q0 q1
  replace X3 := X3.to HB
  replace X4 := X4.to HB
  replace X5 := X5.to HB
  replace Y7 := Y7.to HB
  replace Y8 := Y8.to HB
  replace HB0 := Lib.hid (HB0.out.trans (HB.mono HB0.out.size))
  clear HB
  have q0 := Y8.two.c0
  have q1 := Y8.two.c1
  go_wp2_with fail
  refine (sgv Y8.zi hr0.out).mono ?_
  rintro e V ⟨rfl, HB⟩
  clear q0 q1
  replace X3 := X3.to HB
  replace X4 := X4.to HB
  replace X5 := X5.to HB
  replace Y7 := Y7.to HB
  replace Y8 := Y8.to HB
  replace HB0 := Lib.hid (HB0.out.trans (HB.mono HB0.out.size))
  clear HB
  go_wp2_with fail
  refine wp_region_plan (S := fun w' => Below V.heap.size V w') [(0, true), (1, true), (2, true), (3, true), (4, true), (5, true), (6, true), (7, true), (8, true), (9, true), (10, true), (11, true), (12, true), (13, true), (14, true), (15, true), (16, true), (17, true), (18, true), (19, true), (20, true), (21, true), (22, true), (23, true)] (by kernel_rfl) (by kernel_rfl) (Below.refl _ _).drew ?_
  have HB := (Below.refl V.heap.size V).drew
  refine plan_take (v := ?_) rfl (by rfl) ?_ ?_; rotate_left; (focus (intro w' _; go_simp; try with_reducible rfl)); simp only [Act.put, List.setIfInBounds_toArray, List.set_cons_zero, List.set_cons_succ]
  refine plan_take (v := ?_) rfl (by rfl) ?_ ?_; rotate_left; (focus (intro w' _; go_simp; try with_reducible rfl)); simp only [Act.put, List.setIfInBounds_toArray, List.set_cons_zero, List.set_cons_succ]
  refine plan_take (v := ?_) rfl (by rfl) ?_ ?_; rotate_left; (focus (intro w' _; go_simp; try with_reducible rfl)); simp only [Act.put, List.setIfInBounds_toArray, List.set_cons_zero, List.set_cons_succ]
  refine plan_skip rfl (by rfl) ?_; simp only [Act.put, List.setIfInBounds_toArray, List.set_cons_zero, List.set_cons_succ]
  refine plan_skip rfl (by rfl) ?_; simp only [Act.put, List.setIfInBounds_toArray, List.set_cons_zero, List.set_cons_succ]
  refine plan_skip rfl (by rfl) ?_; simp only [Act.put, List.setIfInBounds_toArray, List.set_cons_zero, List.set_cons_succ]
  refine plan_skip rfl (by rfl) ?_; simp only [Act.put, List.setIfInBounds_toArray, List.set_cons_zero, List.set_cons_succ]
  refine plan_skip rfl (by rfl) ?_; simp only [Act.put, List.setIfInBounds_toArray, List.set_cons_zero, List.set_cons_succ]
  refine plan_skip rfl (by rfl) ?_; simp only [Act.put, List.setIfInBounds_toArray, List.set_cons_zero, List.set_cons_succ]
  refine plan_skip rfl (by rfl) ?_; simp only [Act.put, List.setIfInBounds_toArray, List.set_cons_zero, List.set_cons_succ]
  refine plan_skip rfl (by rfl) ?_; simp only [Act.put, List.setIfInBounds_toArray, List.set_cons_zero, List.set_cons_succ]
  refine plan_skip rfl (by rfl) ?_; simp only [Act.put, List.setIfInBounds_toArray, List.set_cons_zero, List.set_cons_succ]
  refine plan_skip rfl (by rfl) ?_; simp only [Act.put, List.setIfInBounds_toArray, List.set_cons_zero, List.set_cons_succ]
  refine plan_skip rfl (by rfl) ?_; simp only [Act.put, List.setIfInBounds_toArray, List.set_cons_zero, List.set_cons_succ]
  refine plan_skip rfl (by rfl) ?_; simp only [Act.put, List.setIfInBounds_toArray, List.set_cons_zero, List.set_cons_succ]
  refine plan_skip rfl (by rfl) ?_; simp only [Act.put, List.setIfInBounds_toArray, List.set_cons_zero, List.set_cons_succ]
  refine plan_skip rfl (by rfl) ?_; simp only [Act.put, List.setIfInBounds_toArray, List.set_cons_zero, List.set_cons_succ]
  refine plan_skip rfl (by rfl) ?_; simp only [Act.put, List.setIfInBounds_toArray, List.set_cons_zero, List.set_cons_succ]
  refine plan_skip rfl (by rfl) ?_; simp only [Act.put, List.setIfInBounds_toArray, List.set_cons_zero, List.set_cons_succ]
  refine plan_skip rfl (by rfl) ?_; simp only [Act.put, List.setIfInBounds_toArray, List.set_cons_zero, List.set_cons_succ]
  refine plan_skip rfl (by rfl) ?_; simp only [Act.put, List.setIfInBounds_toArray, List.set_cons_zero, List.set_cons_succ]
  refine plan_skip rfl (by rfl) ?_; simp only [Act.put, List.setIfInBounds_toArray, List.set_cons_zero, List.set_cons_succ]
  refine plan_skip rfl (by rfl) ?_; simp only [Act.put, List.setIfInBounds_toArray, List.set_cons_zero, List.set_cons_succ]
  refine plan_take (v := ?_) rfl (by rfl) ?_ ?_; rotate_left; (focus (intro w' _; go_simp; try with_reducible rfl)); simp only [Act.put, List.setIfInBounds_toArray, List.set_cons_zero, List.set_cons_succ]
  refine plan_done ?_
  replace X3 := X3.to HB
  replace X4 := X4.to HB
  replace X5 := X5.to HB
  replace Y7 := Y7.to HB
  replace Y8 := Y8.to HB
  replace HB0 := Lib.hid (HB0.out.trans (HB.mono HB0.out.size))
  clear HB
  have hgc := gcd_x X3.zl X4.zl
  rw [eg.out] at hgc
  have HGC := Lib.hid hgc
  clear hgc
  have q1 := X3.two.c0
  have q2 := X3.two.c1
  have q3 := X4.two.c0
  have q4 := X4.two.c1
  go_wp2_with fail
  refine HGC.out.mono ?_
  rintro e W6 ⟨_, _, rfl, ⟨Ag, cg, rfl, rfl, a1, a2, a3⟩, HB⟩
  have RG : Hid (Zc W6 (.bool (decide (g < 0))) (.slice Ag (dig b32 g.natAbs).length cg) g) := ⟨Ag, cg, rfl, rfl, a1, a2, a3⟩
  clear q1 q2 q3 q4 a1 a2 a3 HGC
  replace X3 := X3.to HB
  replace X4 := X4.to HB
  replace X5 := X5.to HB
  replace HB0 := Lib.hid (HB0.out.trans (HB.mono HB0.out.size))
  clear HB
  obtain ⟨W7, hW7⟩ : ∃ W7, W7 = W6.alloc (.cells #[.bool (decide (g < 0)), .slice Ag (dig b32 g.natAbs).length cg] 24) := ⟨_, rfl⟩
  have HB : Below W6.heap.size W6 W7 := by rw [hW7]; exact (Below.refl _ _).alloc (Nat.le_refl _) _
  have G : Cb W7 W6.heap.size (.bool (decide (g < 0))) (.slice Ag (dig b32 g.natAbs).length cg) g := ⟨by rw [hW7]; exact Two.new W6 _ _ _, Zc.to RG.out HB⟩
  replace X3 := X3.to HB
  replace X4 := X4.to HB
  replace X5 := X5.to HB
  replace HB0 := Lib.hid (HB0.out.trans (HB.mono HB0.out.size))
  clear HB
  have HW7 := Lib.hid hW7
  clear RG Y7 Y8
  have q0 := G.two.c0
  have q1 := G.two.c1
  rw [hW7] at q0 q1
  clear hW7
  have hsg := HSG.out
  go_wp2_with fail
  rw [← HW7.out]
  refine (sgv (G.zc.zi SG (by decide)) esg.out).mono ?_
  rintro e V ⟨rfl, HB⟩
  clear q0 q1 HW7
  replace X3 := X3.to HB
  replace X4 := X4.to HB
  replace X5 := X5.to HB
  replace G := G.to HB
  replace HB0 := Lib.hid (HB0.out.trans (HB.mono HB0.out.size))
  clear HB
  have q0 := G.two.c0
  have q1 := G.two.c1
  have q2 := X3.two.c0
  have q3 := X3.two.c1
  go_wp2_with fail
  refine (dvz (G.zc.zl SG (by decide)) X3.zl DA.out).mono ?_
  rintro e V ⟨rfl, HB⟩
  clear q0 q1 q2 q3
  replace X3 := X3.to HB
  replace X4 := X4.to HB
  replace X5 := X5.to HB
  replace G := G.to HB
  replace HB0 := Lib.hid (HB0.out.trans (HB.mono HB0.out.size))
  clear HB
  clear hsg
  have q0 := G.two.c0
  have q1 := G.two.c1
  have q2 := X4.two.c0
  have q3 := X4.two.c1
  go_wp2_with fail
  refine (dvz (G.zc.zl SG (by decide)) X4.zl DB.out).mono ?_
  rintro e V ⟨rfl, HB⟩
  clear q0 q1 q2 q3
  replace X3 := X3.to HB
  replace X4 := X4.to HB
  replace X5 := X5.to HB
  replace G := G.to HB
  replace HB0 := Lib.hid (HB0.out.trans (HB.mono HB0.out.size))
  clear HB
  have q0 := X5.two.c0
  have q1 := X5.two.c1
  have q2 := X3.two.c0
  have q3 := X3.two.c1
  go_wp2_with fail
  refine (dvz X5.zl X3.zl VA.out).mono ?_
  rintro e V ⟨rfl, HB⟩
  clear q0 q1 q2 q3
  replace X3 := X3.to HB
  replace X4 := X4.to HB
  replace X5 := X5.to HB
  replace G := G.to HB
  replace HB0 := Lib.hid (HB0.out.trans (HB.mono HB0.out.size))
  clear HB
  have q0 := X5.two.c0
  have q1 := X5.two.c1
  have q2 := X4.two.c0
  have q3 := X4.two.c1
  go_wp2_with fail
  refine (dvz X5.zl X4.zl VB.out).mono ?_
  rintro e V ⟨rfl, HB⟩
  clear q0 q1 q2 q3
  replace X3 := X3.to HB
  replace X4 := X4.to HB
  replace X5 := X5.to HB
  replace G := G.to HB
  replace HB0 := Lib.hid (HB0.out.trans (HB.mono HB0.out.size))
  clear HB
  have q0 := X5.two.c0
  have q1 := X5.two.c1
  have q2 := G.two.c0
  have q3 := G.two.c1
  go_wp2_with fail
  refine (dvz X5.zl (G.zc.zl SG (by decide)) VG.out).mono ?_
  rintro e V ⟨rfl, HB⟩
  clear q0 q1 q2 q3
  replace X3 := X3.to HB
  replace X4 := X4.to HB
  replace X5 := X5.to HB
  replace G := G.to HB
  replace HB0 := Lib.hid (HB0.out.trans (HB.mono HB0.out.size))
  clear HB
  go_wp2_with fail
  refine wp_region_plan (S := fun w' => Below V.heap.size V w') [(0, true), (1, true), (3, true), (4, true), (7, true), (8, true), (2, false), (5, false), (6, false), (9, false), (10, false), (11, false), (12, true), (13, true), (14, true), (16, true), (15, false), (17, false), (18, true), (19, true), (20, false), (21, true), (22, true)] (by kernel_rfl) (by kernel_rfl) (Below.refl _ _).drew ?_
  have HB := (Below.refl V.heap.size V).drew
  refine plan_take rfl (by rfl) (fun w' hS => load_two (by rfl) (X3.two.to hS)) ?_; simp only [Act.put, List.setIfInBounds_toArray, List.set_cons_zero, List.set_cons_succ]
  refine plan_take rfl (by rfl) (fun w' hS => load_two (by rfl) (X5.two.to hS)) ?_; simp only [Act.put, List.setIfInBounds_toArray, List.set_cons_zero, List.set_cons_succ]
  refine plan_take rfl (by rfl) (fun w' hS => load_two (by rfl) (X4.two.to hS)) ?_; simp only [Act.put, List.setIfInBounds_toArray, List.set_cons_zero, List.set_cons_succ]
  refine plan_take rfl (by rfl) (fun w' hS => load_two (by rfl) (X5.two.to hS)) ?_; simp only [Act.put, List.setIfInBounds_toArray, List.set_cons_zero, List.set_cons_succ]
  refine plan_take rfl (by rfl) (fun w' hS => load_two (by rfl) (G.two.to hS)) ?_; simp only [Act.put, List.setIfInBounds_toArray, List.set_cons_zero, List.set_cons_succ]
  refine plan_take rfl (by rfl) (fun w' hS => load_two (by rfl) (X5.two.to hS)) ?_; simp only [Act.put, List.setIfInBounds_toArray, List.set_cons_zero, List.set_cons_succ]
  refine plan_call rfl (by rfl) (fun K hK => ?_)
  go_simp
  refine (mul_z (X3.to HB).zl.zi (X5.to HB).zl.zi).mono ?_
  rintro e V ⟨u108, v108, rfl, r108, bb⟩
  replace HB := HB.trans (bb.mono HB.size)
  refine hK.out _ _ HB ?_
  clear hK K bb
  refine plan_call rfl (by rfl) (fun K hK => ?_)
  go_simp
  refine (mul_z (X4.to HB).zl.zi (X5.to HB).zl.zi).mono ?_
  rintro e V ⟨u111, v111, rfl, r111, bb⟩
  replace HB := HB.trans (bb.mono HB.size)
  replace r108 := r108.to bb
  refine hK.out _ _ HB ?_
  clear hK K bb
  refine plan_call rfl (by rfl) (fun K hK => ?_)
  go_simp
  refine (gcd_x (r108.zl S1 (by decide)) (r111.zl S2 (by decide))).mono ?_
  rintro e V ⟨u112, v112, rfl, r112, bb⟩
  replace HB := HB.trans (bb.mono HB.size)
  clear r108
  clear r111
  refine hK.out _ _ HB ?_
  clear hK K bb
  refine plan_call rfl (by rfl) (fun K hK => ?_)
  go_simp
  refine (abs_z (X5.to HB).zl.zi).mono ?_
  rintro e V ⟨u115, v115, rfl, r115, bb⟩
  replace HB := HB.trans (bb.mono HB.size)
  replace r112 := r112.to bb
  refine hK.out _ _ HB ?_
  clear hK K bb
  refine plan_call rfl (by rfl) (fun K hK => ?_)
  go_simp
  refine (mul_z ((G.to HB).zc.zi SG (by decide)) (r115.zi m3.abs (by decide))).mono ?_
  rintro e V ⟨u116, v116, rfl, r116, bb⟩
  replace HB := HB.trans (bb.mono HB.size)
  replace r112 := r112.to bb
  clear r115
  refine hK.out _ _ HB ?_
  clear hK K bb
  refine plan_call rfl (by rfl) (fun K hK => ?_)
  go_simp
  refine (smv r112 r116 E1.out).mono ?_
  rintro e V ⟨rfl, bb⟩
  replace HB := HB.trans (bb.mono HB.size)
  clear r112
  clear r116
  refine hK.out _ _ HB ?_
  clear hK K bb
  refine plan_take (v := ?_) rfl (by rfl) ?_ ?_; rotate_left; (focus (intro w' _; go_simp; try with_reducible rfl)); simp only [Act.put, List.setIfInBounds_toArray, List.set_cons_zero, List.set_cons_succ]
  refine plan_take rfl (by rfl) (fun w' hS => load_two (by rfl) (X4.two.to hS)) ?_; simp only [Act.put, List.setIfInBounds_toArray, List.set_cons_zero, List.set_cons_succ]
  refine plan_take rfl (by rfl) (fun w' hS => load_two (by rfl) (X3.two.to hS)) ?_; simp only [Act.put, List.setIfInBounds_toArray, List.set_cons_zero, List.set_cons_succ]
  refine plan_take rfl (by rfl) (fun w' hS => load_two (by rfl) (G.two.to hS)) ?_; simp only [Act.put, List.setIfInBounds_toArray, List.set_cons_zero, List.set_cons_succ]
  refine plan_call rfl (by rfl) (fun K hK => ?_)
  go_simp
  refine (gcd_x (X4.to HB).zl (X3.to HB).zl).mono ?_
  rintro e V ⟨u121, v121, rfl, r121, bb⟩
  replace HB := HB.trans (bb.mono HB.size)
  refine hK.out _ _ HB ?_
  clear hK K bb
  refine plan_call rfl (by rfl) (fun K hK => ?_)
  go_simp
  refine (smv r121 (G.to HB).zc E2.out).mono ?_
  rintro e V ⟨rfl, bb⟩
  replace HB := HB.trans (bb.mono HB.size)
  clear r121
  refine hK.out _ _ HB ?_
  clear hK K bb
  refine plan_take (v := ?_) rfl (by rfl) ?_ ?_; rotate_left; (focus (intro w' _; go_simp; try with_reducible rfl)); simp only [Act.put, List.setIfInBounds_toArray, List.set_cons_zero, List.set_cons_succ]
  refine plan_take (v := ?_) rfl (by rfl) ?_ ?_; rotate_left; (focus (intro w' _; go_simp; try with_reducible rfl)); simp only [Act.put, List.setIfInBounds_toArray, List.set_cons_zero, List.set_cons_succ]
  refine plan_call rfl (by rfl) (fun K hK => ?_)
  go_simp
  refine (alive_any _).mono ?_
  rintro e V ⟨rfl, bb⟩
  replace HB := HB.trans (bb.mono HB.size)
  refine hK.out _ _ HB ?_
  clear hK K bb
  refine plan_take (v := ?_) rfl (by rfl) ?_ ?_; rotate_left; (focus (intro w' _; go_simp; try with_reducible rfl)); simp only [Act.put, List.setIfInBounds_toArray, List.set_cons_zero, List.set_cons_succ]
  refine plan_take (v := ?_) rfl (by rfl) ?_ ?_; rotate_left; (focus (intro w' _; go_simp; try with_reducible rfl)); simp only [Act.put, List.setIfInBounds_toArray, List.set_cons_zero, List.set_cons_succ]
  refine plan_done ?_
  replace HB0 := Lib.hid (HB0.out.trans (HB.mono HB0.out.size))
  clear HB
  go_wp2
  go_ret
  exact ⟨by rfl, HB0.out⟩

end Go.Proofs.Ytoaghihhobggoaa
