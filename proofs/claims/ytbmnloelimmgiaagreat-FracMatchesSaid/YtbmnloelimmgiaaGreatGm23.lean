/- Parts: 3. -/
import Derived.Test.YtbmnloelimmgiaaGreatGm13
import Derived.Test.YtbmnloelimmgiaaGreatGm22
set_option linter.unusedVariables false
set_option linter.unusedSimpArgs false
set_option maxRecDepth 100000
set_option maxHeartbeats 40000000

namespace Go.Proofs.YtbmnloelimmgiaaGreat
open Go.RowKit Go.Shelf
theorem cmpQ_min2 {r s : Rat} (h : cmpQ r s <= 0) : minQ r s = r := by
 unfold minQ
 by_cases h1 : r < s
 ·rw [if_pos h1]
 ·rw [if_neg h1]
  unfold cmpQ at h
  by_cases h2 : s < r
  ·simp [h1, h2] at h
  ·exact Rat.le_antisymm (Rat.not_lt.1 h1) (Rat.not_lt.1 h2)
theorem cmpQ_max2 {r s : Rat} (h : 0 <= cmpQ r s) : maxQ r s = r := by
 unfold maxQ
 by_cases h1 : s < r
 ·rw [if_pos h1]
 ·rw [if_neg h1]
  unfold cmpQ at h
  by_cases h2 : r < s
  ·simp [h2] at h
  ·exact Rat.le_antisymm (Rat.not_lt.1 h2) (Rat.not_lt.1 h1)
theorem minQ_r {r s : Rat} (h : ¬ cmpQ r s <= 0) : minQ r s = s := by
 have h1 : ¬ r < s := fun h1 => h (by unfold cmpQ; rw [if_pos h1]; decide)
 unfold minQ; rw [if_neg h1]
theorem maxQ_r {r s : Rat} (h : ¬ 0 <= cmpQ r s) : maxQ r s = s := by
 have h1 : ¬ s < r := fun h1 => h (by
  unfold cmpQ
  rw [if_neg (Rat.not_lt.2 (Rat.le_of_lt h1)), if_pos h1]; decide)
 unfold maxQ; rw [if_neg h1]
set_option maxRecDepth 100000 in
theorem rsub_q {w : World} {a1 a2 a3 a4 b1 b2 b3 b4 : Value} {r s : Rat} {k l : Nat} (hA : Qi w a1 a2 a3 a4 r k) (hB : Qi w b1 b2 b3 b4 s l) (hk : 0 < k) (hl : 0 < l) (hkl : k + l + 1 <= 10000) :
  Calls Tryz.prog 14 #[.agg #[a1, a2, a3, a4], .agg #[b1, b2, b3, b4]] w (QR w (r - s)) := by
 have mB := (hB.qm hl).neg
 rw [Rat.sub_eq_add_neg]
 obtain ⟨W0, hW0⟩ : ∃ W0, W0 = ((w.alloc (.cells #[a1, a2, a3, a4] 26)).alloc (.cells #[b1, b2, b3, b4] 26)).alloc (.cells #[.bool false, .slice none 0 0, .bool false, .slice none 0 0] 26) := ⟨_, rfl⟩
 have hbw : Below w.heap.size w W0 := by rw [hW0]; exact ((((Below.refl _ _).alloc (Nat.le_refl _) _).alloc (by simp) _).alloc (by simp; omega) _)
 have tA : Four W0 (w.heap.size) a1 a2 a3 a4 := by
  have h := Four.new w a1 a2 a3 a4 26
  rw [hW0]; exact ((h.alloc _).alloc _)
 have tB : Four W0 (w.heap.size + 1) b1 b2 b3 b4 := by
  have h := Four.new (w.alloc (.cells #[a1, a2, a3, a4] 26)) b1 b2 b3 b4 26
  rw [World.size_alloc] at h
  rw [hW0]; exact (h.alloc _)
 have tR : Four W0 (w.heap.size + 1 + 1) (.bool false) (.slice none 0 0) (.bool false) (.slice none 0 0) := by
  have h := Four.new ((w.alloc (.cells #[a1, a2, a3, a4] 26)).alloc (.cells #[b1, b2, b3, b4] 26)) (.bool false) (.slice none 0 0) (.bool false) (.slice none 0 0) 26
  rw [World.size_alloc, World.size_alloc] at h
  rw [hW0]; exact h
 replace hA := hA.to hbw
 replace hB := hB.to hbw
 have HW0 := Hd hW0
 have HB := Hd hbw
 clear hW0 hbw
 go_enter Tryz.func14, Tryz.ntmps14
 go_wp2_with fail
 rw [<- HW0.out]
 clear HW0
 refine wp_region_plan (S := fun w' => Below w.heap.size w w' /\ Four w' (w.heap.size) a1 a2 a3 a4 /\ Four w' (w.heap.size + 1) b1 b2 b3 b4) [(0, true), (1, true), (2, false), (3, false), (4, false)] (by kernel_rfl) (by kernel_rfl) ⟨HB.out.drew, tA.to (Below.refl _ _).drew, tB.to (Below.refl _ _).drew⟩ ?_
 have hb := HB.out.drew
 replace tA := tA.to (Below.refl _ _).drew
 replace tB := tB.to (Below.refl _ _).drew
 replace tR := tR.to (Below.refl _ _).drew
 replace hA := hA.to (Below.refl _ _).drew
 replace hB := hB.to (Below.refl _ _).drew
 clear HB
 refine plan_take rfl (by rfl) (fun w' hS => load_four (by rfl) (hS.2.1)) ?_
 refine plan_take rfl (by rfl) (fun w' hS => load_four (by rfl) (hS.2.2)) ?_
 refine plan_call rfl (by rfl) (fun K hK => ?_)
 go_simp
 refine (rneg_q hB hl (by omega)).mono ?_
 rintro e V1 ⟨x1, y1, u1, v1, rfl, q1, bb⟩
 replace hb := bx hb bb
 replace tA := tA.to bb
 replace tB := tB.to bb
 replace tR := tR.to bb
 replace hA := hA.to bb
 refine hK.out _ _ ⟨hb, tA, tB⟩ ?_
 clear hK K bb
 refine plan_call rfl (by rfl) (fun K hK => ?_)
 go_simp
 refine (radd_q hA (q1.qi mB (by omega)) hk hl hkl).mono ?_
 rintro e V2 ⟨x2, y2, u2, v2, rfl, q2, bb⟩
 replace hb := bx hb bb
 replace tA := tA.to bb
 replace tB := tB.to bb
 replace tR := tR.to bb
 refine hK.out _ _ ⟨hb, tA, tB⟩ ?_
 clear hK K bb
 refine plan_call rfl (by rfl) (fun K hK => ?_)
 refine wp_store_q (by rfl) (by rfl) tR Fq.nil q2.fq (fun V u kp => ?_)
 replace tA := kp.four (by omega) tA
 replace tB := kp.four (by omega) tB
 replace hb := kp.bel _ _ hb (by omega)
 replace q2 := kp.qc q2
 refine hK.out _ _ ⟨hb, tA, tB⟩ ?_
 clear hK K kp tR tA tB
 refine plan_done ?_
 have U0 := u.c0
 have U1 := u.c1
 have U2 := u.c2
 have U3 := u.c3
 have RZ := Hd q2
 have HE := Hd hb
 obtain ⟨⟨n1, A1, j1, m1, rfl, rfl⟩, ⟨n2, A2, j2, m2, rfl, rfl⟩⟩ := q2.fq
 clear q2 hb u
 go_wp2
 refine bodyPost_ret (v := .agg #[.bool n1, .slice A1 j1 m1, .bool n2, .slice A2 j2 m2]) (by simp [results, Tryz.f14, go_sem, U0, U1, U2, U3]) rfl ?_
 exact ⟨_, _, _, _, rfl, RZ.out, HE.out⟩
set_option maxRecDepth 100000 in
theorem rsign_q {w : World} {a1 a2 a3 a4 : Value} {r : Rat} {k : Nat} (hA : Qi w a1 a2 a3 a4 r k) (hk2 : k <= 10000) {v : Int} (hv : sgnQ r = v) :
  Calls Tryz.prog 26 #[.agg #[a1, a2, a3, a4]] w (fun e w' => e = .returned (.int .i64 v) /\ Below w.heap.size w w') := by
 obtain ⟨p, q, h1, h2, rfl, s1, s2⟩ := hA
 have sN : Hid (Sg (upN p q)) := (s1.upN q).sg hk2
 rw [sgn_up] at hv
 have HV := Hd hv
 clear s1 s2 hk2 hv
 obtain ⟨W0, hW0⟩ : ∃ W0, W0 = w.alloc (.cells #[a1, a2, a3, a4] 26) := ⟨_, rfl⟩
 have hbw : Below w.heap.size w W0 := by rw [hW0]; exact ((Below.refl _ _).alloc (Nat.le_refl _) _)
 have tA : Four W0 (w.heap.size) a1 a2 a3 a4 := by
  have h := Four.new w a1 a2 a3 a4 26
  rw [hW0]; exact h
 replace h1 := h1.to hbw
 replace h2 := h2.to hbw
 have HW0 := Hd hW0
 have HB := Hd hbw
 clear hW0 hbw
 go_enter Tryz.func26, Tryz.ntmps26
 go_wp2_with fail
 rw [<- HW0.out]
 clear HW0
 have kktA0 := tA.c0
 have kktA1 := tA.c1
 have kktA2 := tA.c2
 have kktA3 := tA.c3
 go_wp2_with fail
 refine (rnum_z h1 h2).mono ?_
 rintro e V1 ⟨x1, y1, rfl, z1, bb⟩
 clear kktA0 kktA1 kktA2 kktA3
 replace tA := tA.to bb
 replace HB := hx HB bb
 clear bb
 have kktA0 := tA.c0
 have kktA1 := tA.c1
 have kktA2 := tA.c2
 have kktA3 := tA.c3
 go_wp2_with fail
 refine (rsign_v (z1.zs sN.out) HV.out).mono ?_
 rintro e V2 ⟨rfl, bb⟩
 clear kktA0 kktA1 kktA2 kktA3
 replace tA := tA.to bb
 replace HB := hx HB bb
 clear bb
 clear tA
 go_wp2
 go_ret
 exact ⟨rfl, HB.out⟩
set_option maxRecDepth 100000 in
theorem rcmp_q {w : World} {a1 a2 a3 a4 b1 b2 b3 b4 : Value} {r s : Rat} {k l : Nat} (hA : Qi w a1 a2 a3 a4 r k) (hB : Qi w b1 b2 b3 b4 s l) (hk : 0 < k) (hl : 0 < l) (hkl : k + l + 1 <= 10000) {v : Int} (hv : cmpQ r s = v) :
  Calls Tryz.prog 28 #[.agg #[a1, a2, a3, a4], .agg #[b1, b2, b3, b4]] w (fun e w' => e = .returned (.int .i64 v) /\ Below w.heap.size w w') := by
 have m := (hA.qm hk).sub (hB.qm hl)
 rw [<- sgn_sub] at hv
 have HV := Hd hv
 clear hv
 obtain ⟨W0, hW0⟩ : ∃ W0, W0 = (w.alloc (.cells #[a1, a2, a3, a4] 26)).alloc (.cells #[b1, b2, b3, b4] 26) := ⟨_, rfl⟩
 have hbw : Below w.heap.size w W0 := by rw [hW0]; exact (((Below.refl _ _).alloc (Nat.le_refl _) _).alloc (by simp) _)
 have tA : Four W0 (w.heap.size) a1 a2 a3 a4 := by
  have h := Four.new w a1 a2 a3 a4 26
  rw [hW0]; exact (h.alloc _)
 have tB : Four W0 (w.heap.size + 1) b1 b2 b3 b4 := by
  have h := Four.new (w.alloc (.cells #[a1, a2, a3, a4] 26)) b1 b2 b3 b4 26
  rw [World.size_alloc] at h
  rw [hW0]; exact h
 replace hA := hA.to hbw
 replace hB := hB.to hbw
 have HW0 := Hd hW0
 have HB := Hd hbw
 clear hW0 hbw
 go_enter Tryz.func28, Tryz.ntmps28
 go_wp2_with fail
 rw [<- HW0.out]
 clear HW0
 have kktA0 := tA.c0
 have kktA1 := tA.c1
 have kktA2 := tA.c2
 have kktA3 := tA.c3
 have kktB0 := tB.c0
 have kktB1 := tB.c1
 have kktB2 := tB.c2
 have kktB3 := tB.c3
 go_wp2_with fail
 refine (rsub_q hA hB hk hl hkl).mono ?_
 rintro e V1 ⟨x1, y1, u1, v1, rfl, q1, bb⟩
 clear kktA0 kktA1 kktA2 kktA3 kktB0 kktB1 kktB2 kktB3
 replace tA := tA.to bb
 replace tB := tB.to bb
 replace HB := hx HB bb
 clear bb
 have kktA0 := tA.c0
 have kktA1 := tA.c1
 have kktA2 := tA.c2
 have kktA3 := tA.c3
 have kktB0 := tB.c0
 have kktB1 := tB.c1
 have kktB2 := tB.c2
 have kktB3 := tB.c3
 go_wp2_with fail
 refine (rsign_q (q1.qi m hkl) hkl HV.out).mono ?_
 rintro e V2 ⟨rfl, bb⟩
 clear kktA0 kktA1 kktA2 kktA3 kktB0 kktB1 kktB2 kktB3
 replace tA := tA.to bb
 replace tB := tB.to bb
 replace HB := hx HB bb
 clear bb
 clear tA tB
 go_wp2
 go_ret
 exact ⟨rfl, HB.out⟩
set_option maxRecDepth 100000 in
theorem rmin_a {w : World} {a1 a2 a3 a4 b1 b2 b3 b4 : Value} {r s : Rat} {k l : Nat} (hA : Qi w a1 a2 a3 a4 r k) (hB : Qi w b1 b2 b3 b4 s l) (hk : 0 < k) (hl : 0 < l) (hkl : k + l + 1 <= 10000) (hc : cmpQ r s <= 0) :
  Calls Tryz.prog 22 #[.agg #[a1, a2, a3, a4], .agg #[b1, b2, b3, b4]] w (QR w (minQ r s)) := by
 obtain ⟨c, ec⟩ : ∃ c, cmpQ r s = c := ⟨_, rfl⟩
 rw [cmpQ_min2 hc]
 rw [ec] at hc
 have EC := Hd ec
 clear ec
 obtain ⟨W0, hW0⟩ : ∃ W0, W0 = ((w.alloc (.cells #[a1, a2, a3, a4] 26)).alloc (.cells #[b1, b2, b3, b4] 26)).alloc (.cells #[.bool false, .slice none 0 0, .bool false, .slice none 0 0] 26) := ⟨_, rfl⟩
 have hbw : Below w.heap.size w W0 := by rw [hW0]; exact ((((Below.refl _ _).alloc (Nat.le_refl _) _).alloc (by simp) _).alloc (by simp; omega) _)
 have tA : Four W0 (w.heap.size) a1 a2 a3 a4 := by
  have h := Four.new w a1 a2 a3 a4 26
  rw [hW0]; exact ((h.alloc _).alloc _)
 have tB : Four W0 (w.heap.size + 1) b1 b2 b3 b4 := by
  have h := Four.new (w.alloc (.cells #[a1, a2, a3, a4] 26)) b1 b2 b3 b4 26
  rw [World.size_alloc] at h
  rw [hW0]; exact (h.alloc _)
 have tR : Four W0 (w.heap.size + 1 + 1) (.bool false) (.slice none 0 0) (.bool false) (.slice none 0 0) := by
  have h := Four.new ((w.alloc (.cells #[a1, a2, a3, a4] 26)).alloc (.cells #[b1, b2, b3, b4] 26)) (.bool false) (.slice none 0 0) (.bool false) (.slice none 0 0) 26
  rw [World.size_alloc, World.size_alloc] at h
  rw [hW0]; exact h
 replace hA := hA.to hbw
 replace hB := hB.to hbw
 have HW0 := Hd hW0
 have HB := Hd hbw
 clear hW0 hbw
 go_enter Tryz.func22, Tryz.ntmps22
 go_wp2_with fail
 rw [<- HW0.out]
 clear HW0
 have kktA0 := tA.c0
 have kktA1 := tA.c1
 have kktA2 := tA.c2
 have kktA3 := tA.c3
 have kktB0 := tB.c0
 have kktB1 := tB.c1
 have kktB2 := tB.c2
 have kktB3 := tB.c3
 go_wp2_with fail
 refine (rcmp_q hA hB hk hl hkl EC.out).mono ?_
 rintro e V1 ⟨rfl, bb⟩
 clear kktA0 kktA1 kktA2 kktA3 kktB0 kktB1 kktB2 kktB3
 replace tA := tA.to bb
 replace tB := tB.to bb
 replace tR := tR.to bb
 replace hA := hA.to bb
 replace HB := hx HB bb
 clear bb
 have kktA0 := tA.c0
 have kktA1 := tA.c1
 have kktA2 := tA.c2
 have kktA3 := tA.c3
 have kktB0 := tB.c0
 have kktB1 := tB.c1
 have kktB2 := tB.c2
 have kktB3 := tB.c3
 go_wp2_with fail
 refine (rleast_q hA hk (by omega)).mono ?_
 rintro e V2 ⟨x2, y2, u2, v2, rfl, q2, bb⟩
 clear kktA0 kktA1 kktA2 kktA3 kktB0 kktB1 kktB2 kktB3
 replace tA := tA.to bb
 replace tB := tB.to bb
 replace tR := tR.to bb
 replace HB := hx HB bb
 clear bb
 have RZ := Hd q2
 obtain ⟨V99, eV, u, kp⟩ := pack4 tR Fq.nil x2 y2 u2 v2
 obtain ⟨⟨n1, A1, j1, m1, rfl, rfl⟩, ⟨n2, A2, j2, m2, rfl, rfl⟩⟩ := q2.fq
 obtain ⟨v0, v1, v2, v3, v4, v5, v6, v7, _⟩ := tR
 have EV := Hd eV
 have KP := Hd kp
 have U := Hd u
 clear eV kp u q2
 clear tA tB
 go_wp2
 rw [EV.out]
 refine bodyPost_ret (v := .agg #[.bool n1, .slice A1 j1 m1, .bool n2, .slice A2 j2 m2]) (by simp [results, Tryz.f22, go_sem, U.out.c0, U.out.c1, U.out.c2, U.out.c3]) rfl ?_
 exact ⟨_, _, _, _, rfl, RZ.out.k4 KP.out, KP.out.bel _ _ HB.out (by omega)⟩
set_option maxRecDepth 100000 in
theorem rmin_b {w : World} {a1 a2 a3 a4 b1 b2 b3 b4 : Value} {r s : Rat} {k l : Nat} (hA : Qi w a1 a2 a3 a4 r k) (hB : Qi w b1 b2 b3 b4 s l) (hk : 0 < k) (hl : 0 < l) (hkl : k + l + 1 <= 10000) (hc : ¬ cmpQ r s <= 0) :
  Calls Tryz.prog 22 #[.agg #[a1, a2, a3, a4], .agg #[b1, b2, b3, b4]] w (QR w (minQ r s)) := by
 obtain ⟨c, ec⟩ : ∃ c, cmpQ r s = c := ⟨_, rfl⟩
 rw [minQ_r hc]
 rw [ec] at hc
 have EC := Hd ec
 clear ec
 obtain ⟨W0, hW0⟩ : ∃ W0, W0 = ((w.alloc (.cells #[a1, a2, a3, a4] 26)).alloc (.cells #[b1, b2, b3, b4] 26)).alloc (.cells #[.bool false, .slice none 0 0, .bool false, .slice none 0 0] 26) := ⟨_, rfl⟩
 have hbw : Below w.heap.size w W0 := by rw [hW0]; exact ((((Below.refl _ _).alloc (Nat.le_refl _) _).alloc (by simp) _).alloc (by simp; omega) _)
 have tA : Four W0 (w.heap.size) a1 a2 a3 a4 := by
  have h := Four.new w a1 a2 a3 a4 26
  rw [hW0]; exact ((h.alloc _).alloc _)
 have tB : Four W0 (w.heap.size + 1) b1 b2 b3 b4 := by
  have h := Four.new (w.alloc (.cells #[a1, a2, a3, a4] 26)) b1 b2 b3 b4 26
  rw [World.size_alloc] at h
  rw [hW0]; exact (h.alloc _)
 have tR : Four W0 (w.heap.size + 1 + 1) (.bool false) (.slice none 0 0) (.bool false) (.slice none 0 0) := by
  have h := Four.new ((w.alloc (.cells #[a1, a2, a3, a4] 26)).alloc (.cells #[b1, b2, b3, b4] 26)) (.bool false) (.slice none 0 0) (.bool false) (.slice none 0 0) 26
  rw [World.size_alloc, World.size_alloc] at h
  rw [hW0]; exact h
 replace hA := hA.to hbw
 replace hB := hB.to hbw
 have HW0 := Hd hW0
 have HB := Hd hbw
 clear hW0 hbw
 go_enter Tryz.func22, Tryz.ntmps22
 go_wp2_with fail
 rw [<- HW0.out]
 clear HW0
 have kktA0 := tA.c0
 have kktA1 := tA.c1
 have kktA2 := tA.c2
 have kktA3 := tA.c3
 have kktB0 := tB.c0
 have kktB1 := tB.c1
 have kktB2 := tB.c2
 have kktB3 := tB.c3
 go_wp2_with fail
 refine (rcmp_q hA hB hk hl hkl EC.out).mono ?_
 rintro e V1 ⟨rfl, bb⟩
 clear kktA0 kktA1 kktA2 kktA3 kktB0 kktB1 kktB2 kktB3
 replace tA := tA.to bb
 replace tB := tB.to bb
 replace tR := tR.to bb
 replace hB := hB.to bb
 replace HB := hx HB bb
 clear bb
 have kktA0 := tA.c0
 have kktA1 := tA.c1
 have kktA2 := tA.c2
 have kktA3 := tA.c3
 have kktB0 := tB.c0
 have kktB1 := tB.c1
 have kktB2 := tB.c2
 have kktB3 := tB.c3
 go_wp2_with fail
 refine (rleast_q hB hl (by omega)).mono ?_
 rintro e V2 ⟨x2, y2, u2, v2, rfl, q2, bb⟩
 clear kktA0 kktA1 kktA2 kktA3 kktB0 kktB1 kktB2 kktB3
 replace tA := tA.to bb
 replace tB := tB.to bb
 replace tR := tR.to bb
 replace HB := hx HB bb
 clear bb
 have RZ := Hd q2
 obtain ⟨V99, eV, u, kp⟩ := pack4 tR Fq.nil x2 y2 u2 v2
 obtain ⟨⟨n1, A1, j1, m1, rfl, rfl⟩, ⟨n2, A2, j2, m2, rfl, rfl⟩⟩ := q2.fq
 obtain ⟨v0, v1, v2, v3, v4, v5, v6, v7, _⟩ := tR
 have EV := Hd eV
 have KP := Hd kp
 have U := Hd u
 clear eV kp u q2
 clear tA tB
 go_wp2
 rw [EV.out]
 refine bodyPost_ret (v := .agg #[.bool n1, .slice A1 j1 m1, .bool n2, .slice A2 j2 m2]) (by simp [results, Tryz.f22, go_sem, U.out.c0, U.out.c1, U.out.c2, U.out.c3]) rfl ?_
 exact ⟨_, _, _, _, rfl, RZ.out.k4 KP.out, KP.out.bel _ _ HB.out (by omega)⟩
theorem rmin_q {w : World} {a1 a2 a3 a4 b1 b2 b3 b4 : Value} {r s : Rat} {k l : Nat} (hA : Qi w a1 a2 a3 a4 r k) (hB : Qi w b1 b2 b3 b4 s l) (hk : 0 < k) (hl : 0 < l) (hkl : k + l + 1 <= 10000) : Calls Tryz.prog 22 #[.agg #[a1, a2, a3, a4], .agg #[b1, b2, b3, b4]] w (QR w (minQ r s)) := by
 by_cases hc : cmpQ r s <= 0
 ·exact rmin_a hA hB hk hl hkl hc
 ·exact rmin_b hA hB hk hl hkl hc
set_option maxRecDepth 100000 in
theorem rmax_a {w : World} {a1 a2 a3 a4 b1 b2 b3 b4 : Value} {r s : Rat} {k l : Nat} (hA : Qi w a1 a2 a3 a4 r k) (hB : Qi w b1 b2 b3 b4 s l) (hk : 0 < k) (hl : 0 < l) (hkl : k + l + 1 <= 10000) (hc : 0 <= cmpQ r s) :
  Calls Tryz.prog 24 #[.agg #[a1, a2, a3, a4], .agg #[b1, b2, b3, b4]] w (QR w (maxQ r s)) := by
 obtain ⟨c, ec⟩ : ∃ c, cmpQ r s = c := ⟨_, rfl⟩
 rw [cmpQ_max2 hc]
 rw [ec] at hc
 have EC := Hd ec
 clear ec
 obtain ⟨W0, hW0⟩ : ∃ W0, W0 = ((w.alloc (.cells #[a1, a2, a3, a4] 26)).alloc (.cells #[b1, b2, b3, b4] 26)).alloc (.cells #[.bool false, .slice none 0 0, .bool false, .slice none 0 0] 26) := ⟨_, rfl⟩
 have hbw : Below w.heap.size w W0 := by rw [hW0]; exact ((((Below.refl _ _).alloc (Nat.le_refl _) _).alloc (by simp) _).alloc (by simp; omega) _)
 have tA : Four W0 (w.heap.size) a1 a2 a3 a4 := by
  have h := Four.new w a1 a2 a3 a4 26
  rw [hW0]; exact ((h.alloc _).alloc _)
 have tB : Four W0 (w.heap.size + 1) b1 b2 b3 b4 := by
  have h := Four.new (w.alloc (.cells #[a1, a2, a3, a4] 26)) b1 b2 b3 b4 26
  rw [World.size_alloc] at h
  rw [hW0]; exact (h.alloc _)
 have tR : Four W0 (w.heap.size + 1 + 1) (.bool false) (.slice none 0 0) (.bool false) (.slice none 0 0) := by
  have h := Four.new ((w.alloc (.cells #[a1, a2, a3, a4] 26)).alloc (.cells #[b1, b2, b3, b4] 26)) (.bool false) (.slice none 0 0) (.bool false) (.slice none 0 0) 26
  rw [World.size_alloc, World.size_alloc] at h
  rw [hW0]; exact h
 replace hA := hA.to hbw
 replace hB := hB.to hbw
 have HW0 := Hd hW0
 have HB := Hd hbw
 clear hW0 hbw
 go_enter Tryz.func24, Tryz.ntmps24
 go_wp2_with fail
 rw [<- HW0.out]
 clear HW0
 have kktA0 := tA.c0
 have kktA1 := tA.c1
 have kktA2 := tA.c2
 have kktA3 := tA.c3
 have kktB0 := tB.c0
 have kktB1 := tB.c1
 have kktB2 := tB.c2
 have kktB3 := tB.c3
 go_wp2_with fail
 refine (rcmp_q hA hB hk hl hkl EC.out).mono ?_
 rintro e V1 ⟨rfl, bb⟩
 clear kktA0 kktA1 kktA2 kktA3 kktB0 kktB1 kktB2 kktB3
 replace tA := tA.to bb
 replace tB := tB.to bb
 replace tR := tR.to bb
 replace hA := hA.to bb
 replace HB := hx HB bb
 clear bb
 have kktA0 := tA.c0
 have kktA1 := tA.c1
 have kktA2 := tA.c2
 have kktA3 := tA.c3
 have kktB0 := tB.c0
 have kktB1 := tB.c1
 have kktB2 := tB.c2
 have kktB3 := tB.c3
 go_wp2_with fail
 refine (rleast_q hA hk (by omega)).mono ?_
 rintro e V2 ⟨x2, y2, u2, v2, rfl, q2, bb⟩
 clear kktA0 kktA1 kktA2 kktA3 kktB0 kktB1 kktB2 kktB3
 replace tA := tA.to bb
 replace tB := tB.to bb
 replace tR := tR.to bb
 replace HB := hx HB bb
 clear bb
 have RZ := Hd q2
 obtain ⟨V99, eV, u, kp⟩ := pack4 tR Fq.nil x2 y2 u2 v2
 obtain ⟨⟨n1, A1, j1, m1, rfl, rfl⟩, ⟨n2, A2, j2, m2, rfl, rfl⟩⟩ := q2.fq
 obtain ⟨v0, v1, v2, v3, v4, v5, v6, v7, _⟩ := tR
 have EV := Hd eV
 have KP := Hd kp
 have U := Hd u
 clear eV kp u q2
 clear tA tB
 go_wp2
 rw [EV.out]
 refine bodyPost_ret (v := .agg #[.bool n1, .slice A1 j1 m1, .bool n2, .slice A2 j2 m2]) (by simp [results, Tryz.f24, go_sem, U.out.c0, U.out.c1, U.out.c2, U.out.c3]) rfl ?_
 exact ⟨_, _, _, _, rfl, RZ.out.k4 KP.out, KP.out.bel _ _ HB.out (by omega)⟩
set_option maxRecDepth 100000 in
theorem rmax_b {w : World} {a1 a2 a3 a4 b1 b2 b3 b4 : Value} {r s : Rat} {k l : Nat} (hA : Qi w a1 a2 a3 a4 r k) (hB : Qi w b1 b2 b3 b4 s l) (hk : 0 < k) (hl : 0 < l) (hkl : k + l + 1 <= 10000) (hc : ¬ 0 <= cmpQ r s) :
  Calls Tryz.prog 24 #[.agg #[a1, a2, a3, a4], .agg #[b1, b2, b3, b4]] w (QR w (maxQ r s)) := by
 obtain ⟨c, ec⟩ : ∃ c, cmpQ r s = c := ⟨_, rfl⟩
 rw [maxQ_r hc]
 rw [ec] at hc
 have EC := Hd ec
 clear ec
 obtain ⟨W0, hW0⟩ : ∃ W0, W0 = ((w.alloc (.cells #[a1, a2, a3, a4] 26)).alloc (.cells #[b1, b2, b3, b4] 26)).alloc (.cells #[.bool false, .slice none 0 0, .bool false, .slice none 0 0] 26) := ⟨_, rfl⟩
 have hbw : Below w.heap.size w W0 := by rw [hW0]; exact ((((Below.refl _ _).alloc (Nat.le_refl _) _).alloc (by simp) _).alloc (by simp; omega) _)
 have tA : Four W0 (w.heap.size) a1 a2 a3 a4 := by
  have h := Four.new w a1 a2 a3 a4 26
  rw [hW0]; exact ((h.alloc _).alloc _)
 have tB : Four W0 (w.heap.size + 1) b1 b2 b3 b4 := by
  have h := Four.new (w.alloc (.cells #[a1, a2, a3, a4] 26)) b1 b2 b3 b4 26
  rw [World.size_alloc] at h
  rw [hW0]; exact (h.alloc _)
 have tR : Four W0 (w.heap.size + 1 + 1) (.bool false) (.slice none 0 0) (.bool false) (.slice none 0 0) := by
  have h := Four.new ((w.alloc (.cells #[a1, a2, a3, a4] 26)).alloc (.cells #[b1, b2, b3, b4] 26)) (.bool false) (.slice none 0 0) (.bool false) (.slice none 0 0) 26
  rw [World.size_alloc, World.size_alloc] at h
  rw [hW0]; exact h
 replace hA := hA.to hbw
 replace hB := hB.to hbw
 have HW0 := Hd hW0
 have HB := Hd hbw
 clear hW0 hbw
 go_enter Tryz.func24, Tryz.ntmps24
 go_wp2_with fail
 rw [<- HW0.out]
 clear HW0
 have kktA0 := tA.c0
 have kktA1 := tA.c1
 have kktA2 := tA.c2
 have kktA3 := tA.c3
 have kktB0 := tB.c0
 have kktB1 := tB.c1
 have kktB2 := tB.c2
 have kktB3 := tB.c3
 go_wp2_with fail
 refine (rcmp_q hA hB hk hl hkl EC.out).mono ?_
 rintro e V1 ⟨rfl, bb⟩
 clear kktA0 kktA1 kktA2 kktA3 kktB0 kktB1 kktB2 kktB3
 replace tA := tA.to bb
 replace tB := tB.to bb
 replace tR := tR.to bb
 replace hB := hB.to bb
 replace HB := hx HB bb
 clear bb
 have kktA0 := tA.c0
 have kktA1 := tA.c1
 have kktA2 := tA.c2
 have kktA3 := tA.c3
 have kktB0 := tB.c0
 have kktB1 := tB.c1
 have kktB2 := tB.c2
 have kktB3 := tB.c3
 go_wp2_with fail
 refine (rleast_q hB hl (by omega)).mono ?_
 rintro e V2 ⟨x2, y2, u2, v2, rfl, q2, bb⟩
 clear kktA0 kktA1 kktA2 kktA3 kktB0 kktB1 kktB2 kktB3
 replace tA := tA.to bb
 replace tB := tB.to bb
 replace tR := tR.to bb
 replace HB := hx HB bb
 clear bb
 have RZ := Hd q2
 obtain ⟨V99, eV, u, kp⟩ := pack4 tR Fq.nil x2 y2 u2 v2
 obtain ⟨⟨n1, A1, j1, m1, rfl, rfl⟩, ⟨n2, A2, j2, m2, rfl, rfl⟩⟩ := q2.fq
 obtain ⟨v0, v1, v2, v3, v4, v5, v6, v7, _⟩ := tR
 have EV := Hd eV
 have KP := Hd kp
 have U := Hd u
 clear eV kp u q2
 clear tA tB
 go_wp2
 rw [EV.out]
 refine bodyPost_ret (v := .agg #[.bool n1, .slice A1 j1 m1, .bool n2, .slice A2 j2 m2]) (by simp [results, Tryz.f24, go_sem, U.out.c0, U.out.c1, U.out.c2, U.out.c3]) rfl ?_
 exact ⟨_, _, _, _, rfl, RZ.out.k4 KP.out, KP.out.bel _ _ HB.out (by omega)⟩
theorem rmax_q {w : World} {a1 a2 a3 a4 b1 b2 b3 b4 : Value} {r s : Rat} {k l : Nat} (hA : Qi w a1 a2 a3 a4 r k) (hB : Qi w b1 b2 b3 b4 s l) (hk : 0 < k) (hl : 0 < l) (hkl : k + l + 1 <= 10000) : Calls Tryz.prog 24 #[.agg #[a1, a2, a3, a4], .agg #[b1, b2, b3, b4]] w (QR w (maxQ r s)) := by
 by_cases hc : 0 <= cmpQ r s
 ·exact rmax_a hA hB hk hl hkl hc
 ·exact rmax_b hA hB hk hl hkl hc
theorem Zc.same {w : World} {x y x' y' : Value} {a b : Int} (ha : Zc w x y a) (hb : Zc w x' y' b) {v : Bool} (hv : decide (a = b) = v) : Calls Tryz.prog 41 #[.agg #[x, y], .agg #[x', y']] w fun e w' => e = .returned (.bool v) /\ Below w.heap.size w w' := by
 subst hv; exact same_c ha hb
theorem den_cell {r s : Rat} (h : r ≠ s) (hn : r.num = s.num) : (if r.den = 1 then 0 else (r.den : Int)) ≠ (if s.den = 1 then 0 else (s.den : Int)) := by
 intro h2
 apply h
 refine Rat.ext hn ?_
 have h3 := r.den_pos
 have h4 := s.den_pos
 split at h2 <;> split at h2 <;> omega
set_option maxRecDepth 100000 in
theorem is_t {w : World} {a1 a2 a3 a4 b1 b2 b3 b4 : Value} {r s : Rat} (hA : Qc w a1 a2 a3 a4 r) (hB : Qc w b1 b2 b3 b4 s) (h : r = s) :
  Calls Tryz.prog 10 #[.agg #[a1, a2, a3, a4], .agg #[b1, b2, b3, b4]] w (fun e w' => e = .returned (.bool true) /\ Below w.heap.size w w') := by
 have e1 : Hid (decide (r.num = s.num) = true) := decide_eq_true (by rw [h])
 have e2 : Hid (decide ((if r.den = 1 then 0 else (r.den : Int)) = (if s.den = 1 then 0 else (s.den : Int))) = true) := decide_eq_true (by rw [h])
 clear h
 obtain ⟨W0, hW0⟩ : ∃ W0, W0 = (w.alloc (.cells #[a1, a2, a3, a4] 26)).alloc (.cells #[b1, b2, b3, b4] 26) := ⟨_, rfl⟩
 have hbw : Below w.heap.size w W0 := by rw [hW0]; exact (((Below.refl _ _).alloc (Nat.le_refl _) _).alloc (by simp) _)
 have tA : Four W0 (w.heap.size) a1 a2 a3 a4 := by
  have h := Four.new w a1 a2 a3 a4 26
  rw [hW0]; exact (h.alloc _)
 have tB : Four W0 (w.heap.size + 1) b1 b2 b3 b4 := by
  have h := Four.new (w.alloc (.cells #[a1, a2, a3, a4] 26)) b1 b2 b3 b4 26
  rw [World.size_alloc] at h
  rw [hW0]; exact h
 replace hA := hA.to hbw
 replace hB := hB.to hbw
 have HW0 := Hd hW0
 have HB := Hd hbw
 clear hW0 hbw
 go_enter Tryz.func10, Tryz.ntmps10
 go_wp2_with fail
 rw [<- HW0.out]
 clear HW0
 have kktA0 := tA.c0
 have kktA1 := tA.c1
 have kktA2 := tA.c2
 have kktA3 := tA.c3
 have kktB0 := tB.c0
 have kktB1 := tB.c1
 have kktB2 := tB.c2
 have kktB3 := tB.c3
 go_wp2_with fail
 refine (hA.1.same hB.1 e1.out).mono ?_
 rintro e V1 ⟨rfl, bb⟩
 clear kktA0 kktA1 kktA2 kktA3 kktB0 kktB1 kktB2 kktB3
 replace tA := tA.to bb
 replace tB := tB.to bb
 replace hA := hA.to bb
 replace hB := hB.to bb
 replace HB := hx HB bb
 clear bb
 have kktA0 := tA.c0
 have kktA1 := tA.c1
 have kktA2 := tA.c2
 have kktA3 := tA.c3
 have kktB0 := tB.c0
 have kktB1 := tB.c1
 have kktB2 := tB.c2
 have kktB3 := tB.c3
 go_wp2_with fail
 refine (hA.2.same hB.2 e2.out).mono ?_
 rintro e V2 ⟨rfl, bb⟩
 clear kktA0 kktA1 kktA2 kktA3 kktB0 kktB1 kktB2 kktB3
 replace tA := tA.to bb
 replace tB := tB.to bb
 replace HB := hx HB bb
 clear bb
 clear tA tB
 go_wp2
 go_ret
 exact ⟨rfl, HB.out⟩
set_option maxRecDepth 100000 in
theorem is_n {w : World} {a1 a2 a3 a4 b1 b2 b3 b4 : Value} {r s : Rat} (hA : Qc w a1 a2 a3 a4 r) (hB : Qc w b1 b2 b3 b4 s) (h : r.num ≠ s.num) :
  Calls Tryz.prog 10 #[.agg #[a1, a2, a3, a4], .agg #[b1, b2, b3, b4]] w (fun e w' => e = .returned (.bool false) /\ Below w.heap.size w w') := by
 have e1 : Hid (decide (r.num = s.num) = false) := decide_eq_false h
 clear h
 obtain ⟨W0, hW0⟩ : ∃ W0, W0 = (w.alloc (.cells #[a1, a2, a3, a4] 26)).alloc (.cells #[b1, b2, b3, b4] 26) := ⟨_, rfl⟩
 have hbw : Below w.heap.size w W0 := by rw [hW0]; exact (((Below.refl _ _).alloc (Nat.le_refl _) _).alloc (by simp) _)
 have tA : Four W0 (w.heap.size) a1 a2 a3 a4 := by
  have h := Four.new w a1 a2 a3 a4 26
  rw [hW0]; exact (h.alloc _)
 have tB : Four W0 (w.heap.size + 1) b1 b2 b3 b4 := by
  have h := Four.new (w.alloc (.cells #[a1, a2, a3, a4] 26)) b1 b2 b3 b4 26
  rw [World.size_alloc] at h
  rw [hW0]; exact h
 replace hA := hA.to hbw
 replace hB := hB.to hbw
 have HW0 := Hd hW0
 have HB := Hd hbw
 clear hW0 hbw
 go_enter Tryz.func10, Tryz.ntmps10
 go_wp2_with fail
 rw [<- HW0.out]
 clear HW0
 have kktA0 := tA.c0
 have kktA1 := tA.c1
 have kktA2 := tA.c2
 have kktA3 := tA.c3
 have kktB0 := tB.c0
 have kktB1 := tB.c1
 have kktB2 := tB.c2
 have kktB3 := tB.c3
 go_wp2_with fail
 refine (hA.1.same hB.1 e1.out).mono ?_
 rintro e V1 ⟨rfl, bb⟩
 clear kktA0 kktA1 kktA2 kktA3 kktB0 kktB1 kktB2 kktB3
 replace tA := tA.to bb
 replace tB := tB.to bb
 replace hA := hA.to bb
 replace hB := hB.to bb
 replace HB := hx HB bb
 clear bb
 clear tA tB
 go_wp2
 go_ret
 exact ⟨rfl, HB.out⟩
set_option maxRecDepth 100000 in
theorem is_d {w : World} {a1 a2 a3 a4 b1 b2 b3 b4 : Value} {r s : Rat} (hA : Qc w a1 a2 a3 a4 r) (hB : Qc w b1 b2 b3 b4 s) (h : r ≠ s) (hn : r.num = s.num) :
  Calls Tryz.prog 10 #[.agg #[a1, a2, a3, a4], .agg #[b1, b2, b3, b4]] w (fun e w' => e = .returned (.bool false) /\ Below w.heap.size w w') := by
 have e1 : Hid (decide (r.num = s.num) = true) := decide_eq_true hn
 have e2 : Hid (decide ((if r.den = 1 then 0 else (r.den : Int)) = (if s.den = 1 then 0 else (s.den : Int))) = false) := decide_eq_false (den_cell h hn)
 clear h hn
 obtain ⟨W0, hW0⟩ : ∃ W0, W0 = (w.alloc (.cells #[a1, a2, a3, a4] 26)).alloc (.cells #[b1, b2, b3, b4] 26) := ⟨_, rfl⟩
 have hbw : Below w.heap.size w W0 := by rw [hW0]; exact (((Below.refl _ _).alloc (Nat.le_refl _) _).alloc (by simp) _)
 have tA : Four W0 (w.heap.size) a1 a2 a3 a4 := by
  have h := Four.new w a1 a2 a3 a4 26
  rw [hW0]; exact (h.alloc _)
 have tB : Four W0 (w.heap.size + 1) b1 b2 b3 b4 := by
  have h := Four.new (w.alloc (.cells #[a1, a2, a3, a4] 26)) b1 b2 b3 b4 26
  rw [World.size_alloc] at h
  rw [hW0]; exact h
 replace hA := hA.to hbw
 replace hB := hB.to hbw
 have HW0 := Hd hW0
 have HB := Hd hbw
 clear hW0 hbw
 go_enter Tryz.func10, Tryz.ntmps10
 go_wp2_with fail
 rw [<- HW0.out]
 clear HW0
 have kktA0 := tA.c0
 have kktA1 := tA.c1
 have kktA2 := tA.c2
 have kktA3 := tA.c3
 have kktB0 := tB.c0
 have kktB1 := tB.c1
 have kktB2 := tB.c2
 have kktB3 := tB.c3
 go_wp2_with fail
 refine (hA.1.same hB.1 e1.out).mono ?_
 rintro e V1 ⟨rfl, bb⟩
 clear kktA0 kktA1 kktA2 kktA3 kktB0 kktB1 kktB2 kktB3
 replace tA := tA.to bb
 replace tB := tB.to bb
 replace hA := hA.to bb
 replace hB := hB.to bb
 replace HB := hx HB bb
 clear bb
 have kktA0 := tA.c0
 have kktA1 := tA.c1
 have kktA2 := tA.c2
 have kktA3 := tA.c3
 have kktB0 := tB.c0
 have kktB1 := tB.c1
 have kktB2 := tB.c2
 have kktB3 := tB.c3
 go_wp2_with fail
 refine (hA.2.same hB.2 e2.out).mono ?_
 rintro e V2 ⟨rfl, bb⟩
 clear kktA0 kktA1 kktA2 kktA3 kktB0 kktB1 kktB2 kktB3
 replace tA := tA.to bb
 replace tB := tB.to bb
 replace HB := hx HB bb
 clear bb
 clear tA tB
 go_wp2
 go_ret
 exact ⟨rfl, HB.out⟩
theorem is_q {w : World} {a1 a2 a3 a4 b1 b2 b3 b4 : Value} {r s : Rat} (hA : Qc w a1 a2 a3 a4 r) (hB : Qc w b1 b2 b3 b4 s) {v : Bool} (hv : decide (r = s) = v) : Calls Tryz.prog 10 #[.agg #[a1, a2, a3, a4], .agg #[b1, b2, b3, b4]] w fun e w' => e = .returned (.bool v) /\ Below w.heap.size w w' := by
 subst hv
 by_cases h : r = s
 ·rw [decide_eq_true h]; exact is_t hA hB h
 ·rw [decide_eq_false h]
  by_cases hn : r.num = s.num
  ·exact is_d hA hB h hn
  ·exact is_n hA hB hn
set_option maxRecDepth 100000 in
theorem rsame_q {w : World} {a1 a2 a3 a4 b1 b2 b3 b4 : Value} {r s : Rat} {k l : Nat} (hA : Qi w a1 a2 a3 a4 r k) (hB : Qi w b1 b2 b3 b4 s l) (hk : 0 < k) (hl : 0 < l) (hkl : k + l <= 10000) {v : Bool} (hv : decide (r = s) = v) :
  Calls Tryz.prog 30 #[.agg #[a1, a2, a3, a4], .agg #[b1, b2, b3, b4]] w (fun e w' => e = .returned (.bool v) /\ Below w.heap.size w w') := by
 have HV := Hd hv
 clear hv
 obtain ⟨W0, hW0⟩ : ∃ W0, W0 = (w.alloc (.cells #[a1, a2, a3, a4] 26)).alloc (.cells #[b1, b2, b3, b4] 26) := ⟨_, rfl⟩
 have hbw : Below w.heap.size w W0 := by rw [hW0]; exact (((Below.refl _ _).alloc (Nat.le_refl _) _).alloc (by simp) _)
 have tA : Four W0 (w.heap.size) a1 a2 a3 a4 := by
  have h := Four.new w a1 a2 a3 a4 26
  rw [hW0]; exact (h.alloc _)
 have tB : Four W0 (w.heap.size + 1) b1 b2 b3 b4 := by
  have h := Four.new (w.alloc (.cells #[a1, a2, a3, a4] 26)) b1 b2 b3 b4 26
  rw [World.size_alloc] at h
  rw [hW0]; exact h
 replace hA := hA.to hbw
 replace hB := hB.to hbw
 have HW0 := Hd hW0
 have HB := Hd hbw
 clear hW0 hbw
 go_enter Tryz.func30, Tryz.ntmps30
 go_wp2_with fail
 rw [<- HW0.out]
 clear HW0
 refine wp_region_plan (S := fun w' => Below w.heap.size w w' /\ Four w' (w.heap.size) a1 a2 a3 a4 /\ Four w' (w.heap.size + 1) b1 b2 b3 b4) [(0, true), (2, true), (1, false), (3, false), (4, false), (5, true)] (by kernel_rfl) (by kernel_rfl) ⟨HB.out.drew, tA.to (Below.refl _ _).drew, tB.to (Below.refl _ _).drew⟩ ?_
 have hb := HB.out.drew
 replace tA := tA.to (Below.refl _ _).drew
 replace tB := tB.to (Below.refl _ _).drew
 replace hA := hA.to (Below.refl _ _).drew
 replace hB := hB.to (Below.refl _ _).drew
 clear HB
 refine plan_take rfl (by rfl) (fun w' hS => load_four (by rfl) (hS.2.1)) ?_
 refine plan_take rfl (by rfl) (fun w' hS => load_four (by rfl) (hS.2.2)) ?_
 refine plan_call rfl (by rfl) (fun K hK => ?_)
 go_simp
 refine (rleast_q hA hk (by omega)).mono ?_
 rintro e V1 ⟨x1, y1, u1, v1, rfl, q1, bb⟩
 replace hb := bx hb bb
 replace tA := tA.to bb
 replace tB := tB.to bb
 replace hB := hB.to bb
 refine hK.out _ _ ⟨hb, tA, tB⟩ ?_
 clear hK K bb
 refine plan_call rfl (by rfl) (fun K hK => ?_)
 go_simp
 refine (rleast_q hB hl (by omega)).mono ?_
 rintro e V2 ⟨x2, y2, u2, v2, rfl, q2, bb⟩
 replace hb := bx hb bb
 replace tA := tA.to bb
 replace tB := tB.to bb
 replace q1 := q1.to bb
 refine hK.out _ _ ⟨hb, tA, tB⟩ ?_
 clear hK K bb
 refine plan_call rfl (by rfl) (fun K hK => ?_)
 go_simp
 refine (is_q q1 q2 HV.out).mono ?_
 rintro e V3 ⟨rfl, bb⟩
 replace hb := bx hb bb
 replace tA := tA.to bb
 replace tB := tB.to bb
 refine hK.out _ _ ⟨hb, tA, tB⟩ ?_
 clear hK K bb
 refine plan_take (v := ?_) rfl (by rfl) ?_ ?_; rotate_left; (focus (intro w' hS; go_simp; try with_reducible rfl))
 refine plan_done ?_
 have HB := Hd hb
 clear hb
 clear tA tB
 go_wp2
 go_ret
 exact ⟨rfl, HB.out⟩
end Go.Proofs.YtbmnloelimmgiaaGreat

namespace Go.Proofs.YtbmnloelimmgiaaGreat
open Go.RowKit Go.Shelf
theorem wp_append_out {P : Program} {w w' : World} {a : Act} {K : Act -> World -> Prop} {Q : Exit -> Act -> World -> Prop} {v u v' : Value} {d : Option Tmp} {s x : Operand} {t ty : TypeId} {pos : String} {after : Array Edge}
  (hs : a.eval s = v) (hx : a.eval x = u) (hrun : (Builtin.append_ #[t, t] ty #[v, u]).run P w = .ok v' w') (h : K (a.put d v') w') :
  Oper.wp P ⟨d, .call { callee := .builtin .append, args := #[s, x], argTypes := #[t, t] }, ty, pos, after, none⟩ a w K Q := by
 have h1 := step_append_out (ops := #[]) (E := True) (Q := Q) (o := ⟨d, .call { callee := .builtin .append, args := #[s, x], argTypes := #[t, t] }, ty, pos, after, none⟩) rfl s x t rfl hs hx hrun h
 rwa [if_pos (by simp [Region.wanted])] at h1
theorem append_copy {w : World} {A : Option Addr} {c : Nat} {xs : List Nat} (h : Rd .u32 w w.heap.size A xs) (hs : xs.length <= 4294967295) {i : TypeInfo} (hi : Tryz.prog.info? 62 = some i) (hz0 : i.zero = some (.int .u32 0)) (hz1 : i.size = 1) (hz2 : i.bytes = 4) :
  ∃ A2 c2 w1, (Builtin.append_ #[22, 22] 22 #[.slice none 0 0, .slice A xs.length c]).run Tryz.prog w = .ok (.slice A2 xs.length c2) w1 /\
   Rd .u32 w1 w1.heap.size A2 xs /\ xs.length <= c2 /\ c2 <= 9223372036854775807 /\ Below w.heap.size w w1 := by
 cases A with
 | none =>
  have hO : xs = [] := by
   cases xs with
   | nil => rfl
   | cons d r => obtain ⟨b, o, e, _⟩ := h 0 (by simp); cases e
  subst hO
  exact ⟨none, 0, _, run_append_nothing _ 22 22 22 62 i Tryz.underlying22 hi _ 0 0 (Nat.le_refl _) _ (Src.ofNil _ Tryz.underlying22 c), Rd.nil, by simp, by decide, Below.refl _ _⟩
 | some a =>
  obtain ⟨v', w1, hrun, hown', hgrow, _, _⟩ := run_append_own_at (P := Tryz.prog) w w.heap.size 22 22 62 i (.int .u32 0) 1 4
   Tryz.underlying22 hi hz0 hz1 hz2 rfl (by decide) _ 0 _ (World.ownsRow_nil w w.heap.size 62 1) a xs.length c (ints .u32 xs) (by simp [ints]) (Rd.news h (Below.refl _ _)) (by
    intro u hu
    obtain ⟨d, _, rfl⟩ := List.mem_map.1 hu
    rfl) (by unfold maxLen; omega) (by omega) (by simp)
  obtain ⟨A2, c2, rfl⟩ := own_shape hown'
  rw [Nat.zero_add] at hrun hown'
  obtain ⟨hc1, hc2⟩ := own_caps hown'
  exact ⟨A2, c2, w1, hrun, Rd.of_own (by simpa [ints] using hown') (Nat.le_refl _), hc1, hc2, (Below.refl _ _).grown hgrow (Nat.le_refl _) (fun j e => by simp [Value.ownBlock] at e)⟩
def Zx (W : World) (x y : Value) (n : Bool) (xs : List Nat) : Prop := ∃ A c, x = .bool n /\ y = .slice A xs.length c /\ Arg W A c xs
theorem Zx.to {W V : World} {x y : Value} {n : Bool} {xs : List Nat} (h : Zx W x y n xs) (hb : Below W.heap.size W V) : Zx V x y n xs := by
 obtain ⟨A, c, h1, h2, h3⟩ := h
 exact ⟨A, c, h1, h2, h3.to hb⟩
theorem Zx.fs {W : World} {x y : Value} {n : Bool} {xs : List Nat} (h : Zx W x y n xs) : Fs x y := by
 obtain ⟨A, c, rfl, rfl, _⟩ := h
 exact ⟨_, _, _, _, rfl, rfl⟩
theorem Zx.zl {W : World} {x y : Value} {n : Bool} {xs : List Nat} (h : Zx W x y n xs) (hl : xs.length <= 10000) : Zl W x y (zof n (val b32 xs)) := by
 obtain ⟨A, c, rfl, rfl, h3⟩ := h
 exact ⟨n, A, c, xs, rfl, rfl, h3, hl, rfl⟩
theorem Zx.kept {g : Nat} {w V : World} (kp : Kept g w V) {x y : Value} {n : Bool} {xs : List Nat} (h : Zx w x y n xs) (hr : ∀ A, Rd .u32 w w.heap.size A xs -> Rd .u32 V V.heap.size A xs) : Zx V x y n xs := by
 obtain ⟨A, c, rfl, rfl, ⟨r1, r2, r3, r4, r5⟩⟩ := h
 exact ⟨A, c, rfl, rfl, ⟨hr A r1, r2, r3, r4, r5⟩⟩
theorem same_x {w : World} {x y x' y' : Value} {n : Bool} {xs : List Nat} (h : Zx w x y n xs) (h' : Zx w x' y' n xs) : Calls Tryz.prog 41 #[.agg #[x, y], .agg #[x', y']] w fun e w' => e = .returned (.bool true) /\ Below w.heap.size w w' := by
 obtain ⟨A, c, rfl, rfl, r⟩ := h
 obtain ⟨A', c', rfl, rfl, r'⟩ := h'
 have h := same_any n n r.rd r'.rd r.le r.cap r'.le r'.cap
 rw [decide_eq_true ⟨rfl, rfl⟩] at h
 exact h
theorem val_inj {b : Nat} (hb : 0 < b) : ∀ {xs ys : List Nat}, Dg b xs -> Dg b ys -> xs.length = ys.length -> val b xs = val b ys -> xs = ys
 | [], [], _, _, _, _ => rfl
 | [], _ :: _, _, _, h, _ => by simp at h
 | _ :: _, [], _, _, h, _ => by simp at h
 | d :: r, e :: s, hx, hy, hl, hv => by
  have h1 := hx d (by simp)
  have h2 := hy e (by simp)
  simp only [val] at hv
  have hd : d = e := by
   have := congrArg (· % b) hv
   simpa [Nat.add_mul_mod_self_left, Nat.mod_eq_of_lt h1, Nat.mod_eq_of_lt h2] using this
  subst hd
  have hv2 : b * val b r = b * val b s := by omega
  rw [val_inj hb (fun q hq => hx q (by simp [hq])) (fun q hq => hy q (by simp [hq])) (by simpa using hl) (Nat.eq_of_mul_eq_mul_left hb hv2)]
theorem Kept.arg {g : Nat} {w V : World} (kp : Kept g w V) {A : Option Addr} {c : Nat} {xs : List Nat} (h : Arg w A c xs) : Arg V A c xs := by
 obtain ⟨n, A', c', xs', e1, e2, h3, h4⟩ := kp.zi _ _ _ ⟨false, A, c, xs, rfl, rfl, h, rfl⟩
 injection e1 with e1
 injection e2 with e2 e3 e4
 subst e1 e2 e4
 have : xs = xs' := val_inj (by decide) h.dg h3.dg e3 (by have h5 := h4.symm; simp only [zof, Bool.false_eq_true, if_false] at h5; omega)
 subst this
 exact h3
theorem own_any (n : Bool) {A : Option Addr} {c : Nat} {xs : List Nat} {w : World} (hx : Arg w A c xs) (sx : xs.length <= 10000) :
  Calls Tryz.prog 50 #[.agg #[.bool n, .slice A xs.length c]] w fun e w' => ∃ x y, e = .returned (.agg #[x, y]) /\ Zx w' x y n xs /\ Below w.heap.size w w' := by
 obtain ⟨W0, hW0⟩ : ∃ W0, W0 = ((w.alloc (.cells #[.bool n, .slice A xs.length c] 24)).alloc (.cells #[.bool false, .slice none 0 0] 24)) := ⟨_, rfl⟩
 have hb : Below w.heap.size w W0 := by rw [hW0]; exact ((Below.refl _ _).alloc (Nat.le_refl _) _).alloc (by simp) _
 have tX : Two W0 (w.heap.size) (.bool n) (.slice A xs.length c) := by
  have h := Two.new w (.bool n) (.slice A xs.length c) 24
  rw [hW0]; exact h.alloc _
 have tR : Two W0 (w.heap.size + 1) (.bool false) (.slice none 0 0) := by
  have h := Two.new (w.alloc (.cells #[.bool n, .slice A xs.length c] 24)) (.bool false) (.slice none 0 0) 24
  rw [World.size_alloc] at h
  rw [hW0]; exact h
 have HW0 := Lib.hid hW0
 have HB0 := Lib.hid hb
 have HX := Lib.hid hx
 have hBW : w.heap.size + 1 <= W0.heap.size := by rw [hW0]; simp
 have Dsx : val b32 xs < b16 ^ (2 * xs.length) := by rw [<- pow_2k]; exact val_lt hx.dg
 clear hW0 hb hx
 obtain ⟨i0, hi, hz0, hz1, hz2⟩ := info_parts infoWord
 go_enter Tryz.func50, Tryz.ntmps50
 go_wp2_with fail
 rw [<- HW0.out]
 refine wp_region_plan (S := fun w' => Below (w.heap.size + 1) W0 w') [(0, true), (1, true), (2, true), (3, true), (4, false), (5, true), (6, false)] (by kernel_rfl) (by kernel_rfl) (Below.refl _ _).drew ?_
 have HB := (Below.refl W0.heap.size W0).drew
 repeat (refine plan_take (v := ?_) rfl (by rfl) ?_ ?_; rotate_left; (focus (intro w' hS; have k0 := (tX.toB hS (by omega)).c0; have k1 := (tX.toB hS (by omega)).c1; go_simp; try with_reducible rfl)); simp only [Act.put, List.setIfInBounds_toArray, List.set_cons_zero, List.set_cons_succ])
 have AC := append_copy (c := c) (HX.out.to (HB0.out.trans (HB.mono HB0.out.size))).rd HX.out.small hi hz0 hz1 hz2
 obtain ⟨A2, c2, w1, hrun, r1, l1, m1, bb⟩ := AC
 refine plan_call rfl (by rfl) (fun K hK => ?_)
 refine wp_append_out (by rfl) (by rfl) hrun ?_
 have hx1 : Arg w1 A2 c2 xs := ⟨r1, HX.out.dg, l1, m1, HX.out.small⟩
 replace HB := HB.trans (bb.mono HB.size)
 refine hK.out _ _ (HB.mono hBW) ?_
 clear hK K hrun r1 l1 m1 bb
 simp only [Act.put, List.setIfInBounds_toArray, List.set_cons_zero, List.set_cons_succ]
 repeat (refine plan_take (v := ?_) rfl (by rfl) ?_ ?_; rotate_left; (focus (intro w' hS; have k0 := (tX.toB hS (by omega)).c0; have k1 := (tX.toB hS (by omega)).c1; go_simp; try with_reducible rfl)); simp only [Act.put, List.setIfInBounds_toArray, List.set_cons_zero, List.set_cons_succ])
 refine plan_call rfl (by rfl) (fun K hK => ?_)
 refine wp_store_two (by rfl) (by rfl) (tR.to HB) Fs.nil ⟨_, _, _, _, rfl, rfl⟩ (fun V u kp => ?_)
 have HF : Arg V A2 c2 xs := kp.arg hx1
 have HE := kp.bel _ _ (HB0.out.trans (HB.mono HB0.out.size)) (by omega)
 refine hK.out _ _ (kp.bel _ _ (HB.mono hBW) (Nat.le_refl _)) ?_
 clear hK K kp
 simp only [Act.put, List.setIfInBounds_toArray, List.set_cons_zero, List.set_cons_succ]
 refine plan_done ?_
 have HF2 := Lib.hid HF
 have HE2 := Lib.hid HE
 clear HF HE
 go_wp2
 exact bodyPost_ret (v := .agg #[.bool n, .slice A2 xs.length c2]) (by simp [results, Tryz.f50, go_sem, u.c0, u.c1]) rfl ⟨_, _, rfl, ⟨A2, c2, rfl, rfl, HF2.out⟩, HE2.out⟩
end Go.Proofs.YtbmnloelimmgiaaGreat

namespace Go.Proofs.YtbmnloelimmgiaaGreat
open Go.RowKit Go.Shelf
theorem absQ_num (r : Rat) : r.abs.num = (r.num.natAbs : Int) /\ r.abs.den = r.den := by
 by_cases h : 0 <= r
 ·rw [Rat.abs_of_nonneg h]
  have := Rat.num_nonneg.2 h
  exact ⟨by omega, rfl⟩
 ·have h1 : r <= 0 := Rat.le_of_lt (Rat.not_le.1 h)
  rw [Rat.abs_of_nonpos h1]
  have : ¬ 0 <= r.num := fun h2 => h (Rat.num_nonneg.1 h2)
  exact ⟨by rw [Rat.neg_num]; omega, rfl⟩
set_option maxRecDepth 100000 in
theorem neg_q {w : World} {a1 a2 a3 a4 : Value} {r : Rat} {k : Nat} (hA : Qi w a1 a2 a3 a4 r k) (hk : 0 < k) (hk2 : k <= 10000) :
  Calls Tryz.prog 17 #[.agg #[a1, a2, a3, a4]] w (QR w (-r)) := by
 have sN : Hid (Sg r.num) := (hA.qm hk).1.sg hk2
 have eN : Hid (-r.num = (-r).num) := rfl
 have eD : Hid ((-r).den = r.den) := rfl
 obtain ⟨W0, hW0⟩ : ∃ W0, W0 = (w.alloc (.cells #[a1, a2, a3, a4] 26)).alloc (.cells #[.bool false, .slice none 0 0, .bool false, .slice none 0 0] 26) := ⟨_, rfl⟩
 have hbw : Below w.heap.size w W0 := by rw [hW0]; exact (((Below.refl _ _).alloc (Nat.le_refl _) _).alloc (by simp) _)
 have tA : Four W0 (w.heap.size) a1 a2 a3 a4 := by
  have h := Four.new w a1 a2 a3 a4 26
  rw [hW0]; exact (h.alloc _)
 have tR : Four W0 (w.heap.size + 1) (.bool false) (.slice none 0 0) (.bool false) (.slice none 0 0) := by
  have h := Four.new (w.alloc (.cells #[a1, a2, a3, a4] 26)) (.bool false) (.slice none 0 0) (.bool false) (.slice none 0 0) 26
  rw [World.size_alloc] at h
  rw [hW0]; exact h
 replace hA := hA.to hbw
 have HW0 := Hd hW0
 have HB := Hd hbw
 clear hW0 hbw
 go_enter Tryz.func17, Tryz.ntmps17
 go_wp2_with fail
 rw [<- HW0.out]
 clear HW0
 have kktA0 := tA.c0
 have kktA1 := tA.c1
 have kktA2 := tA.c2
 have kktA3 := tA.c3
 go_wp2_with fail
 refine (canonical_q hA hk2).mono ?_
 rintro e V1 ⟨x1, y1, u1, v1, rfl, q1, bb⟩
 clear kktA0 kktA1 kktA2 kktA3
 replace tA := tA.to bb
 replace tR := tR.to bb
 replace HB := hx HB bb
 clear bb
 have hntC : w.heap.size + 1 < V1.heap.size := by have := tR.lt; omega
 obtain ⟨⟨nntC0, AAtC0, jjtC0, mmtC0, rfl, rfl⟩, ⟨nntC2, AAtC2, jjtC2, mmtC2, rfl, rfl⟩⟩ := q1.fq
 have tC := Four.new V1 (.bool nntC0) (.slice AAtC0 jjtC0 mmtC0) (.bool nntC2) (.slice AAtC2 jjtC2 mmtC2) 26
 have bb := (Below.refl V1.heap.size V1).alloc (by simp) (.cells #[.bool nntC0, .slice AAtC0 jjtC0 mmtC0, .bool nntC2, .slice AAtC2 jjtC2 mmtC2] 26)
 replace tA := tA.to bb
 replace tR := tR.to bb
 replace q1 := q1.to bb
 replace HB := hx HB bb
 clear bb
 go_wp2_with fail
 obtain ⟨X2, hX2⟩ : ∃ W, W = V1.alloc (.cells #[.bool nntC0, .slice AAtC0 jjtC0 mmtC0, .bool nntC2, .slice AAtC2 jjtC2 mmtC2] 26) := ⟨_, rfl⟩
 obtain ⟨gtC, hgtC⟩ : ∃ g, g = V1.heap.size := ⟨_, rfl⟩
 rw [<- hX2, <- hgtC]
 rw [<- hX2, <- hgtC] at tC
 rw [<- hgtC] at hntC
 rw [<- hX2] at tA tR q1 HB
 clear hX2 hgtC
 have c1 := q1.1
 have c2 := q1.2
 clear q1 tA
 refine wp_region_plan (S := fun w' => Below w.heap.size w w' /\ Four w' (gtC) (.bool nntC0) (.slice AAtC0 jjtC0 mmtC0) (.bool nntC2) (.slice AAtC2 jjtC2 mmtC2)) [(0, true), (1, true), (3, true), (4, true), (2, false), (5, true), (6, false)] (by kernel_rfl) (by kernel_rfl) ⟨HB.out.drew, tC.to (Below.refl _ _).drew⟩ ?_
 have hb := HB.out.drew
 replace tC := tC.to (Below.refl _ _).drew
 replace tR := tR.to (Below.refl _ _).drew
 replace c1 := c1.to (Below.refl _ _).drew
 replace c2 := c2.to (Below.refl _ _).drew
 clear HB
 refine plan_take (v := ?_) rfl (by rfl) ?_ ?_; rotate_left; (focus (intro w' hS; go_simp; try with_reducible rfl))
 refine plan_take (v := ?_) rfl (by rfl) ?_ ?_; rotate_left; (focus (intro w' hS; have k00 := (hS.2).c0; have k01 := (hS.2).c1; have k02 := (hS.2).c2; have k03 := (hS.2).c3; go_simp; try with_reducible rfl))
 refine plan_take (v := ?_) rfl (by rfl) ?_ ?_; rotate_left; (focus (intro w' hS; go_simp; try with_reducible rfl))
 refine plan_take (v := ?_) rfl (by rfl) ?_ ?_; rotate_left; (focus (intro w' hS; have k00 := (hS.2).c0; have k01 := (hS.2).c1; have k02 := (hS.2).c2; have k03 := (hS.2).c3; go_simp; try with_reducible rfl))
 refine plan_call rfl (by rfl) (fun K hK => ?_)
 go_simp
 refine (neg_z (c1.zs sN.out).zi).mono ?_
 rintro e V3 ⟨x3, y3, rfl, z3, bb⟩
 replace hb := bx hb bb
 replace tC := tC.to bb
 replace tR := tR.to bb
 replace c2 := c2.to bb
 refine hK.out _ _ ⟨hb, tC⟩ ?_
 clear hK K bb
 refine plan_take (v := ?_) rfl (by rfl) ?_ ?_; rotate_left; (focus (intro w' hS; go_simp; try with_reducible rfl))
 refine plan_call rfl (by rfl) (fun K hK => ?_)
 rw [eN.out] at z3
 rw [<- eD.out] at c2
 have rq : Qc _ _ _ _ _ (-r) := ⟨z3, c2⟩
 refine wp_store_q (by rfl) (by rfl) tR Fq.nil rq.fq (fun V u kp => ?_)
 replace tC := kp.four (by omega) tC
 replace hb := kp.bel _ _ hb (by omega)
 replace rq := kp.qc rq
 refine hK.out _ _ ⟨hb, tC⟩ ?_
 clear hK K kp tR tC
 refine plan_done ?_
 have U0 := u.c0
 have U1 := u.c1
 have U2 := u.c2
 have U3 := u.c3
 have RZ := Hd rq
 have HE := Hd hb
 clear rq hb u
 go_wp2
 refine bodyPost_ret (v := .agg #[x3, y3, .bool nntC2, .slice AAtC2 jjtC2 mmtC2]) (by simp [results, Tryz.f17, go_sem, U0, U1, U2, U3]) rfl ?_
 exact ⟨_, _, _, _, rfl, RZ.out, HE.out⟩
set_option maxRecDepth 100000 in
theorem abs_q {w : World} {a1 a2 a3 a4 : Value} {r : Rat} {k : Nat} (hA : Qi w a1 a2 a3 a4 r k) (hk : 0 < k) (hk2 : k <= 10000) :
  Calls Tryz.prog 19 #[.agg #[a1, a2, a3, a4]] w (QR w r.abs) := by
 have sN : Hid (Sg r.num) := (hA.qm hk).1.sg hk2
 have eN : Hid ((r.num.natAbs : Int) = r.abs.num) := (absQ_num r).1.symm
 have eD : Hid (r.abs.den = r.den) := (absQ_num r).2
 obtain ⟨W0, hW0⟩ : ∃ W0, W0 = (w.alloc (.cells #[a1, a2, a3, a4] 26)).alloc (.cells #[.bool false, .slice none 0 0, .bool false, .slice none 0 0] 26) := ⟨_, rfl⟩
 have hbw : Below w.heap.size w W0 := by rw [hW0]; exact (((Below.refl _ _).alloc (Nat.le_refl _) _).alloc (by simp) _)
 have tA : Four W0 (w.heap.size) a1 a2 a3 a4 := by
  have h := Four.new w a1 a2 a3 a4 26
  rw [hW0]; exact (h.alloc _)
 have tR : Four W0 (w.heap.size + 1) (.bool false) (.slice none 0 0) (.bool false) (.slice none 0 0) := by
  have h := Four.new (w.alloc (.cells #[a1, a2, a3, a4] 26)) (.bool false) (.slice none 0 0) (.bool false) (.slice none 0 0) 26
  rw [World.size_alloc] at h
  rw [hW0]; exact h
 replace hA := hA.to hbw
 have HW0 := Hd hW0
 have HB := Hd hbw
 clear hW0 hbw
 go_enter Tryz.func19, Tryz.ntmps19
 go_wp2_with fail
 rw [<- HW0.out]
 clear HW0
 have kktA0 := tA.c0
 have kktA1 := tA.c1
 have kktA2 := tA.c2
 have kktA3 := tA.c3
 go_wp2_with fail
 refine (canonical_q hA hk2).mono ?_
 rintro e V1 ⟨x1, y1, u1, v1, rfl, q1, bb⟩
 clear kktA0 kktA1 kktA2 kktA3
 replace tA := tA.to bb
 replace tR := tR.to bb
 replace HB := hx HB bb
 clear bb
 have hntC : w.heap.size + 1 < V1.heap.size := by have := tR.lt; omega
 obtain ⟨⟨nntC0, AAtC0, jjtC0, mmtC0, rfl, rfl⟩, ⟨nntC2, AAtC2, jjtC2, mmtC2, rfl, rfl⟩⟩ := q1.fq
 have tC := Four.new V1 (.bool nntC0) (.slice AAtC0 jjtC0 mmtC0) (.bool nntC2) (.slice AAtC2 jjtC2 mmtC2) 26
 have bb := (Below.refl V1.heap.size V1).alloc (by simp) (.cells #[.bool nntC0, .slice AAtC0 jjtC0 mmtC0, .bool nntC2, .slice AAtC2 jjtC2 mmtC2] 26)
 replace tA := tA.to bb
 replace tR := tR.to bb
 replace q1 := q1.to bb
 replace HB := hx HB bb
 clear bb
 go_wp2_with fail
 obtain ⟨X2, hX2⟩ : ∃ W, W = V1.alloc (.cells #[.bool nntC0, .slice AAtC0 jjtC0 mmtC0, .bool nntC2, .slice AAtC2 jjtC2 mmtC2] 26) := ⟨_, rfl⟩
 obtain ⟨gtC, hgtC⟩ : ∃ g, g = V1.heap.size := ⟨_, rfl⟩
 rw [<- hX2, <- hgtC]
 rw [<- hX2, <- hgtC] at tC
 rw [<- hgtC] at hntC
 rw [<- hX2] at tA tR q1 HB
 clear hX2 hgtC
 have c1 := q1.1
 have c2 := q1.2
 clear q1 tA
 refine wp_region_plan (S := fun w' => Below w.heap.size w w' /\ Four w' (gtC) (.bool nntC0) (.slice AAtC0 jjtC0 mmtC0) (.bool nntC2) (.slice AAtC2 jjtC2 mmtC2)) [(0, true), (1, true), (3, true), (4, true), (2, false), (5, true), (6, false)] (by kernel_rfl) (by kernel_rfl) ⟨HB.out.drew, tC.to (Below.refl _ _).drew⟩ ?_
 have hb := HB.out.drew
 replace tC := tC.to (Below.refl _ _).drew
 replace tR := tR.to (Below.refl _ _).drew
 replace c1 := c1.to (Below.refl _ _).drew
 replace c2 := c2.to (Below.refl _ _).drew
 clear HB
 refine plan_take (v := ?_) rfl (by rfl) ?_ ?_; rotate_left; (focus (intro w' hS; go_simp; try with_reducible rfl))
 refine plan_take (v := ?_) rfl (by rfl) ?_ ?_; rotate_left; (focus (intro w' hS; have k00 := (hS.2).c0; have k01 := (hS.2).c1; have k02 := (hS.2).c2; have k03 := (hS.2).c3; go_simp; try with_reducible rfl))
 refine plan_take (v := ?_) rfl (by rfl) ?_ ?_; rotate_left; (focus (intro w' hS; go_simp; try with_reducible rfl))
 refine plan_take (v := ?_) rfl (by rfl) ?_ ?_; rotate_left; (focus (intro w' hS; have k00 := (hS.2).c0; have k01 := (hS.2).c1; have k02 := (hS.2).c2; have k03 := (hS.2).c3; go_simp; try with_reducible rfl))
 refine plan_call rfl (by rfl) (fun K hK => ?_)
 go_simp
 refine (abs_z (c1.zs sN.out).zi).mono ?_
 rintro e V3 ⟨x3, y3, rfl, z3, bb⟩
 replace hb := bx hb bb
 replace tC := tC.to bb
 replace tR := tR.to bb
 replace c2 := c2.to bb
 refine hK.out _ _ ⟨hb, tC⟩ ?_
 clear hK K bb
 refine plan_take (v := ?_) rfl (by rfl) ?_ ?_; rotate_left; (focus (intro w' hS; go_simp; try with_reducible rfl))
 refine plan_call rfl (by rfl) (fun K hK => ?_)
 rw [eN.out] at z3
 rw [<- eD.out] at c2
 have rq : Qc _ _ _ _ _ r.abs := ⟨z3, c2⟩
 refine wp_store_q (by rfl) (by rfl) tR Fq.nil rq.fq (fun V u kp => ?_)
 replace tC := kp.four (by omega) tC
 replace hb := kp.bel _ _ hb (by omega)
 replace rq := kp.qc rq
 refine hK.out _ _ ⟨hb, tC⟩ ?_
 clear hK K kp tR tC
 refine plan_done ?_
 have U0 := u.c0
 have U1 := u.c1
 have U2 := u.c2
 have U3 := u.c3
 have RZ := Hd rq
 have HE := Hd hb
 clear rq hb u
 go_wp2
 refine bodyPost_ret (v := .agg #[x3, y3, .bool nntC2, .slice AAtC2 jjtC2 mmtC2]) (by simp [results, Tryz.f19, go_sem, U0, U1, U2, U3]) rfl ?_
 exact ⟨_, _, _, _, rfl, RZ.out, HE.out⟩
def Qx (W : World) (a b c d : Value) (n : Bool) (xs : List Nat) (m : Bool) (ys : List Nat) : Prop := Zx W a b n xs /\ Zx W c d m ys
theorem Qx.to {W V : World} {a b c d : Value} {n m : Bool} {xs ys : List Nat} (h : Qx W a b c d n xs m ys) (hb : Below W.heap.size W V) : Qx V a b c d n xs m ys := ⟨h.1.to hb, h.2.to hb⟩
theorem Qx.qi {W : World} {a b c d : Value} {n m : Bool} {xs ys : List Nat} {k : Nat} (h : Qx W a b c d n xs m ys) (h1 : xs.length <= k) (h2 : ys.length <= k) (hk : k <= 10000) : Qi W a b c d (rv (zof n (val b32 xs)) (zof m (val b32 ys))) k := by
 have z1 := h.1.zl (by omega)
 have z2 := h.2.zl (by omega)
 obtain ⟨⟨A, c, _, _, r1⟩, ⟨B, d, _, _, r2⟩⟩ := h
 exact ⟨_, _, z1, z2, rfl, Sm.zof r1.dg h1, Sm.zof r2.dg h2⟩
theorem Qx.fq {W : World} {a b c d : Value} {n m : Bool} {xs ys : List Nat} (h : Qx W a b c d n xs m ys) : Fq a b c d := ⟨h.1.fs, h.2.fs⟩
theorem own_x {w : World} {x y : Value} {n : Bool} {xs : List Nat} (h : Zx w x y n xs) (sx : xs.length <= 10000) : Calls Tryz.prog 50 #[.agg #[x, y]] w fun e w' => ∃ x y, e = .returned (.agg #[x, y]) /\ Zx w' x y n xs /\ Below w.heap.size w w' := by
 obtain ⟨A, c, rfl, rfl, hx⟩ := h
 exact own_any n hx sx
theorem kpZx {g : Nat} {w V : World} (kp : KeptG g w V) {x y : Value} {n : Bool} {xs : List Nat} (h : Zx w x y n xs) : Zx V x y n xs := by
 obtain ⟨A, c, rfl, rfl, ⟨r1, r2, r3, r4, r5⟩⟩ := h
 exact ⟨A, c, rfl, rfl, ⟨kp.rd _ _ r1, r2, r3, r4, r5⟩⟩
theorem kpQx {g : Nat} {w V : World} (kp : KeptG g w V) {a b c d : Value} {n m : Bool} {xs ys : List Nat} (h : Qx w a b c d n xs m ys) : Qx V a b c d n xs m ys := ⟨kpZx kp h.1, kpZx kp h.2⟩
set_option maxRecDepth 100000 in
theorem own_q {w : World} {a1 a2 a3 a4 : Value} {n m : Bool} {xs ys : List Nat} (h : Qx w a1 a2 a3 a4 n xs m ys) (l1 : xs.length <= 10000) (l2 : ys.length <= 10000) :
  Calls Tryz.prog 7 #[.agg #[a1, a2, a3, a4]] w (fun e w' => ∃ a b c d, e = .returned (.agg #[a, b, c, d]) /\ Qx w' a b c d n xs m ys /\ Below w.heap.size w w') := by
 have h1 := h.1
 have h2 := h.2
 clear h
 obtain ⟨W0, hW0⟩ : ∃ W0, W0 = (w.alloc (.cells #[a1, a2, a3, a4] 26)).alloc (.cells #[.bool false, .slice none 0 0, .bool false, .slice none 0 0] 26) := ⟨_, rfl⟩
 have hbw : Below w.heap.size w W0 := by rw [hW0]; exact (((Below.refl _ _).alloc (Nat.le_refl _) _).alloc (by simp) _)
 have tA : Four W0 (w.heap.size) a1 a2 a3 a4 := by
  have h := Four.new w a1 a2 a3 a4 26
  rw [hW0]; exact (h.alloc _)
 have tR : Four W0 (w.heap.size + 1) (.bool false) (.slice none 0 0) (.bool false) (.slice none 0 0) := by
  have h := Four.new (w.alloc (.cells #[a1, a2, a3, a4] 26)) (.bool false) (.slice none 0 0) (.bool false) (.slice none 0 0) 26
  rw [World.size_alloc] at h
  rw [hW0]; exact h
 replace h1 := h1.to hbw
 replace h2 := h2.to hbw
 have HW0 := Hd hW0
 have HB := Hd hbw
 clear hW0 hbw
 go_enter Tryz.func7, Tryz.ntmps7
 go_wp2_with fail
 rw [<- HW0.out]
 clear HW0
 refine wp_region_plan (S := fun w' => Below w.heap.size w w' /\ Four w' (w.heap.size) a1 a2 a3 a4) [(0, true), (1, true), (3, true), (4, true), (2, false), (5, false), (6, true), (7, false)] (by kernel_rfl) (by kernel_rfl) ⟨HB.out.drew, tA.to (Below.refl _ _).drew⟩ ?_
 have hb := HB.out.drew
 replace tA := tA.to (Below.refl _ _).drew
 replace tR := tR.to (Below.refl _ _).drew
 replace h1 := h1.to (Below.refl _ _).drew
 replace h2 := h2.to (Below.refl _ _).drew
 clear HB
 refine plan_take (v := ?_) rfl (by rfl) ?_ ?_; rotate_left; (focus (intro w' hS; go_simp; try with_reducible rfl))
 refine plan_take (v := ?_) rfl (by rfl) ?_ ?_; rotate_left; (focus (intro w' hS; have k00 := (hS.2).c0; have k01 := (hS.2).c1; have k02 := (hS.2).c2; have k03 := (hS.2).c3; go_simp; try with_reducible rfl))
 refine plan_take (v := ?_) rfl (by rfl) ?_ ?_; rotate_left; (focus (intro w' hS; go_simp; try with_reducible rfl))
 refine plan_take (v := ?_) rfl (by rfl) ?_ ?_; rotate_left; (focus (intro w' hS; have k00 := (hS.2).c0; have k01 := (hS.2).c1; have k02 := (hS.2).c2; have k03 := (hS.2).c3; go_simp; try with_reducible rfl))
 refine plan_call rfl (by rfl) (fun K hK => ?_)
 go_simp
 refine (own_x h1 l1).mono ?_
 rintro e V1 ⟨x1, y1, rfl, z1, bb⟩
 replace hb := bx hb bb
 replace tA := tA.to bb
 replace tR := tR.to bb
 replace h2 := h2.to bb
 refine hK.out _ _ ⟨hb, tA⟩ ?_
 clear hK K bb
 refine plan_call rfl (by rfl) (fun K hK => ?_)
 go_simp
 refine (own_x h2 l2).mono ?_
 rintro e V2 ⟨x2, y2, rfl, z2, bb⟩
 replace hb := bx hb bb
 replace tA := tA.to bb
 replace tR := tR.to bb
 replace z1 := z1.to bb
 refine hK.out _ _ ⟨hb, tA⟩ ?_
 clear hK K bb
 refine plan_take (v := ?_) rfl (by rfl) ?_ ?_; rotate_left; (focus (intro w' hS; go_simp; try with_reducible rfl))
 refine plan_call rfl (by rfl) (fun K hK => ?_)
 have rq : Qx _ _ _ _ _ n xs m ys := ⟨z1, z2⟩
 refine wp_store_q (by rfl) (by rfl) tR Fq.nil rq.fq (fun V u kp => ?_)
 replace tA := kp.four (by omega) tA
 replace hb := kp.bel _ _ hb (by omega)
 replace rq := kpQx kp rq
 refine hK.out _ _ ⟨hb, tA⟩ ?_
 clear hK K kp tR tA
 refine plan_done ?_
 have U0 := u.c0
 have U1 := u.c1
 have U2 := u.c2
 have U3 := u.c3
 have RZ := Hd rq
 have HE := Hd hb
 clear rq hb u
 go_wp2
 refine bodyPost_ret (v := .agg #[x1, y1, x2, y2]) (by simp [results, Tryz.f7, go_sem, U0, U1, U2, U3]) rfl ?_
 exact ⟨_, _, _, _, rfl, RZ.out, HE.out⟩
set_option maxRecDepth 100000 in
theorem is_x {w : World} {a1 a2 a3 a4 b1 b2 b3 b4 : Value} {n m : Bool} {xs ys : List Nat} (hA : Qx w a1 a2 a3 a4 n xs m ys) (hB : Qx w b1 b2 b3 b4 n xs m ys) :
  Calls Tryz.prog 10 #[.agg #[a1, a2, a3, a4], .agg #[b1, b2, b3, b4]] w (fun e w' => e = .returned (.bool true) /\ Below w.heap.size w w') := by
 obtain ⟨W0, hW0⟩ : ∃ W0, W0 = (w.alloc (.cells #[a1, a2, a3, a4] 26)).alloc (.cells #[b1, b2, b3, b4] 26) := ⟨_, rfl⟩
 have hbw : Below w.heap.size w W0 := by rw [hW0]; exact (((Below.refl _ _).alloc (Nat.le_refl _) _).alloc (by simp) _)
 have tA : Four W0 (w.heap.size) a1 a2 a3 a4 := by
  have h := Four.new w a1 a2 a3 a4 26
  rw [hW0]; exact (h.alloc _)
 have tB : Four W0 (w.heap.size + 1) b1 b2 b3 b4 := by
  have h := Four.new (w.alloc (.cells #[a1, a2, a3, a4] 26)) b1 b2 b3 b4 26
  rw [World.size_alloc] at h
  rw [hW0]; exact h
 replace hA := hA.to hbw
 replace hB := hB.to hbw
 have HW0 := Hd hW0
 have HB := Hd hbw
 clear hW0 hbw
 go_enter Tryz.func10, Tryz.ntmps10
 go_wp2_with fail
 rw [<- HW0.out]
 clear HW0
 have kktA0 := tA.c0
 have kktA1 := tA.c1
 have kktA2 := tA.c2
 have kktA3 := tA.c3
 have kktB0 := tB.c0
 have kktB1 := tB.c1
 have kktB2 := tB.c2
 have kktB3 := tB.c3
 go_wp2_with fail
 refine (same_x hA.1 hB.1).mono ?_
 rintro e V1 ⟨rfl, bb⟩
 clear kktA0 kktA1 kktA2 kktA3 kktB0 kktB1 kktB2 kktB3
 replace tA := tA.to bb
 replace tB := tB.to bb
 replace hA := hA.to bb
 replace hB := hB.to bb
 replace HB := hx HB bb
 clear bb
 have kktA0 := tA.c0
 have kktA1 := tA.c1
 have kktA2 := tA.c2
 have kktA3 := tA.c3
 have kktB0 := tB.c0
 have kktB1 := tB.c1
 have kktB2 := tB.c2
 have kktB3 := tB.c3
 go_wp2_with fail
 refine (same_x hA.2 hB.2).mono ?_
 rintro e V2 ⟨rfl, bb⟩
 clear kktA0 kktA1 kktA2 kktA3 kktB0 kktB1 kktB2 kktB3
 replace tA := tA.to bb
 replace tB := tB.to bb
 replace HB := hx HB bb
 clear bb
 clear tA tB
 go_wp2
 go_ret
 exact ⟨rfl, HB.out⟩
set_option maxRecDepth 100000 in
theorem rdiv_n {w : World} {a1 a2 a3 a4 b1 b2 b3 b4 : Value} {r s : Rat} {k l : Nat} (hA : Qi w a1 a2 a3 a4 r k) (hB : Qi w b1 b2 b3 b4 s l) (hk : 0 < k) (hl : 0 < l) (hkl : k + l + 1 <= 10000) (hs : s ≠ 0) :
  Calls Tryz.prog 9 #[.agg #[a1, a2, a3, a4], .agg #[b1, b2, b3, b4]] w (fun e w' => ∃ x1 x2 x3 x4, e = .returned (.tuple #[.agg #[x1, x2, x3, x4], .int .i64 0]) /\ Qc w' x1 x2 x3 x4 (r / s) /\ Below w.heap.size w w') := by
 obtain ⟨p, q, h1, h2, es, s1, s2⟩ := hB
 obtain ⟨v, ev⟩ : ∃ v, sgnQ s = v := ⟨_, rfl⟩
 have hv : (v == 0) = false := by rw [beq_eq_false_iff_ne, <- ev]; exact fun h => hs (sgnQ_zero.1 h)
 have HV := Hd ev
 have eI : Hid (rv (upD q) (upN p q) = s⁻¹) := by
  show _ = _
  have hN : upN p q ≠ 0 := fun h => hs (by rw [<- es, rv_up, h]; exact Rat.zero_divInt _)
  rw [<- es, rv_up p q, Rat.inv_divInt]; unfold rv; rw [if_neg hN]
 have mI : Hid (Qm l s⁻¹) := by
  show Qm _ _
  rw [<- es]; exact (Qm.rv s1 s2 hl).inv
 have sD : Hid (Sm l (upD q)) := s2.upD hl
 have sN : Hid (Sm l (upN p q)) := s1.upN q
 have ES := Hd es
 have HS1 := Hd s1
 have HS2 := Hd s2
 rw [Rat.div_def]
 clear es ev hs s1 s2
 obtain ⟨W0, hW0⟩ : ∃ W0, W0 = ((w.alloc (.cells #[a1, a2, a3, a4] 26)).alloc (.cells #[b1, b2, b3, b4] 26)).alloc (.cells #[.bool false, .slice none 0 0, .bool false, .slice none 0 0] 26) := ⟨_, rfl⟩
 have hbw : Below w.heap.size w W0 := by rw [hW0]; exact ((((Below.refl _ _).alloc (Nat.le_refl _) _).alloc (by simp) _).alloc (by simp; omega) _)
 have tA : Four W0 (w.heap.size) a1 a2 a3 a4 := by
  have h := Four.new w a1 a2 a3 a4 26
  rw [hW0]; exact ((h.alloc _).alloc _)
 have tB : Four W0 (w.heap.size + 1) b1 b2 b3 b4 := by
  have h := Four.new (w.alloc (.cells #[a1, a2, a3, a4] 26)) b1 b2 b3 b4 26
  rw [World.size_alloc] at h
  rw [hW0]; exact (h.alloc _)
 have tR : Four W0 (w.heap.size + 1 + 1) (.bool false) (.slice none 0 0) (.bool false) (.slice none 0 0) := by
  have h := Four.new ((w.alloc (.cells #[a1, a2, a3, a4] 26)).alloc (.cells #[b1, b2, b3, b4] 26)) (.bool false) (.slice none 0 0) (.bool false) (.slice none 0 0) 26
  rw [World.size_alloc, World.size_alloc] at h
  rw [hW0]; exact h
 replace hA := hA.to hbw
 replace h1 := h1.to hbw
 replace h2 := h2.to hbw
 have HW0 := Hd hW0
 have HB := Hd hbw
 clear hW0 hbw
 go_enter Tryz.func9, Tryz.ntmps9
 go_wp2_with fail
 rw [<- HW0.out]
 clear HW0
 have kktA0 := tA.c0
 have kktA1 := tA.c1
 have kktA2 := tA.c2
 have kktA3 := tA.c3
 have kktB0 := tB.c0
 have kktB1 := tB.c1
 have kktB2 := tB.c2
 have kktB3 := tB.c3
 go_wp2_with fail
 refine (rsign_q ⟨_, _, h1, h2, ES.out, HS1.out, HS2.out⟩ (by omega) HV.out).mono ?_
 rintro e V1 ⟨rfl, bb⟩
 clear kktA0 kktA1 kktA2 kktA3 kktB0 kktB1 kktB2 kktB3
 replace tA := tA.to bb
 replace tB := tB.to bb
 replace tR := tR.to bb
 replace hA := hA.to bb
 replace h1 := h1.to bb
 replace h2 := h2.to bb
 replace HB := hx HB bb
 clear bb
 go_wp2_with fail
 refine wp_region_plan (S := fun w' => Below w.heap.size w w' /\ Four w' (w.heap.size) a1 a2 a3 a4 /\ Four w' (w.heap.size + 1) b1 b2 b3 b4) [(0, true), (1, true), (3, true), (2, false), (4, false), (5, true), (6, false), (7, false), (8, false), (9, true)] (by kernel_rfl) (by kernel_rfl) ⟨HB.out.drew, tA.to (Below.refl _ _).drew, tB.to (Below.refl _ _).drew⟩ ?_
 have hb := HB.out.drew
 replace tA := tA.to (Below.refl _ _).drew
 replace tB := tB.to (Below.refl _ _).drew
 replace tR := tR.to (Below.refl _ _).drew
 replace hA := hA.to (Below.refl _ _).drew
 replace h1 := h1.to (Below.refl _ _).drew
 replace h2 := h2.to (Below.refl _ _).drew
 clear HB
 refine plan_take rfl (by rfl) (fun w' hS => load_four (by rfl) (hS.2.1)) ?_
 refine plan_take rfl (by rfl) (fun w' hS => load_four (by rfl) (hS.2.2)) ?_
 refine plan_take rfl (by rfl) (fun w' hS => load_four (by rfl) (hS.2.2)) ?_
 refine plan_call rfl (by rfl) (fun K hK => ?_)
 go_simp
 refine (rden_z h2).mono ?_
 rintro e V2 ⟨x2, y2, rfl, z2, bb⟩
 replace hb := bx hb bb
 replace tA := tA.to bb
 replace tB := tB.to bb
 replace tR := tR.to bb
 replace hA := hA.to bb
 replace h1 := h1.to bb
 replace h2 := h2.to bb
 refine hK.out _ _ ⟨hb, tA, tB⟩ ?_
 clear hK K bb
 refine plan_call rfl (by rfl) (fun K hK => ?_)
 go_simp
 refine (rnum_z h1 h2).mono ?_
 rintro e V3 ⟨x3, y3, rfl, z3, bb⟩
 replace hb := bx hb bb
 replace tA := tA.to bb
 replace tB := tB.to bb
 replace tR := tR.to bb
 replace hA := hA.to bb
 replace z2 := z2.to bb
 refine hK.out _ _ ⟨hb, tA, tB⟩ ?_
 clear hK K bb
 refine plan_take (v := ?_) rfl (by rfl) ?_ ?_; rotate_left; (focus (intro w' hS; go_simp; try with_reducible rfl))
 refine plan_call rfl (by rfl) (fun K hK => ?_)
 go_simp
 refine (rleast_q ⟨_, _, z2.zl sD.out (by omega), z3.zl sN.out (by omega), eI.out, sD.out, sN.out⟩ hl (by omega)).mono ?_
 rintro e V4 ⟨x4, y4, u4, v4, rfl, q4, bb⟩
 replace hb := bx hb bb
 replace tA := tA.to bb
 replace tB := tB.to bb
 replace tR := tR.to bb
 replace hA := hA.to bb
 refine hK.out _ _ ⟨hb, tA, tB⟩ ?_
 clear hK K bb
 refine plan_call rfl (by rfl) (fun K hK => ?_)
 go_simp
 refine (rmul_q hA (q4.qi mI.out (by omega)) hk hl hkl).mono ?_
 rintro e V5 ⟨x5, y5, u5, v5, rfl, q5, bb⟩
 replace hb := bx hb bb
 replace tA := tA.to bb
 replace tB := tB.to bb
 replace tR := tR.to bb
 refine hK.out _ _ ⟨hb, tA, tB⟩ ?_
 clear hK K bb
 refine plan_call rfl (by rfl) (fun K hK => ?_)
 refine wp_store_q (by rfl) (by rfl) tR Fq.nil q5.fq (fun V u kp => ?_)
 replace tA := kp.four (by omega) tA
 replace tB := kp.four (by omega) tB
 replace hb := kp.bel _ _ hb (by omega)
 replace q5 := kp.qc q5
 refine hK.out _ _ ⟨hb, tA, tB⟩ ?_
 clear hK K kp tR tA tB
 refine plan_take (v := ?_) rfl (by rfl) ?_ ?_; rotate_left; (focus (intro w' hS; go_simp; try with_reducible rfl))
 refine plan_done ?_
 have U0 := u.c0
 have U1 := u.c1
 have U2 := u.c2
 have U3 := u.c3
 have RZ := Hd q5
 have HE := Hd hb
 obtain ⟨⟨n1, A1, j1, m1, rfl, rfl⟩, ⟨n2, A2, j2, m2, rfl, rfl⟩⟩ := q5.fq
 clear q5 hb u
 go_wp2
 refine bodyPost_ret (v := .tuple #[.agg #[.bool n1, .slice A1 j1 m1, .bool n2, .slice A2 j2 m2], .int .i64 0]) (by simp [results, Tryz.f9, go_sem, U0, U1, U2, U3]) rfl ?_
 exact ⟨_, _, _, _, rfl, RZ.out, HE.out⟩
set_option maxRecDepth 100000 in
theorem rdiv_0 {w : World} {a1 a2 a3 a4 b1 b2 b3 b4 : Value} {s : Rat} {l : Nat} (hB : Qi w b1 b2 b3 b4 s l) (hl2 : l <= 10000) (hs : s = 0) :
  Calls Tryz.prog 9 #[.agg #[a1, a2, a3, a4], .agg #[b1, b2, b3, b4]] w (fun e w' => e = .returned (.tuple #[.agg #[.bool false, .slice none 0 0, .bool false, .slice none 0 0], .int .i64 7]) /\ Below w.heap.size w w') := by
 have HS : Hid (sgnQ s = 0) := sgnQ_zero.2 hs
 clear hs
 obtain ⟨W0, hW0⟩ : ∃ W0, W0 = ((w.alloc (.cells #[a1, a2, a3, a4] 26)).alloc (.cells #[b1, b2, b3, b4] 26)).alloc (.cells #[.bool false, .slice none 0 0, .bool false, .slice none 0 0] 26) := ⟨_, rfl⟩
 have hbw : Below w.heap.size w W0 := by rw [hW0]; exact ((((Below.refl _ _).alloc (Nat.le_refl _) _).alloc (by simp) _).alloc (by simp; omega) _)
 have tA : Four W0 (w.heap.size) a1 a2 a3 a4 := by
  have h := Four.new w a1 a2 a3 a4 26
  rw [hW0]; exact ((h.alloc _).alloc _)
 have tB : Four W0 (w.heap.size + 1) b1 b2 b3 b4 := by
  have h := Four.new (w.alloc (.cells #[a1, a2, a3, a4] 26)) b1 b2 b3 b4 26
  rw [World.size_alloc] at h
  rw [hW0]; exact (h.alloc _)
 have tR : Four W0 (w.heap.size + 1 + 1) (.bool false) (.slice none 0 0) (.bool false) (.slice none 0 0) := by
  have h := Four.new ((w.alloc (.cells #[a1, a2, a3, a4] 26)).alloc (.cells #[b1, b2, b3, b4] 26)) (.bool false) (.slice none 0 0) (.bool false) (.slice none 0 0) 26
  rw [World.size_alloc, World.size_alloc] at h
  rw [hW0]; exact h
 replace hB := hB.to hbw
 have HW0 := Hd hW0
 have HB := Hd hbw
 clear hW0 hbw
 go_enter Tryz.func9, Tryz.ntmps9
 go_wp2_with fail
 rw [<- HW0.out]
 clear HW0
 have kktA0 := tA.c0
 have kktA1 := tA.c1
 have kktA2 := tA.c2
 have kktA3 := tA.c3
 have kktB0 := tB.c0
 have kktB1 := tB.c1
 have kktB2 := tB.c2
 have kktB3 := tB.c3
 go_wp2_with fail
 refine (rsign_q hB hl2 HS.out).mono ?_
 rintro e V1 ⟨rfl, bb⟩
 clear kktA0 kktA1 kktA2 kktA3 kktB0 kktB1 kktB2 kktB3
 replace tA := tA.to bb
 replace tB := tB.to bb
 replace tR := tR.to bb
 replace HB := hx HB bb
 clear bb
 clear tA tB
 obtain ⟨V99, eV, u, kp⟩ := pack4 tR Fq.nil (.bool false) (.slice none 0 0) (.bool false) (.slice none 0 0)
 obtain ⟨v0, v1, v2, v3, v4, v5, v6, v7, _⟩ := tR
 have EV := Hd eV
 have KP := Hd kp
 have U := Hd u
 clear eV kp u
 go_wp2
 rw [EV.out]
 refine bodyPost_ret (v := .tuple #[.agg #[.bool false, .slice none 0 0, .bool false, .slice none 0 0], .int .i64 7]) (by simp [results, Tryz.f9, go_sem, U.out.c0, U.out.c1, U.out.c2, U.out.c3]) rfl ?_
 exact ⟨rfl, KP.out.bel _ _ HB.out (by omega)⟩
def errD (s : Rat) : Int := if s = 0 then 7 else 0
def QE (w : World) (r : Rat) (v : Int) (e : Ending) (w' : World) : Prop := ∃ x1 x2 x3 x4, e = .returned (.tuple #[.agg #[x1, x2, x3, x4], .int .i64 v]) /\ Qc w' x1 x2 x3 x4 r /\ Below w.heap.size w w'
theorem qc_zero (W : World) {r : Rat} (h : r = 0) : Qc W (.bool false) (.slice none 0 0) (.bool false) (.slice none 0 0) r := by
 subst h
 exact ⟨zc_nil _, zc_nil _⟩
theorem div_zero' (r : Rat) : r / 0 = 0 := by rw [Rat.div_def, Rat.inv_zero, Rat.mul_zero]
theorem rdiv_q {w : World} {a1 a2 a3 a4 b1 b2 b3 b4 : Value} {r s : Rat} {k l : Nat} (hA : Qi w a1 a2 a3 a4 r k) (hB : Qi w b1 b2 b3 b4 s l) (hk : 0 < k) (hl : 0 < l) (hkl : k + l + 1 <= 10000) {v : Int} (hv : errD s = v) : Calls Tryz.prog 9 #[.agg #[a1, a2, a3, a4], .agg #[b1, b2, b3, b4]] w (QE w (r / s) v) := by
 subst hv
 unfold errD
 by_cases h : s = 0
 ·rw [if_pos h]
  refine (rdiv_0 hB (by omega) h).mono ?_
  rintro e w' ⟨rfl, hb⟩
  exact ⟨_, _, _, _, rfl, qc_zero _ (by rw [h]; exact div_zero' r), hb⟩
 ·rw [if_neg h]
  exact rdiv_n hA hB hk hl hkl h
theorem div_e {w : World} {a1 a2 a3 a4 b1 b2 b3 b4 : Value} {r s : Rat} {k l : Nat} (hA : Qi w a1 a2 a3 a4 r k) (hB : Qi w b1 b2 b3 b4 s l) (hk : 0 < k) (hl : 0 < l) (hkl : k + l + 1 <= 10000) {v : Int} (hv : errD s = v) : Calls Tryz.prog 8 #[.agg #[a1, a2, a3, a4], .agg #[b1, b2, b3, b4]] w (QE w (r / s) v) := by
 subst hv
 unfold errD
 by_cases h : s = 0
 ·rw [if_pos h]
  refine (div_0 hB h).mono ?_
  rintro e w' ⟨rfl, hb⟩
  exact ⟨_, _, _, _, rfl, qc_zero _ (by rw [h]; exact div_zero' r), hb⟩
 ·rw [if_neg h]
  exact div_q hA hB hk hl hkl h
end Go.Proofs.YtbmnloelimmgiaaGreat
