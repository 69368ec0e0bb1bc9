/- Parts: 4. -/
import Derived.Test.YtcgdbdhhoomgiaaGreatVm19
import Derived.Test.YtcgdbdhhoomgiaaGreatVm21
set_option linter.unusedVariables false
set_option linter.unusedSimpArgs false
set_option maxRecDepth 100000
set_option maxHeartbeats 40000000

namespace Go.Proofs.YtcgdbdhhoomgiaaGreat
open Go.RowKit Go.Shelf
set_option maxRecDepth 100000 in
theorem rsub_q {w : World} {a1 a2 a3 a4 b1 b2 b3 b4 : Value} {r s : Rat} {k l : Nat} (hA : Qi w a1 a2 a3 a4 r k) (hB : Qi w b1 b2 b3 b4 s l) (hk : 0 < k) (hl : 0 < l) (hkl : k + l + 1 <= 10000) :
  Calls Tryz.prog 82 #[.agg #[a1, a2, a3, a4], .agg #[b1, b2, b3, b4]] w (QR w (r - s)) := by
 have mB := (hB.qm hl).neg
 rw [Rat.sub_eq_add_neg]
 obtain ⟨W0, hW0⟩ : ∃ W0, W0 = ((w.alloc (.cells #[a1, a2, a3, a4] 26)).alloc (.cells #[b1, b2, b3, b4] 26)).alloc (.cells #[.bool false, .slice none 0 0, .bool false, .slice none 0 0] 26) := ⟨_, rfl⟩
 have hbw : Below w.heap.size w W0 := by rw [hW0]; exact ((((Below.refl _ _).alloc (Nat.le_refl _) _).alloc (by simp) _).alloc (by simp; omega) _)
 have tA : Four W0 (w.heap.size) a1 a2 a3 a4 := by
  have h := Four.new w a1 a2 a3 a4 26
  rw [hW0]; exact ((h.alloc _).alloc _)
 have tB : Four W0 (w.heap.size + 1) b1 b2 b3 b4 := by
  have h := Four.new (w.alloc (.cells #[a1, a2, a3, a4] 26)) b1 b2 b3 b4 26
  rw [World.size_alloc] at h
  rw [hW0]; exact (h.alloc _)
 have tR : Four W0 (w.heap.size + 1 + 1) (.bool false) (.slice none 0 0) (.bool false) (.slice none 0 0) := by
  have h := Four.new ((w.alloc (.cells #[a1, a2, a3, a4] 26)).alloc (.cells #[b1, b2, b3, b4] 26)) (.bool false) (.slice none 0 0) (.bool false) (.slice none 0 0) 26
  rw [World.size_alloc, World.size_alloc] at h
  rw [hW0]; exact h
 replace hA := hA.to hbw
 replace hB := hB.to hbw
 have HW0 := Hd hW0
 have HB := Hd hbw
 clear hW0 hbw
 go_enter Tryz.func82, Tryz.ntmps82
 go_wp2_with fail
 rw [<- HW0.out]
 clear HW0
 refine wp_region_plan (S := fun w' => Below w.heap.size w w' /\ Four w' (w.heap.size) a1 a2 a3 a4 /\ Four w' (w.heap.size + 1) b1 b2 b3 b4) [(0, true), (1, true), (2, false), (3, false), (4, false)] (by kernel_rfl) (by kernel_rfl) ⟨HB.out.drew, tA.to (Below.refl _ _).drew, tB.to (Below.refl _ _).drew⟩ ?_
 have hb := HB.out.drew
 replace tA := tA.to (Below.refl _ _).drew
 replace tB := tB.to (Below.refl _ _).drew
 replace tR := tR.to (Below.refl _ _).drew
 replace hA := hA.to (Below.refl _ _).drew
 replace hB := hB.to (Below.refl _ _).drew
 clear HB
 refine plan_take rfl (by rfl) (fun w' hS => load_four (by rfl) (hS.2.1)) ?_
 refine plan_take rfl (by rfl) (fun w' hS => load_four (by rfl) (hS.2.2)) ?_
 refine plan_call rfl (by rfl) (fun K hK => ?_)
 go_simp
 refine (rneg_q hB hl (by omega)).mono ?_
 rintro e V1 ⟨x1, y1, u1, v1, rfl, q1, bb⟩
 replace hb := bx hb bb
 replace tA := tA.to bb
 replace tB := tB.to bb
 replace tR := tR.to bb
 replace hA := hA.to bb
 refine hK.out _ _ ⟨hb, tA, tB⟩ ?_
 clear hK K bb
 refine plan_call rfl (by rfl) (fun K hK => ?_)
 go_simp
 refine (radd_q hA (q1.qi mB (by omega)) hk hl hkl).mono ?_
 rintro e V2 ⟨x2, y2, u2, v2, rfl, q2, bb⟩
 replace hb := bx hb bb
 replace tA := tA.to bb
 replace tB := tB.to bb
 replace tR := tR.to bb
 refine hK.out _ _ ⟨hb, tA, tB⟩ ?_
 clear hK K bb
 refine plan_call rfl (by rfl) (fun K hK => ?_)
 refine wp_store_q (by rfl) (by rfl) tR Fq.nil q2.fq (fun V u kp => ?_)
 replace tA := kp.four (by omega) tA
 replace tB := kp.four (by omega) tB
 replace hb := kp.bel _ _ hb (by omega)
 replace q2 := kp.qc q2
 refine hK.out _ _ ⟨hb, tA, tB⟩ ?_
 clear hK K kp tR tA tB
 refine plan_done ?_
 have U0 := u.c0
 have U1 := u.c1
 have U2 := u.c2
 have U3 := u.c3
 have RZ := Hd q2
 have HE := Hd hb
 obtain ⟨⟨n1, A1, j1, m1, rfl, rfl⟩, ⟨n2, A2, j2, m2, rfl, rfl⟩⟩ := q2.fq
 clear q2 hb u
 go_wp2
 refine bodyPost_ret (v := .agg #[.bool n1, .slice A1 j1 m1, .bool n2, .slice A2 j2 m2]) (by simp [results, Tryz.f82, go_sem, U0, U1, U2, U3]) rfl ?_
 exact ⟨_, _, _, _, rfl, RZ.out, HE.out⟩
set_option maxRecDepth 100000 in
theorem rsign_q {w : World} {a1 a2 a3 a4 : Value} {r : Rat} {k : Nat} (hA : Qi w a1 a2 a3 a4 r k) (hk2 : k <= 10000) {v : Int} (hv : sgnQ r = v) :
  Calls Tryz.prog 81 #[.agg #[a1, a2, a3, a4]] w (fun e w' => e = .returned (.int .i64 v) /\ Below w.heap.size w w') := by
 obtain ⟨p, q, h1, h2, rfl, s1, s2⟩ := hA
 have sN : Hid (Sg (upN p q)) := (s1.upN q).sg hk2
 rw [sgn_up] at hv
 have HV := Hd hv
 clear s1 s2 hk2 hv
 obtain ⟨W0, hW0⟩ : ∃ W0, W0 = w.alloc (.cells #[a1, a2, a3, a4] 26) := ⟨_, rfl⟩
 have hbw : Below w.heap.size w W0 := by rw [hW0]; exact ((Below.refl _ _).alloc (Nat.le_refl _) _)
 have tA : Four W0 (w.heap.size) a1 a2 a3 a4 := by
  have h := Four.new w a1 a2 a3 a4 26
  rw [hW0]; exact h
 replace h1 := h1.to hbw
 replace h2 := h2.to hbw
 have HW0 := Hd hW0
 have HB := Hd hbw
 clear hW0 hbw
 go_enter Tryz.func81, Tryz.ntmps81
 go_wp2_with fail
 rw [<- HW0.out]
 clear HW0
 have kktA0 := tA.c0
 have kktA1 := tA.c1
 have kktA2 := tA.c2
 have kktA3 := tA.c3
 go_wp2_with fail
 refine (rnum_z h1 h2).mono ?_
 rintro e V1 ⟨x1, y1, rfl, z1, bb⟩
 clear kktA0 kktA1 kktA2 kktA3
 replace tA := tA.to bb
 replace HB := hx HB bb
 clear bb
 have kktA0 := tA.c0
 have kktA1 := tA.c1
 have kktA2 := tA.c2
 have kktA3 := tA.c3
 go_wp2_with fail
 refine (rsign_v (z1.zs sN.out) HV.out).mono ?_
 rintro e V2 ⟨rfl, bb⟩
 clear kktA0 kktA1 kktA2 kktA3
 replace tA := tA.to bb
 replace HB := hx HB bb
 clear bb
 clear tA
 go_wp2
 go_ret
 exact ⟨rfl, HB.out⟩
set_option maxRecDepth 100000 in
theorem rcmp_q {w : World} {a1 a2 a3 a4 b1 b2 b3 b4 : Value} {r s : Rat} {k l : Nat} (hA : Qi w a1 a2 a3 a4 r k) (hB : Qi w b1 b2 b3 b4 s l) (hk : 0 < k) (hl : 0 < l) (hkl : k + l + 1 <= 10000) {v : Int} (hv : cmpQ r s = v) :
  Calls Tryz.prog 61 #[.agg #[a1, a2, a3, a4], .agg #[b1, b2, b3, b4]] w (fun e w' => e = .returned (.int .i64 v) /\ Below w.heap.size w w') := by
 have m := (hA.qm hk).sub (hB.qm hl)
 rw [<- sgn_sub] at hv
 have HV := Hd hv
 clear hv
 obtain ⟨W0, hW0⟩ : ∃ W0, W0 = (w.alloc (.cells #[a1, a2, a3, a4] 26)).alloc (.cells #[b1, b2, b3, b4] 26) := ⟨_, rfl⟩
 have hbw : Below w.heap.size w W0 := by rw [hW0]; exact (((Below.refl _ _).alloc (Nat.le_refl _) _).alloc (by simp) _)
 have tA : Four W0 (w.heap.size) a1 a2 a3 a4 := by
  have h := Four.new w a1 a2 a3 a4 26
  rw [hW0]; exact (h.alloc _)
 have tB : Four W0 (w.heap.size + 1) b1 b2 b3 b4 := by
  have h := Four.new (w.alloc (.cells #[a1, a2, a3, a4] 26)) b1 b2 b3 b4 26
  rw [World.size_alloc] at h
  rw [hW0]; exact h
 replace hA := hA.to hbw
 replace hB := hB.to hbw
 have HW0 := Hd hW0
 have HB := Hd hbw
 clear hW0 hbw
 go_enter Tryz.func61, Tryz.ntmps61
 go_wp2_with fail
 rw [<- HW0.out]
 clear HW0
 have kktA0 := tA.c0
 have kktA1 := tA.c1
 have kktA2 := tA.c2
 have kktA3 := tA.c3
 have kktB0 := tB.c0
 have kktB1 := tB.c1
 have kktB2 := tB.c2
 have kktB3 := tB.c3
 go_wp2_with fail
 refine (rsub_q hA hB hk hl hkl).mono ?_
 rintro e V1 ⟨x1, y1, u1, v1, rfl, q1, bb⟩
 clear kktA0 kktA1 kktA2 kktA3 kktB0 kktB1 kktB2 kktB3
 replace tA := tA.to bb
 replace tB := tB.to bb
 replace HB := hx HB bb
 clear bb
 have kktA0 := tA.c0
 have kktA1 := tA.c1
 have kktA2 := tA.c2
 have kktA3 := tA.c3
 have kktB0 := tB.c0
 have kktB1 := tB.c1
 have kktB2 := tB.c2
 have kktB3 := tB.c3
 go_wp2_with fail
 refine (rsign_q (q1.qi m hkl) hkl HV.out).mono ?_
 rintro e V2 ⟨rfl, bb⟩
 clear kktA0 kktA1 kktA2 kktA3 kktB0 kktB1 kktB2 kktB3
 replace tA := tA.to bb
 replace tB := tB.to bb
 replace HB := hx HB bb
 clear bb
 clear tA tB
 go_wp2
 go_ret
 exact ⟨rfl, HB.out⟩
set_option maxRecDepth 100000 in
theorem rint_q (n : Int) (n1 : -9223372036854775808 <= n) (n2 : n <= 9223372036854775807) (w : World) :
  Calls Tryz.prog 39 #[.int .i64 n] w (QR w (n : Rat)) := by
 have HN := Hd fun W => rfrom_z n n1 n2 W
 clear n1 n2
 obtain ⟨W0, hW0⟩ : ∃ W0, W0 = w.alloc (.cells #[.bool false, .slice none 0 0, .bool false, .slice none 0 0] 26) := ⟨_, rfl⟩
 have hbw : Below w.heap.size w W0 := by rw [hW0]; exact ((Below.refl _ _).alloc (Nat.le_refl _) _)
 have tR : Four W0 (w.heap.size) (.bool false) (.slice none 0 0) (.bool false) (.slice none 0 0) := by
  have h := Four.new w (.bool false) (.slice none 0 0) (.bool false) (.slice none 0 0) 26
  rw [hW0]; exact h
 have HW0 := Hd hW0
 have HB := Hd hbw
 clear hW0 hbw
 go_enter Tryz.func39, Tryz.ntmps39
 go_wp2_with fail
 rw [<- HW0.out]
 clear HW0
 go_wp2_with fail
 refine (HN.out _).mono ?_
 rintro e V1 ⟨x1, y1, rfl, z1, bb⟩
 replace tR := tR.to bb
 replace HB := hx HB bb
 clear bb
 have rq : Qc _ x1 y1 (.bool false) (.slice none 0 0) (n : Rat) := ⟨z1, zc_nil _⟩
 have RZ := Hd rq
 obtain ⟨V99, eV, u, kp⟩ := pack4 tR Fq.nil x1 y1 (.bool false) (.slice none 0 0)
 obtain ⟨n1, A1, j1, m1, rfl, rfl⟩ := rq.fq.1
 obtain ⟨v0, v1, v2, v3, v4, v5, v6, v7, _⟩ := tR
 have EV := Hd eV
 have KP := Hd kp
 have U := Hd u
 clear eV kp u rq
 go_wp2
 rw [EV.out]
 refine bodyPost_ret (v := .agg #[.bool n1, .slice A1 j1 m1, .bool false, .slice none 0 0]) (by simp [results, Tryz.f39, go_sem, U.out.c0, U.out.c1, U.out.c2, U.out.c3]) rfl ?_
 exact ⟨_, _, _, _, rfl, RZ.out.k4 KP.out, KP.out.bel _ _ HB.out (by omega)⟩
set_option maxRecDepth 100000 in
theorem rof_q (n d : Int) (n1 : -9223372036854775808 <= n) (n2 : n <= 9223372036854775807) (d1 : -9223372036854775808 <= d) (d2 : d <= 9223372036854775807) (w : World) :
  Calls Tryz.prog 46 #[.int .i64 n, .int .i64 d] w (QR w (rv n d)) := by
 have HN := Hd fun W => rfrom_z n n1 n2 W
 have HD := Hd fun W => rfrom_z d d1 d2 W
 have s2 : ∀ v : Int, -9223372036854775808 <= v -> v <= 9223372036854775807 -> Sm 2 v := fun v h1 h2 => by
  unfold Sm
  rw [show b32 ^ 2 = 18446744073709551616 from by decide]
  omega
 have mn : Hid (Sm 2 n) := s2 n n1 n2
 have md : Hid (Sm 2 d) := s2 d d1 d2
 clear n1 n2 d1 d2 s2
 obtain ⟨W0, hW0⟩ : ∃ W0, W0 = w.alloc (.cells #[.bool false, .slice none 0 0, .bool false, .slice none 0 0] 26) := ⟨_, rfl⟩
 have hbw : Below w.heap.size w W0 := by rw [hW0]; exact ((Below.refl _ _).alloc (Nat.le_refl _) _)
 have tR : Four W0 (w.heap.size) (.bool false) (.slice none 0 0) (.bool false) (.slice none 0 0) := by
  have h := Four.new w (.bool false) (.slice none 0 0) (.bool false) (.slice none 0 0) 26
  rw [hW0]; exact h
 have HW0 := Hd hW0
 have HB := Hd hbw
 clear hW0 hbw
 go_enter Tryz.func46, Tryz.ntmps46
 go_wp2_with fail
 rw [<- HW0.out]
 clear HW0
 go_wp2_with fail
 refine (HN.out _).mono ?_
 rintro e V1 ⟨x1, y1, rfl, z1, bb⟩
 replace tR := tR.to bb
 replace HB := hx HB bb
 clear bb
 go_wp2_with fail
 refine (HD.out _).mono ?_
 rintro e V2 ⟨x2, y2, rfl, z2, bb⟩
 replace tR := tR.to bb
 replace z1 := z1.to bb
 replace HB := hx HB bb
 clear bb
 go_wp2_with fail
 refine (rleast_q (k := 2) ⟨_, _, z1.zl mn.out (by decide), z2.zl md.out (by decide), rfl, mn.out, md.out⟩ (by decide) (by decide)).mono ?_
 rintro e V3 ⟨x3, y3, u3, v3, rfl, q3, bb⟩
 replace tR := tR.to bb
 replace HB := hx HB bb
 clear bb
 have RZ := Hd q3
 obtain ⟨V99, eV, u, kp⟩ := pack4 tR Fq.nil x3 y3 u3 v3
 obtain ⟨⟨n1, A1, j1, m1, rfl, rfl⟩, ⟨n2, A2, j2, m2, rfl, rfl⟩⟩ := q3.fq
 obtain ⟨v0, v1, v2, v3, v4, v5, v6, v7, _⟩ := tR
 have EV := Hd eV
 have KP := Hd kp
 have U := Hd u
 clear eV kp u q3
 go_wp2
 rw [EV.out]
 refine bodyPost_ret (v := .agg #[.bool n1, .slice A1 j1 m1, .bool n2, .slice A2 j2 m2]) (by simp [results, Tryz.f46, go_sem, U.out.c0, U.out.c1, U.out.c2, U.out.c3]) rfl ?_
 exact ⟨_, _, _, _, rfl, RZ.out.k4 KP.out, KP.out.bel _ _ HB.out (by omega)⟩
theorem Zc.same {w : World} {x y x' y' : Value} {a b : Int} (ha : Zc w x y a) (hb : Zc w x' y' b) {v : Bool} (hv : decide (a = b) = v) : Calls Tryz.prog 57 #[.agg #[x, y], .agg #[x', y']] w fun e w' => e = .returned (.bool v) /\ Below w.heap.size w w' := by
 subst hv; exact same_c ha hb
theorem den_cell {r s : Rat} (h : r ≠ s) (hn : r.num = s.num) : (if r.den = 1 then 0 else (r.den : Int)) ≠ (if s.den = 1 then 0 else (s.den : Int)) := by
 intro h2
 apply h
 refine Rat.ext hn ?_
 have h3 := r.den_pos
 have h4 := s.den_pos
 split at h2 <;> split at h2 <;> omega
set_option maxRecDepth 100000 in
theorem is_t {w : World} {a1 a2 a3 a4 b1 b2 b3 b4 : Value} {r s : Rat} (hA : Qc w a1 a2 a3 a4 r) (hB : Qc w b1 b2 b3 b4 s) (h : r = s) :
  Calls Tryz.prog 22 #[.agg #[a1, a2, a3, a4], .agg #[b1, b2, b3, b4]] w (fun e w' => e = .returned (.bool true) /\ Below w.heap.size w w') := by
 have e1 : Hid (decide (r.num = s.num) = true) := decide_eq_true (by rw [h])
 have e2 : Hid (decide ((if r.den = 1 then 0 else (r.den : Int)) = (if s.den = 1 then 0 else (s.den : Int))) = true) := decide_eq_true (by rw [h])
 clear h
 obtain ⟨W0, hW0⟩ : ∃ W0, W0 = (w.alloc (.cells #[a1, a2, a3, a4] 26)).alloc (.cells #[b1, b2, b3, b4] 26) := ⟨_, rfl⟩
 have hbw : Below w.heap.size w W0 := by rw [hW0]; exact (((Below.refl _ _).alloc (Nat.le_refl _) _).alloc (by simp) _)
 have tA : Four W0 (w.heap.size) a1 a2 a3 a4 := by
  have h := Four.new w a1 a2 a3 a4 26
  rw [hW0]; exact (h.alloc _)
 have tB : Four W0 (w.heap.size + 1) b1 b2 b3 b4 := by
  have h := Four.new (w.alloc (.cells #[a1, a2, a3, a4] 26)) b1 b2 b3 b4 26
  rw [World.size_alloc] at h
  rw [hW0]; exact h
 replace hA := hA.to hbw
 replace hB := hB.to hbw
 have HW0 := Hd hW0
 have HB := Hd hbw
 clear hW0 hbw
 go_enter Tryz.func22, Tryz.ntmps22
 go_wp2_with fail
 rw [<- HW0.out]
 clear HW0
 have kktA0 := tA.c0
 have kktA1 := tA.c1
 have kktA2 := tA.c2
 have kktA3 := tA.c3
 have kktB0 := tB.c0
 have kktB1 := tB.c1
 have kktB2 := tB.c2
 have kktB3 := tB.c3
 go_wp2_with fail
 refine (hA.1.same hB.1 e1.out).mono ?_
 rintro e V1 ⟨rfl, bb⟩
 clear kktA0 kktA1 kktA2 kktA3 kktB0 kktB1 kktB2 kktB3
 replace tA := tA.to bb
 replace tB := tB.to bb
 replace hA := hA.to bb
 replace hB := hB.to bb
 replace HB := hx HB bb
 clear bb
 have kktA0 := tA.c0
 have kktA1 := tA.c1
 have kktA2 := tA.c2
 have kktA3 := tA.c3
 have kktB0 := tB.c0
 have kktB1 := tB.c1
 have kktB2 := tB.c2
 have kktB3 := tB.c3
 go_wp2_with fail
 refine (hA.2.same hB.2 e2.out).mono ?_
 rintro e V2 ⟨rfl, bb⟩
 clear kktA0 kktA1 kktA2 kktA3 kktB0 kktB1 kktB2 kktB3
 replace tA := tA.to bb
 replace tB := tB.to bb
 replace HB := hx HB bb
 clear bb
 clear tA tB
 go_wp2
 go_ret
 exact ⟨rfl, HB.out⟩
set_option maxRecDepth 100000 in
theorem is_n {w : World} {a1 a2 a3 a4 b1 b2 b3 b4 : Value} {r s : Rat} (hA : Qc w a1 a2 a3 a4 r) (hB : Qc w b1 b2 b3 b4 s) (h : r.num ≠ s.num) :
  Calls Tryz.prog 22 #[.agg #[a1, a2, a3, a4], .agg #[b1, b2, b3, b4]] w (fun e w' => e = .returned (.bool false) /\ Below w.heap.size w w') := by
 have e1 : Hid (decide (r.num = s.num) = false) := decide_eq_false h
 clear h
 obtain ⟨W0, hW0⟩ : ∃ W0, W0 = (w.alloc (.cells #[a1, a2, a3, a4] 26)).alloc (.cells #[b1, b2, b3, b4] 26) := ⟨_, rfl⟩
 have hbw : Below w.heap.size w W0 := by rw [hW0]; exact (((Below.refl _ _).alloc (Nat.le_refl _) _).alloc (by simp) _)
 have tA : Four W0 (w.heap.size) a1 a2 a3 a4 := by
  have h := Four.new w a1 a2 a3 a4 26
  rw [hW0]; exact (h.alloc _)
 have tB : Four W0 (w.heap.size + 1) b1 b2 b3 b4 := by
  have h := Four.new (w.alloc (.cells #[a1, a2, a3, a4] 26)) b1 b2 b3 b4 26
  rw [World.size_alloc] at h
  rw [hW0]; exact h
 replace hA := hA.to hbw
 replace hB := hB.to hbw
 have HW0 := Hd hW0
 have HB := Hd hbw
 clear hW0 hbw
 go_enter Tryz.func22, Tryz.ntmps22
 go_wp2_with fail
 rw [<- HW0.out]
 clear HW0
 have kktA0 := tA.c0
 have kktA1 := tA.c1
 have kktA2 := tA.c2
 have kktA3 := tA.c3
 have kktB0 := tB.c0
 have kktB1 := tB.c1
 have kktB2 := tB.c2
 have kktB3 := tB.c3
 go_wp2_with fail
 refine (hA.1.same hB.1 e1.out).mono ?_
 rintro e V1 ⟨rfl, bb⟩
 clear kktA0 kktA1 kktA2 kktA3 kktB0 kktB1 kktB2 kktB3
 replace tA := tA.to bb
 replace tB := tB.to bb
 replace hA := hA.to bb
 replace hB := hB.to bb
 replace HB := hx HB bb
 clear bb
 clear tA tB
 go_wp2
 go_ret
 exact ⟨rfl, HB.out⟩
set_option maxRecDepth 100000 in
theorem is_d {w : World} {a1 a2 a3 a4 b1 b2 b3 b4 : Value} {r s : Rat} (hA : Qc w a1 a2 a3 a4 r) (hB : Qc w b1 b2 b3 b4 s) (h : r ≠ s) (hn : r.num = s.num) :
  Calls Tryz.prog 22 #[.agg #[a1, a2, a3, a4], .agg #[b1, b2, b3, b4]] w (fun e w' => e = .returned (.bool false) /\ Below w.heap.size w w') := by
 have e1 : Hid (decide (r.num = s.num) = true) := decide_eq_true hn
 have e2 : Hid (decide ((if r.den = 1 then 0 else (r.den : Int)) = (if s.den = 1 then 0 else (s.den : Int))) = false) := decide_eq_false (den_cell h hn)
 clear h hn
 obtain ⟨W0, hW0⟩ : ∃ W0, W0 = (w.alloc (.cells #[a1, a2, a3, a4] 26)).alloc (.cells #[b1, b2, b3, b4] 26) := ⟨_, rfl⟩
 have hbw : Below w.heap.size w W0 := by rw [hW0]; exact (((Below.refl _ _).alloc (Nat.le_refl _) _).alloc (by simp) _)
 have tA : Four W0 (w.heap.size) a1 a2 a3 a4 := by
  have h := Four.new w a1 a2 a3 a4 26
  rw [hW0]; exact (h.alloc _)
 have tB : Four W0 (w.heap.size + 1) b1 b2 b3 b4 := by
  have h := Four.new (w.alloc (.cells #[a1, a2, a3, a4] 26)) b1 b2 b3 b4 26
  rw [World.size_alloc] at h
  rw [hW0]; exact h
 replace hA := hA.to hbw
 replace hB := hB.to hbw
 have HW0 := Hd hW0
 have HB := Hd hbw
 clear hW0 hbw
 go_enter Tryz.func22, Tryz.ntmps22
 go_wp2_with fail
 rw [<- HW0.out]
 clear HW0
 have kktA0 := tA.c0
 have kktA1 := tA.c1
 have kktA2 := tA.c2
 have kktA3 := tA.c3
 have kktB0 := tB.c0
 have kktB1 := tB.c1
 have kktB2 := tB.c2
 have kktB3 := tB.c3
 go_wp2_with fail
 refine (hA.1.same hB.1 e1.out).mono ?_
 rintro e V1 ⟨rfl, bb⟩
 clear kktA0 kktA1 kktA2 kktA3 kktB0 kktB1 kktB2 kktB3
 replace tA := tA.to bb
 replace tB := tB.to bb
 replace hA := hA.to bb
 replace hB := hB.to bb
 replace HB := hx HB bb
 clear bb
 have kktA0 := tA.c0
 have kktA1 := tA.c1
 have kktA2 := tA.c2
 have kktA3 := tA.c3
 have kktB0 := tB.c0
 have kktB1 := tB.c1
 have kktB2 := tB.c2
 have kktB3 := tB.c3
 go_wp2_with fail
 refine (hA.2.same hB.2 e2.out).mono ?_
 rintro e V2 ⟨rfl, bb⟩
 clear kktA0 kktA1 kktA2 kktA3 kktB0 kktB1 kktB2 kktB3
 replace tA := tA.to bb
 replace tB := tB.to bb
 replace HB := hx HB bb
 clear bb
 clear tA tB
 go_wp2
 go_ret
 exact ⟨rfl, HB.out⟩
theorem is_q {w : World} {a1 a2 a3 a4 b1 b2 b3 b4 : Value} {r s : Rat} (hA : Qc w a1 a2 a3 a4 r) (hB : Qc w b1 b2 b3 b4 s) {v : Bool} (hv : decide (r = s) = v) : Calls Tryz.prog 22 #[.agg #[a1, a2, a3, a4], .agg #[b1, b2, b3, b4]] w fun e w' => e = .returned (.bool v) /\ Below w.heap.size w w' := by
 subst hv
 by_cases h : r = s
 .rw [decide_eq_true h]; exact is_t hA hB h
 .rw [decide_eq_false h]
  by_cases hn : r.num = s.num
  .exact is_d hA hB h hn
  .exact is_n hA hB hn
theorem is3_len {w : World} {A A' : Option Addr} {l l' c c' : Nat} (hl : l ≠ l') :
  Calls Tryz.prog 13 #[.slice A l c, .slice A' l' c'] w fun e w' => e = .returned (.bool false) /\ Below w.heap.size w w' := by
 have h1 : ((l : Int) != (l' : Int)) = true := by rw [bne_iff_ne]; omega
 clear hl
 go_enter Tryz.func13, Tryz.ntmps13
 go_wp2
 go_ret
 exact ⟨rfl, Below.refl _ _⟩
theorem is3_f {b : Nat -> Bool} {w : World} {A A' : Option Addr} {c c' L : Nat} {es fs : List E4} (hx : Rq w w.heap.size A es) (hy : Rq w w.heap.size A' fs) (h1 : es.length = L) (h2 : fs.length = L) (hL : L <= 4398046511104)
  (hF : ∀ (V : World), Below w.heap.size w V -> ∀ i, i < L -> Calls Tryz.prog 22 #[(es.getD i E4.z).v, (fs.getD i E4.z).v] V fun e w' => e = .returned (.bool (b i)) /\ Below V.heap.size V w') {r : Bool} (hr : (List.range L).all b = r) :
  Calls Tryz.prog 13 #[.slice A L c, .slice A' L c'] w fun e w' => e = .returned (.bool r) /\ Below w.heap.size w w' := by
 have RX := Hd hx
 have RY := Hd hy
 have H1 := Hd h1
 have H2 := Hd h2
 have HF := Hd hF
 have HR := Hd hr
 have hne : ((L : Int) != (L : Int)) = false := by simp
 clear hx hy h1 h2 hF hr
 go_enter Tryz.func13, Tryz.ntmps13
 go_wp2
 go_loopw [5] (fun i wr => ∃ k : Nat, i = .int .i64 k /\ k <= L /\ (∀ j, j < k -> b j = true) /\ Below w.heap.size w wr) (fun i _ => L - (intOf i).toNat)
 case atStart => exact ⟨0, rfl, Nat.zero_le _, (fun j hj => by omega), Below.refl _ _⟩
 case round =>
  obtain ⟨k, rfl, hk, ht, hb⟩ := hrel
  have HT := Hd ht
  have HB := Hd hb
  clear ht hb
  by_cases hlt : k < L
  .have hki : (0 : Int) <= (k : Int) := by omega
   have hki' : (k : Int) < (L : Int) := by omega
   have hkx : k < es.length := by have := H1.out; omega
   have hky : k < fs.length := by have := H2.out; omega
   have HC := Hd (fun (V : World) (hV : Below w.heap.size w V) => HF.out V hV k hlt)
   obtain ⟨b1, o1, rfl, hb1, f0, f1, f2, f3⟩ := RX.out k hkx
   obtain ⟨b2, o2, rfl, hb2, g0, g1, g2, g3⟩ := RY.out k hky
   rw [getD_at' hkx, getD_at' hky] at HC
   have FX : Hid (∀ w', Below w.heap.size w w' -> w'.cell? ⟨b1, o1 + k * 4, none⟩ = some es[k].a /\ w'.cell? ⟨b1, o1 + k * 4 + 1, none⟩ = some es[k].b /\ w'.cell? ⟨b1, o1 + k * 4 + 2, none⟩ = some es[k].c /\ w'.cell? ⟨b1, o1 + k * 4 + 3, none⟩ = some es[k].d) := fun w' hS =>
    ⟨(hS.cell (p := ⟨b1, _, none⟩) hb1).trans f0, (hS.cell (p := ⟨b1, _, none⟩) hb1).trans f1, (hS.cell (p := ⟨b1, _, none⟩) hb1).trans f2, (hS.cell (p := ⟨b1, _, none⟩) hb1).trans f3⟩
   have FY : Hid (∀ w', Below w.heap.size w w' -> w'.cell? ⟨b2, o2 + k * 4, none⟩ = some fs[k].a /\ w'.cell? ⟨b2, o2 + k * 4 + 1, none⟩ = some fs[k].b /\ w'.cell? ⟨b2, o2 + k * 4 + 2, none⟩ = some fs[k].c /\ w'.cell? ⟨b2, o2 + k * 4 + 3, none⟩ = some fs[k].d) := fun w' hS =>
    ⟨(hS.cell (p := ⟨b2, _, none⟩) hb2).trans g0, (hS.cell (p := ⟨b2, _, none⟩) hb2).trans g1, (hS.cell (p := ⟨b2, _, none⟩) hb2).trans g2, (hS.cell (p := ⟨b2, _, none⟩) hb2).trans g3⟩
   generalize es[k] = X at FX HC
   generalize fs[k] = Y at FY HC
   obtain ⟨x1, x2, x3, x4⟩ := X
   obtain ⟨y1, y2, y3, y4⟩ := Y
   simp only [E4.v] at HC
   dsimp only at FX FY
   have HLT := Hd hlt
   clear f0 f1 f2 f3 g0 g1 g2 g3 hb1 hb2 hkx hky HF RX RY hlt
   obtain ⟨v, hv⟩ : ∃ v, b k = v := ⟨_, rfl⟩
   rw [hv] at HC
   have HV := Hd hv
   clear hv
   cases v with
   | true =>
    go_wp2_with fail
    refine wp_region_plan (S := fun w' => Below w.heap.size w w') [(0, true), (1, true), (2, true), (3, true), (4, true), (5, true), (6, true), (7, true), (8, false), (9, true)] (by kernel_rfl) (by kernel_rfl) HB.out.drew ?_
    have hb := HB.out.drew
    iterate 8 (refine plan_take (v := ?_) rfl (by rfl) ?_ ?_; rotate_left; (focus (intro w' hS; obtain ⟨f0, f1, f2, f3⟩ := FX.out w' hS; obtain ⟨g0, g1, g2, g3⟩ := FY.out w' hS; go_simp; try with_reducible rfl)))
    refine plan_call rfl (by rfl) (fun K hK => ?_)
    go_simp
    refine (HC.out _ hb).mono ?_
    rintro e V ⟨rfl, bb⟩
    replace hb := bx hb bb
    refine hK.out _ _ hb ?_
    clear hK K bb
    refine plan_take (v := ?_) rfl (by rfl) ?_ ?_; rotate_left; (focus (intro w' hS; obtain ⟨f0, f1, f2, f3⟩ := FX.out w' hS; obtain ⟨g0, g1, g2, g3⟩ := FY.out w' hS; go_simp; try with_reducible rfl))
    refine plan_done ?_
    have HE := Hd hb
    clear hb HB
    go_wp2
    go_roundw
    case rel =>
     refine ⟨k + 1, by simp, HLT.out, fun j hj => ?_, HE.out⟩
     by_cases hjk : j = k
     .subst hjk; exact HV.out
     .exact HT.out j (by omega)
    case measure => have := HLT.out; simp [intOf]; omega
   | false =>
    go_wp2_with fail
    refine wp_region_plan (S := fun w' => Below w.heap.size w w') [(0, true), (1, true), (2, true), (3, true), (4, true), (5, true), (6, true), (7, true), (8, false), (9, true)] (by kernel_rfl) (by kernel_rfl) HB.out.drew ?_
    have hb := HB.out.drew
    iterate 8 (refine plan_take (v := ?_) rfl (by rfl) ?_ ?_; rotate_left; (focus (intro w' hS; obtain ⟨f0, f1, f2, f3⟩ := FX.out w' hS; obtain ⟨g0, g1, g2, g3⟩ := FY.out w' hS; go_simp; try with_reducible rfl)))
    refine plan_call rfl (by rfl) (fun K hK => ?_)
    go_simp
    refine (HC.out _ hb).mono ?_
    rintro e V ⟨rfl, bb⟩
    replace hb := bx hb bb
    refine hK.out _ _ hb ?_
    clear hK K bb
    refine plan_take (v := ?_) rfl (by rfl) ?_ ?_; rotate_left; (focus (intro w' hS; obtain ⟨f0, f1, f2, f3⟩ := FX.out w' hS; obtain ⟨g0, g1, g2, g3⟩ := FY.out w' hS; go_simp; try with_reducible rfl))
    refine plan_done ?_
    have HE := Hd hb
    clear hb HB
    go_wp2
    go_ret
    refine ⟨?_, HE.out⟩
    rw [<- HR.out, show (List.range L).all b = false from by
     rw [List.all_eq_false]
     exact ⟨k, by simpa using HLT.out, by rw [HV.out]; decide⟩]
    rfl
  .obtain rfl : k = L := by omega
   go_wp2
   go_ret
   refine ⟨?_, HB.out⟩
   rw [<- HR.out, show (List.range k).all b = true from by
    rw [List.all_eq_true]
    intro x hx
    exact HT.out x (by simpa using hx)]
   rfl
theorem all_same {rs ss : List Rat} {L : Nat} (h1 : rs.length = L) (h2 : ss.length = L) : (List.range L).all (fun i => decide (rs.getD i 0 = ss.getD i 0)) = decide (rs = ss) := by
 rw [Bool.eq_iff_iff, List.all_eq_true, decide_eq_true_eq]
 constructor
 .intro h
  refine List.ext_getElem (by omega) fun i hi hj => ?_
  have := h i (by simp; omega)
  rw [decide_eq_true_eq, getD_lt hi, getD_lt hj] at this
  exact this
 .rintro rfl x _
  simp
theorem vis_v {w : World} {A A' : Option Addr} {c c' : Nat} {es fs : List E4} {rs ss : List Rat} (hA : Vc w A c es rs) (hB : Vc w A' c' fs ss) (hL : rs.length <= 4398046511104) {v : Bool} (hv : decide (rs = ss) = v) :
  Calls Tryz.prog 13 #[.slice A rs.length c, .slice A' ss.length c'] w fun e w' => e = .returned (.bool v) /\ Below w.heap.size w w' := by
 by_cases h : rs.length = ss.length
 .rw [<- h]
  exact is3_f (b := fun i => decide (rs.getD i 0 = ss.getD i 0)) hA.row hB.row hA.len (by rw [hB.len, h]) hL (fun V hV i _ => is_q ((hA.el i).to hV) ((hB.el i).to hV) rfl) (by rw [all_same rfl h.symm]; exact hv)
 .rw [<- hv, decide_eq_false (fun e => h (by rw [e]))]
  exact is3_len h
theorem op_storeq {W : World} {d : Option Tmp} {ty : TypeId} {pos : String} {after : Array Edge} {guard : Option (Nat × Bool)} {a : Act} {K : Act -> World -> Prop} {Q : Exit -> Act -> World -> Prop} {g k : Nat} {fl : List E4} {e : E4} {p v : Operand}
  (hp : a.eval p = .pointer (some ⟨g, k * 4, none⟩)) (hv : a.eval v = e.v) (h : Row W g fl) (hk : k < fl.length) (he : e.fq) (hK : K (a.put d undef) (W.setRow g (flat (fl.set k e)).toArray)) :
  Oper.wp Tryz.prog ⟨d, .store 26 p v, ty, pos, after, guard⟩ a W K Q := by
 have hrun := run_storeq h hk he
 unfold Oper.wp
 simp [execOp, hp, hv, hrun, Result.andThen]
 exact hK
theorem wpListIn_storeq {F : Fence} {n : Nat} {W : World} {ops : Array Oper} {rest : List Oper} {o : Oper} {a : Act} {Q : Exit -> Act -> World -> Prop} {g k : Nat} {fl : List E4} {e : E4}
  (hg : o.guard = none) (p v : Operand) (hop : o.op = Op.store 26 p v) (hp : a.eval p = .pointer (some ⟨g, k * 4, none⟩)) (hv : a.eval v = e.v) (h : Row W g fl) (hk : k < fl.length) (he : e.fq)
  (hK : wpListIn F n Tryz.prog ops Q rest (a.put o.dst undef) (W.setRow g (flat (fl.set k e)).toArray)) : wpListIn F n Tryz.prog ops Q (o :: rest) a W := by
 refine wpListIn_plain hg fun K hK' => ?_
 have hrun := run_storeq h hk he
 unfold Oper.wpIn
 refine ⟨?_, ?_⟩
 .simp [Oper.about, hop]
 .rw [Oper.semAt_plain F _ _ (by rw [hop]; intro c hc'; cases hc')]
  simp [execOp, hop, hp, hv, hrun, Result.andThen]
  exact hK' _ _ hK
theorem Row.four {W : World} {g : Nat} {e : E4} (h : Row W g [e]) : Four W g e.a e.b e.c e.d := Four.of h.heap
theorem Row.one {W : World} {g : Nat} {a b c d : Value} (h : Hp W g (.cells #[a, b, c, d] 26 (0, 0))) (hf : Fq a b c d) : Row W g [⟨a, b, c, d⟩] := ⟨h, fun e he => by rw [List.mem_singleton.1 he]; exact hf⟩
def DotR (w : World) (tot : Nat) (T : Rat) (e : Ending) (w' : World) : Prop :=
 (∃ v, e = .returned v) /\ ∃ E, Row w' tot [E] /\ Qc w' E.a E.b E.c E.d T /\ w.heap.size <= w'.heap.size /\ (∀ j, j < w.heap.size -> j ≠ tot -> w'.heap[j]? = w.heap[j]?) /\ ∀ B, B <= tot -> Below B w w'
theorem DotR.of {w V : World} {tot : Nat} {T : Rat} {v : Value} {E : E4} (hE : Row w tot [E]) (qE : Qc w E.a E.b E.c E.d T) (h : Below w.heap.size w V) : DotR w tot T (.returned v) V :=
 ⟨⟨_, rfl⟩, E, hE.to h, qE.to h, h.size, fun j hj _ => h.block j hj, fun B hB => h.mono (by have := hE.lt; omega)⟩
set_option maxRecDepth 100000 in
theorem dot1_z {w : World} {a1 a2 a3 a4 b1 b2 b3 b4 : Value} {r s t : Rat} {k l m tot : Nat} {E : E4} (hT : Row w tot [E]) (qT : Qc w E.a E.b E.c E.d t) (hA : Qi w a1 a2 a3 a4 r k) (hB : Qi w b1 b2 b3 b4 s l) (h0 : r = 0 ∨ s = 0) :
  Calls Tryz.prog 58 #[.agg #[a1, a2, a3, a4], .agg #[b1, b2, b3, b4], .pointer (some ⟨tot, 0, none⟩)] w (DotR w tot (t + r * s)) := by
 have hz : Hid (decide (r = 0 ∨ s = 0) = true) := decide_eq_true h0
 have he : t + r * s = t := by rcases h0 with h0 | h0 <;> rw [h0] <;> simp [Rat.zero_mul, Rat.mul_zero, Rat.add_zero]
 rw [he]
 have HT := Hd hT
 have QT := Hd qT
 clear h0 he hT qT
 obtain ⟨W0, hW0⟩ : ∃ W0, W0 = (w.alloc (.cells #[a1, a2, a3, a4] 26)).alloc (.cells #[b1, b2, b3, b4] 26) := ⟨_, rfl⟩
 have hbw : Below w.heap.size w W0 := by rw [hW0]; exact (((Below.refl _ _).alloc (Nat.le_refl _) _).alloc (by simp) _)
 have tA : Four W0 (w.heap.size) a1 a2 a3 a4 := by
  have h := Four.new w a1 a2 a3 a4 26
  rw [hW0]; exact (h.alloc _)
 have tB : Four W0 (w.heap.size + 1) b1 b2 b3 b4 := by
  have h := Four.new (w.alloc (.cells #[a1, a2, a3, a4] 26)) b1 b2 b3 b4 26
  rw [World.size_alloc] at h
  rw [hW0]; exact h
 replace hA := hA.to hbw
 replace hB := hB.to hbw
 have HW0 := Hd hW0
 have HB := Hd hbw
 clear hW0 hbw
 go_enter Tryz.func58, Tryz.ntmps58
 go_wp2_with fail
 rw [<- HW0.out]
 clear HW0
 have kktA0 := tA.c0
 have kktA1 := tA.c1
 have kktA2 := tA.c2
 have kktA3 := tA.c3
 have kktB0 := tB.c0
 have kktB1 := tB.c1
 have kktB2 := tB.c2
 have kktB3 := tB.c3
 go_wp2_with fail
 refine (zp_v hA hB hz.out).mono ?_
 rintro e V1 ⟨rfl, bb⟩
 clear kktA0 kktA1 kktA2 kktA3 kktB0 kktB1 kktB2 kktB3
 replace tA := tA.to bb
 replace tB := tB.to bb
 replace HB := hx HB bb
 clear bb
 clear tA tB
 go_wp2
 refine bodyPost_ret (results_none rfl _ _ _) rfl ?_
 exact DotR.of HT.out QT.out HB.out
set_option maxRecDepth 100000 in
theorem dot1_n {w : World} {a1 a2 a3 a4 b1 b2 b3 b4 : Value} {r s t : Rat} {k l m tot : Nat} {E : E4} (hT : Row w tot [E]) (qT : Qc w E.a E.b E.c E.d t) (hA : Qi w a1 a2 a3 a4 r k) (hB : Qi w b1 b2 b3 b4 s l) (h0 : ¬ (r = 0 ∨ s = 0)) (mT : Qm m t) (hk : 0 < k) (hl : 0 < l) (hkl : k + l + 1 <= 10000) (hm : m + (k + l) + 1 <= 10000) :
  Calls Tryz.prog 58 #[.agg #[a1, a2, a3, a4], .agg #[b1, b2, b3, b4], .pointer (some ⟨tot, 0, none⟩)] w (DotR w tot (t + r * s)) := by
 have hz : Hid (decide (r = 0 ∨ s = 0) = false) := decide_eq_false h0
 have mP : Qm (k + l) (r * s) := (hA.qm hk).mul (hB.qm hl)
 have hm0 := mT.pos
 have hM : Hid (∀ (V : World), Qi V a1 a2 a3 a4 r k -> Qi V b1 b2 b3 b4 s l -> Calls Tryz.prog 40 #[.agg #[a1, a2, a3, a4], .agg #[b1, b2, b3, b4]] V (QR V (r * s))) := fun V h h' => mul_q h h' hk hl hkl
 have hS : Hid (∀ (V : World) (x1 x2 x3 x4 y1 y2 y3 y4 : Value), Qc V x1 x2 x3 x4 t -> Qc V y1 y2 y3 y4 (r * s) -> Calls Tryz.prog 41 #[.agg #[x1, x2, x3, x4], .agg #[y1, y2, y3, y4]] V (QR V (t + r * s))) := fun V x1 x2 x3 x4 y1 y2 y3 y4 h h' => add_q (h.qi mT (by omega)) (h'.qi mP (by omega)) (by omega) (by omega) hm
 have hlt : tot < w.heap.size := hT.lt
 have hT0 := Hd hT
 clear h0 mP mT hm0
 obtain ⟨W0, hW0⟩ : ∃ W0, W0 = (w.alloc (.cells #[a1, a2, a3, a4] 26)).alloc (.cells #[b1, b2, b3, b4] 26) := ⟨_, rfl⟩
 have hbw : Below w.heap.size w W0 := by rw [hW0]; exact (((Below.refl _ _).alloc (Nat.le_refl _) _).alloc (by simp) _)
 have tA : Four W0 (w.heap.size) a1 a2 a3 a4 := by
  have h := Four.new w a1 a2 a3 a4 26
  rw [hW0]; exact (h.alloc _)
 have tB : Four W0 (w.heap.size + 1) b1 b2 b3 b4 := by
  have h := Four.new (w.alloc (.cells #[a1, a2, a3, a4] 26)) b1 b2 b3 b4 26
  rw [World.size_alloc] at h
  rw [hW0]; exact h
 replace hA := hA.to hbw
 replace hB := hB.to hbw
 replace hT := hT.to hbw
 replace qT := qT.to hbw
 have HW0 := Hd hW0
 have HB := Hd hbw
 clear hW0 hbw
 go_enter Tryz.func58, Tryz.ntmps58
 go_wp2_with fail
 rw [<- HW0.out]
 clear HW0
 have kktA0 := tA.c0
 have kktA1 := tA.c1
 have kktA2 := tA.c2
 have kktA3 := tA.c3
 have kktB0 := tB.c0
 have kktB1 := tB.c1
 have kktB2 := tB.c2
 have kktB3 := tB.c3
 go_wp2_with fail
 refine (zp_v hA hB hz.out).mono ?_
 rintro e V1 ⟨rfl, bb⟩
 clear kktA0 kktA1 kktA2 kktA3 kktB0 kktB1 kktB2 kktB3
 replace tA := tA.to bb
 replace tB := tB.to bb
 replace hA := hA.to bb
 replace hB := hB.to bb
 replace hT := hT.to bb
 replace qT := qT.to bb
 replace HB := hx HB bb
 clear bb
 obtain ⟨e1, e2, e3, e4⟩ := E
 clear hz
 go_wp2_with fail
 have hbw := HB.out
 obtain ⟨W1, hW1⟩ : ∃ W1, W1 = V1 := ⟨_, rfl⟩
 rw [<- hW1] at hbw hA hB hT qT tA tB ⊢
 clear hW1 HB
 refine wp_region_planTo (S := fun _ => True) [] #[false, false, false, false, false, false] 6 (by kernel_rfl) (by kernel_rfl) trivial ?_
 intro _
 refine dag (fun G up dn => ?_)
 have D01234 : ∀ (V : World) (hV : Below W1.heap.size W1 V) (m1 m2 m3 m4 s1 s2 s3 s4 : Value) (hQ : Qc V s1 s2 s3 s4 (t + r * s)), G 1 #[true, true, true, true, true, false] ⟨#[.agg #[a1, a2, a3, a4], .agg #[b1, b2, b3, b4], .pointer (some ⟨tot, 0, none⟩), .pointer (some ⟨w.heap.size, 0, none⟩), .pointer (some ⟨w.heap.size + 1, 0, none⟩), .agg #[a1, a2, a3, a4], .agg #[b1, b2, b3, b4], .bool false, .bool true, .agg #[e1, e2, e3, e4], .agg #[a1, a2, a3, a4], .agg #[b1, b2, b3, b4], .agg #[m1, m2, m3, m4], .agg #[s1, s2, s3, s4]], []⟩ V := by
  intro V hV m1 m2 m3 m4 s1 s2 s3 s4 hQ
  refine up ?_
  refine rdy1 (i := 5) (by kernel_rfl) rfl (by rfl) (fun K hK => ?_)
  have hr := hT.to hV
  refine op_storeq (k := 0) (e := ⟨s1, s2, s3, s4⟩) (by rfl) (by rfl) hr (by simp) hQ.fq ?_
  refine hK.out _ _ trivial ?_
  clear hK K
  have FIN : Hid (∀ v, DotR w tot (t + r * s) (.returned v) (V.setRow tot (flat ([⟨e1, e2, e3, e4⟩].set 0 ⟨s1, s2, s3, s4⟩)).toArray)) := fun v => by
   have h1 := hr.app (n := 0) (e := ⟨s1, s2, s3, s4⟩) hQ.fq
   have kw : Kw V (V.setRow tot (flat ([⟨e1, e2, e3, e4⟩].set 0 ⟨s1, s2, s3, s4⟩)).toArray) := hr.kw
   have h2 := bx hbw hV
   exact ⟨⟨_, rfl⟩, ⟨s1, s2, s3, s4⟩, h1, kw.qc hQ, by rw [setRow_size]; exact h2.size, fun j hj hne => (setRow_other _ _ _ _ hne).trans (h2.block j hj), fun B hB => below_setRow (h2.mono (by omega)) hB _⟩
  clear hr hQ
  refine wpAnyH_done (by kernel_rfl) ?_ _
  show NoPanic _ _ _ _
  go_wp2
  refine bodyPost_ret (results_none rfl _ _ _) rfl ?_
  exact FIN.out _
 have D0123 : ∀ (V : World) (hV : Below W1.heap.size W1 V) (m1 m2 m3 m4 : Value) (hQ : Qc V m1 m2 m3 m4 (r * s)), G 2 #[true, true, true, true, false, false] ⟨#[.agg #[a1, a2, a3, a4], .agg #[b1, b2, b3, b4], .pointer (some ⟨tot, 0, none⟩), .pointer (some ⟨w.heap.size, 0, none⟩), .pointer (some ⟨w.heap.size + 1, 0, none⟩), .agg #[a1, a2, a3, a4], .agg #[b1, b2, b3, b4], .bool false, .bool true, .agg #[e1, e2, e3, e4], .agg #[a1, a2, a3, a4], .agg #[b1, b2, b3, b4], .agg #[m1, m2, m3, m4], undef], []⟩ V := by
  intro V hV m1 m2 m3 m4 hQ
  refine up ?_
  refine rdy1 (i := 4) (by kernel_rfl) rfl (by rfl) (fun K hK => ?_)
  go_simp
  refine (hS.out V _ _ _ _ _ _ _ _ (qT.to hV) hQ).mono ?_
  rintro e U ⟨s1, s2, s3, s4, rfl, hQ2, bb⟩
  refine hK.out _ _ trivial ?_
  exact dn (D01234 U (bx hV bb) m1 m2 m3 m4 s1 s2 s3 s4 hQ2)
 have D012 : ∀ (V : World) (hV : Below W1.heap.size W1 V), G 3 #[true, true, true, false, false, false] ⟨#[.agg #[a1, a2, a3, a4], .agg #[b1, b2, b3, b4], .pointer (some ⟨tot, 0, none⟩), .pointer (some ⟨w.heap.size, 0, none⟩), .pointer (some ⟨w.heap.size + 1, 0, none⟩), .agg #[a1, a2, a3, a4], .agg #[b1, b2, b3, b4], .bool false, .bool true, .agg #[e1, e2, e3, e4], .agg #[a1, a2, a3, a4], .agg #[b1, b2, b3, b4], undef, undef], []⟩ V := by
  intro V hV
  refine up ?_
  refine rdy1 (i := 3) (by kernel_rfl) rfl (by rfl) (fun K hK => ?_)
  go_simp
  refine (hM.out V (hA.to hV) (hB.to hV)).mono ?_
  rintro e U ⟨m1, m2, m3, m4, rfl, hQ, bb⟩
  refine hK.out _ _ trivial ?_
  exact dn (D0123 U (bx hV bb) m1 m2 m3 m4 hQ)
 have D123 : ∀ (V : World) (hV : Below W1.heap.size W1 V) (m1 m2 m3 m4 : Value) (hQ : Qc V m1 m2 m3 m4 (r * s)), G 3 #[false, true, true, true, false, false] ⟨#[.agg #[a1, a2, a3, a4], .agg #[b1, b2, b3, b4], .pointer (some ⟨tot, 0, none⟩), .pointer (some ⟨w.heap.size, 0, none⟩), .pointer (some ⟨w.heap.size + 1, 0, none⟩), .agg #[a1, a2, a3, a4], .agg #[b1, b2, b3, b4], .bool false, .bool true, undef, .agg #[a1, a2, a3, a4], .agg #[b1, b2, b3, b4], .agg #[m1, m2, m3, m4], undef], []⟩ V := by
  intro V hV m1 m2 m3 m4 hQ
  refine up ?_
  refine rdy1 (i := 0) (by kernel_rfl) rfl (by rfl) (fun K hK => ?_)
  have cc := (hT.to hV).four
  have c0 := cc.c0
  have c1 := cc.c1
  have c2 := cc.c2
  have c3 := cc.c3
  go_simp
  refine hK.out _ _ trivial ?_
  exact dn (D0123 V hV m1 m2 m3 m4 hQ)
 have D01 : ∀ (V : World) (hV : Below W1.heap.size W1 V), G 4 #[true, true, false, false, false, false] ⟨#[.agg #[a1, a2, a3, a4], .agg #[b1, b2, b3, b4], .pointer (some ⟨tot, 0, none⟩), .pointer (some ⟨w.heap.size, 0, none⟩), .pointer (some ⟨w.heap.size + 1, 0, none⟩), .agg #[a1, a2, a3, a4], .agg #[b1, b2, b3, b4], .bool false, .bool true, .agg #[e1, e2, e3, e4], .agg #[a1, a2, a3, a4], undef, undef, undef], []⟩ V := by
  intro V hV
  refine up ?_
  refine rdy1 (i := 2) (by kernel_rfl) rfl (by rfl) (fun K hK => ?_)
  have cc := tB.to hV
  have c0 := cc.c0
  have c1 := cc.c1
  have c2 := cc.c2
  have c3 := cc.c3
  go_simp
  refine hK.out _ _ trivial ?_
  exact dn (D012 V hV)
 have D02 : ∀ (V : World) (hV : Below W1.heap.size W1 V), G 4 #[true, false, true, false, false, false] ⟨#[.agg #[a1, a2, a3, a4], .agg #[b1, b2, b3, b4], .pointer (some ⟨tot, 0, none⟩), .pointer (some ⟨w.heap.size, 0, none⟩), .pointer (some ⟨w.heap.size + 1, 0, none⟩), .agg #[a1, a2, a3, a4], .agg #[b1, b2, b3, b4], .bool false, .bool true, .agg #[e1, e2, e3, e4], undef, .agg #[b1, b2, b3, b4], undef, undef], []⟩ V := by
  intro V hV
  refine up ?_
  refine rdy1 (i := 1) (by kernel_rfl) rfl (by rfl) (fun K hK => ?_)
  have cc := tA.to hV
  have c0 := cc.c0
  have c1 := cc.c1
  have c2 := cc.c2
  have c3 := cc.c3
  go_simp
  refine hK.out _ _ trivial ?_
  exact dn (D012 V hV)
 have D12 : ∀ (V : World) (hV : Below W1.heap.size W1 V), G 4 #[false, true, true, false, false, false] ⟨#[.agg #[a1, a2, a3, a4], .agg #[b1, b2, b3, b4], .pointer (some ⟨tot, 0, none⟩), .pointer (some ⟨w.heap.size, 0, none⟩), .pointer (some ⟨w.heap.size + 1, 0, none⟩), .agg #[a1, a2, a3, a4], .agg #[b1, b2, b3, b4], .bool false, .bool true, undef, .agg #[a1, a2, a3, a4], .agg #[b1, b2, b3, b4], undef, undef], []⟩ V := by
  intro V hV
  refine up ?_
  refine wpAnyH_ready (rs := [0, 3]) (by kernel_rfl) (by simp) (ready_cons rfl (by rfl) (fun K hK => ?_) (ready_cons rfl (by rfl) (fun K hK => ?_) AllReadyH.nil))
  .have cc := (hT.to hV).four
   have c0 := cc.c0
   have c1 := cc.c1
   have c2 := cc.c2
   have c3 := cc.c3
   go_simp
   refine hK.out _ _ trivial ?_
   exact dn (D012 V hV)
  .go_simp
   refine (hM.out V (hA.to hV) (hB.to hV)).mono ?_
   rintro e U ⟨m1, m2, m3, m4, rfl, hQ, bb⟩
   refine hK.out _ _ trivial ?_
   exact dn (D123 U (bx hV bb) m1 m2 m3 m4 hQ)
 have D0 : ∀ (V : World) (hV : Below W1.heap.size W1 V), G 5 #[true, false, false, false, false, false] ⟨#[.agg #[a1, a2, a3, a4], .agg #[b1, b2, b3, b4], .pointer (some ⟨tot, 0, none⟩), .pointer (some ⟨w.heap.size, 0, none⟩), .pointer (some ⟨w.heap.size + 1, 0, none⟩), .agg #[a1, a2, a3, a4], .agg #[b1, b2, b3, b4], .bool false, .bool true, .agg #[e1, e2, e3, e4], undef, undef, undef, undef], []⟩ V := by
  intro V hV
  refine up ?_
  refine wpAnyH_ready (rs := [1, 2]) (by kernel_rfl) (by simp) (ready_cons rfl (by rfl) (fun K hK => ?_) (ready_cons rfl (by rfl) (fun K hK => ?_) AllReadyH.nil))
  .have cc := tA.to hV
   have c0 := cc.c0
   have c1 := cc.c1
   have c2 := cc.c2
   have c3 := cc.c3
   go_simp
   refine hK.out _ _ trivial ?_
   exact dn (D01 V hV)
  .have cc := tB.to hV
   have c0 := cc.c0
   have c1 := cc.c1
   have c2 := cc.c2
   have c3 := cc.c3
   go_simp
   refine hK.out _ _ trivial ?_
   exact dn (D02 V hV)
 have D1 : ∀ (V : World) (hV : Below W1.heap.size W1 V), G 5 #[false, true, false, false, false, false] ⟨#[.agg #[a1, a2, a3, a4], .agg #[b1, b2, b3, b4], .pointer (some ⟨tot, 0, none⟩), .pointer (some ⟨w.heap.size, 0, none⟩), .pointer (some ⟨w.heap.size + 1, 0, none⟩), .agg #[a1, a2, a3, a4], .agg #[b1, b2, b3, b4], .bool false, .bool true, undef, .agg #[a1, a2, a3, a4], undef, undef, undef], []⟩ V := by
  intro V hV
  refine up ?_
  refine wpAnyH_ready (rs := [0, 2]) (by kernel_rfl) (by simp) (ready_cons rfl (by rfl) (fun K hK => ?_) (ready_cons rfl (by rfl) (fun K hK => ?_) AllReadyH.nil))
  .have cc := (hT.to hV).four
   have c0 := cc.c0
   have c1 := cc.c1
   have c2 := cc.c2
   have c3 := cc.c3
   go_simp
   refine hK.out _ _ trivial ?_
   exact dn (D01 V hV)
  .have cc := tB.to hV
   have c0 := cc.c0
   have c1 := cc.c1
   have c2 := cc.c2
   have c3 := cc.c3
   go_simp
   refine hK.out _ _ trivial ?_
   exact dn (D12 V hV)
 have D2 : ∀ (V : World) (hV : Below W1.heap.size W1 V), G 5 #[false, false, true, false, false, false] ⟨#[.agg #[a1, a2, a3, a4], .agg #[b1, b2, b3, b4], .pointer (some ⟨tot, 0, none⟩), .pointer (some ⟨w.heap.size, 0, none⟩), .pointer (some ⟨w.heap.size + 1, 0, none⟩), .agg #[a1, a2, a3, a4], .agg #[b1, b2, b3, b4], .bool false, .bool true, undef, undef, .agg #[b1, b2, b3, b4], undef, undef], []⟩ V := by
  intro V hV
  refine up ?_
  refine wpAnyH_ready (rs := [0, 1]) (by kernel_rfl) (by simp) (ready_cons rfl (by rfl) (fun K hK => ?_) (ready_cons rfl (by rfl) (fun K hK => ?_) AllReadyH.nil))
  .have cc := (hT.to hV).four
   have c0 := cc.c0
   have c1 := cc.c1
   have c2 := cc.c2
   have c3 := cc.c3
   go_simp
   refine hK.out _ _ trivial ?_
   exact dn (D02 V hV)
  .have cc := tA.to hV
   have c0 := cc.c0
   have c1 := cc.c1
   have c2 := cc.c2
   have c3 := cc.c3
   go_simp
   refine hK.out _ _ trivial ?_
   exact dn (D12 V hV)
 have D : ∀ (V : World) (hV : Below W1.heap.size W1 V), G 6 #[false, false, false, false, false, false] ⟨#[.agg #[a1, a2, a3, a4], .agg #[b1, b2, b3, b4], .pointer (some ⟨tot, 0, none⟩), .pointer (some ⟨w.heap.size, 0, none⟩), .pointer (some ⟨w.heap.size + 1, 0, none⟩), .agg #[a1, a2, a3, a4], .agg #[b1, b2, b3, b4], .bool false, .bool true, undef, undef, undef, undef, undef], []⟩ V := by
  intro V hV
  refine up ?_
  refine wpAnyH_ready (rs := [0, 1, 2]) (by kernel_rfl) (by simp) (ready_cons rfl (by rfl) (fun K hK => ?_) (ready_cons rfl (by rfl) (fun K hK => ?_) (ready_cons rfl (by rfl) (fun K hK => ?_) AllReadyH.nil)))
  .have cc := (hT.to hV).four
   have c0 := cc.c0
   have c1 := cc.c1
   have c2 := cc.c2
   have c3 := cc.c3
   go_simp
   refine hK.out _ _ trivial ?_
   exact dn (D0 V hV)
  .have cc := tA.to hV
   have c0 := cc.c0
   have c1 := cc.c1
   have c2 := cc.c2
   have c3 := cc.c3
   go_simp
   refine hK.out _ _ trivial ?_
   exact dn (D1 V hV)
  .have cc := tB.to hV
   have c0 := cc.c0
   have c1 := cc.c1
   have c2 := cc.c2
   have c3 := cc.c3
   go_simp
   refine hK.out _ _ trivial ?_
   exact dn (D2 V hV)
 exact D _ (Below.refl _ _).drew
theorem dot1_v {w : World} {a1 a2 a3 a4 b1 b2 b3 b4 : Value} {r s t : Rat} {k l m tot : Nat} {E : E4} (hT : Row w tot [E]) (qT : Qc w E.a E.b E.c E.d t) (hA : Qi w a1 a2 a3 a4 r k) (hB : Qi w b1 b2 b3 b4 s l) (mT : Qm m t) (hk : 0 < k) (hl : 0 < l) (hkl : k + l + 1 <= 10000) (hm : m + (k + l) + 1 <= 10000) :
  Calls Tryz.prog 58 #[.agg #[a1, a2, a3, a4], .agg #[b1, b2, b3, b4], .pointer (some ⟨tot, 0, none⟩)] w (DotR w tot (t + r * s)) := by
 by_cases h0 : r = 0 ∨ s = 0
 .exact dot1_z (m := m) hT qT hA hB h0
 .exact dot1_n hT qT hA hB h0 mT hk hl hkl hm
attribute [local go_sem] Oper.semAt_some
def sumF (f : Nat -> Rat) : Nat -> Rat
 | 0 => 0
 | k + 1 => sumF f k + f k
theorem Qm.zero {k : Nat} (hk : 0 < k) : Qm k 0 := ⟨Nat.pow_pos (by decide), Sm.one hk⟩
theorem Qm.sumF {f : Nat -> Rat} {P : Nat} (hf : ∀ i, Qm P (f i)) : ∀ k, Qm (k * (P + 1) + 1) (sumF f k)
 | 0 => Qm.zero (by omega)
 | k + 1 => by
  have h := (Qm.sumF hf k).add (hf k)
  exact h.mono (by rw [Nat.add_mul]; omega)
def TotI (W : World) (g : Nat) (t : Rat) : Prop := ∃ E, Row W g [E] /\ Qc W E.a E.b E.c E.d t
theorem TotI.to {W V : World} {g : Nat} {t : Rat} (h : TotI W g t) (hb : Below W.heap.size W V) : TotI V g t := by
 obtain ⟨E, h1, h2⟩ := h
 exact ⟨E, h1.to hb, h2.to hb⟩
theorem TotI.grown {W V : World} {g : Nat} {t : Rat} {row : Option Nat} (h : TotI W g t) (hg : W.grownBy V row) (hr : ∀ r, row = some r -> ∃ o : Obj, W.heap[r]? = some o /\ o.isCells = false) : TotI V g t := by
 obtain ⟨E, h1, h2⟩ := h
 exact ⟨E, h1.grown hg hr, (Kw.grown hg hr).qc h2⟩
theorem dot_f {f : Nat -> Rat} {A A' : Option Addr} {c c' : Nat} {es fs : List E4} {w : World} (hx : Rq w w.heap.size A es) (hy : Rq w w.heap.size A' fs) (qx : ∀ e ∈ es, e.fq) (qy : ∀ e ∈ fs, e.fq)
  (hx63 : es.length <= 4398046511104) (hy63 : fs.length <= 4398046511104)
  (hF : ∀ (V : World) (E : E4), Below w.heap.size w V -> Row V (w.heap.size + 1) [E] -> ∀ i, i < max es.length fs.length -> Qc V E.a E.b E.c E.d (sumF f i) -> Calls Tryz.prog 58 #[(es.getD i E4.z).v, (fs.getD i E4.z).v, .pointer (some ⟨w.heap.size + 1, 0, none⟩)] V (DotR V (w.heap.size + 1) (sumF f (i + 1)))) :
  Calls Tryz.prog 23 #[.slice A es.length c, .slice A' fs.length c'] w (QR w (sumF f (max es.length fs.length))) := by
 have HF := Hd hF
 have HX63 := Hd hx63
 have HY63 := Hd hy63
 have RX := Hd hx
 have RY := Hd hy
 have QX := Hd qx
 have QY := Hd qy
 clear hF hx hy qx qy
 refine (callsIn_wide (n := 3)).1 ?_
 refine callsIn_of_wp_marks Tryz.func23 rfl trivial ?_ rfl
 simp only [Tryz.ntmps23, List.size_toArray, List.length_cons, List.length_nil, Nat.reduceAdd, Nat.reduceSub, Array.replicate_succ, Array.replicate_zero, List.push_toArray, List.append_toArray, List.nil_append, List.cons_append]
 gi_wp2_with (first
  | (refine ⟨trivial, ?_⟩; gi_at_call 59; refine (callsIn_wide.2 (vpairs_any _ _ _ _ _ _ _)).mono ?_; rintro e w' ⟨rfl, rfl⟩))
 obtain ⟨W0, hW0⟩ : ∃ W0, W0 = ((((w.alloc (.cells #[.bool false, .slice none 0 0, .bool false, .slice none 0 0] 26)).alloc (.cells #[.bool false, .slice none 0 0, .bool false, .slice none 0 0] 26)).alloc (.cells #[.func (.func 58) #[] #[.pointer (some ⟨w.heap.size + 1, 0, none⟩)]] 66)).alloc (.cells #[.slice A es.length c] 27)).alloc (.cells #[.slice A' fs.length c'] 27) := ⟨_, rfl⟩
 have hb0 : Below w.heap.size w W0 := by rw [hW0]; exact (((((Below.refl _ _).alloc (Nat.le_refl _) _).alloc (by simp) _).alloc (by simp; omega) _).alloc (by simp; omega) _).alloc (by simp; omega) _
 have hR0 : Hp W0 (w.heap.size) (.cells #[.bool false, .slice none 0 0, .bool false, .slice none 0 0] 26 (0, 0)) := by
  have h := Hp.new w #[.bool false, .slice none 0 0, .bool false, .slice none 0 0] 26
  rw [hW0]; exact ((((h.alloc _).alloc _).alloc _).alloc _)
 have hT0 : Hp W0 (w.heap.size + 1) (.cells #[.bool false, .slice none 0 0, .bool false, .slice none 0 0] 26 (0, 0)) := by
  have h := Hp.new (w.alloc (.cells #[.bool false, .slice none 0 0, .bool false, .slice none 0 0] 26)) #[.bool false, .slice none 0 0, .bool false, .slice none 0 0] 26
  rw [World.size_alloc] at h
  rw [hW0]; exact (((h.alloc _).alloc _).alloc _)
 have hC0 : Hp W0 (w.heap.size + 1 + 1) (.cells #[.func (.func 58) #[] #[.pointer (some ⟨w.heap.size + 1, 0, none⟩)]] 66 (0, 0)) := by
  have h := Hp.new ((w.alloc (.cells #[.bool false, .slice none 0 0, .bool false, .slice none 0 0] 26)).alloc (.cells #[.bool false, .slice none 0 0, .bool false, .slice none 0 0] 26)) #[.func (.func 58) #[] #[.pointer (some ⟨w.heap.size + 1, 0, none⟩)]] 66
  rw [World.size_alloc, World.size_alloc] at h
  rw [hW0]; exact ((h.alloc _).alloc _)
 have hx0 : Hp W0 (w.heap.size + 1 + 1 + 1) (.cells #[.slice A es.length c] 27 (0, 0)) := by
  have h := Hp.new (((w.alloc (.cells #[.bool false, .slice none 0 0, .bool false, .slice none 0 0] 26)).alloc (.cells #[.bool false, .slice none 0 0, .bool false, .slice none 0 0] 26)).alloc (.cells #[.func (.func 58) #[] #[.pointer (some ⟨w.heap.size + 1, 0, none⟩)]] 66)) #[.slice A es.length c] 27
  rw [World.size_alloc, World.size_alloc, World.size_alloc] at h
  rw [hW0]; exact (h.alloc _)
 have hy0 : Hp W0 (w.heap.size + 1 + 1 + 1 + 1) (.cells #[.slice A' fs.length c'] 27 (0, 0)) := by
  have h := Hp.new ((((w.alloc (.cells #[.bool false, .slice none 0 0, .bool false, .slice none 0 0] 26)).alloc (.cells #[.bool false, .slice none 0 0, .bool false, .slice none 0 0] 26)).alloc (.cells #[.func (.func 58) #[] #[.pointer (some ⟨w.heap.size + 1, 0, none⟩)]] 66)).alloc (.cells #[.slice A es.length c] 27)) #[.slice A' fs.length c'] 27
  rw [World.size_alloc, World.size_alloc, World.size_alloc, World.size_alloc] at h
  rw [hW0]; exact h
 have hP0 : PairI w (w.heap.size + 1 + 1 + 1) (.slice A es.length c) (.slice A' fs.length c') W0 := ⟨hx0, hy0, hb0⟩
 have hT0 : TotI W0 (w.heap.size + 1) (sumF f 0) := ⟨E4.z, Row.one hT0 Fq.nil, Zc.zero _, Zc.zero _⟩
 have hs0 : W0.heap.size = w.heap.size + 1 + 1 + 1 + 1 + 1 := by rw [hW0]; simp
 rw [<- hW0]
 clear hW0 hx0 hy0
 refine wp_roundsB (gf := 76) (lb := #[.pointer (some ⟨w.heap.size + 1 + 1 + 1, 0, none⟩), .pointer (some ⟨w.heap.size + 1 + 1 + 1 + 1, 0, none⟩)]) ?hg (enters_of Tryz.func76 (by kernel_rfl) rfl)
  (N := max es.length fs.length) (enc := vpairE es fs) (S := pairS (w.heap.size + 1 + 1 + 1) (w.heap.size + 1 + 1 + 1 + 1) w.heap.size) (pairS_lt (by omega) (by omega) (by omega))
  (fun W hW => by
   have h := hP0.to hW
   exact vpairs_gives (w.heap.size + 1 + 1 + 1) (w.heap.size + 1 + 1 + 1 + 1) w.heap.size c c' A A' es fs (by have := HX63.out; omega) (by have := HY63.out; omega) W h.bx.one h.by'.one (RX.out.below h.bel) (RY.out.below h.bel) QX.out QY.out)
  ?hps
  (fun k W => Hp W w.heap.size (.cells #[.bool false, .slice none 0 0, .bool false, .slice none 0 0] 26 (0, 0)) /\ TotI W (w.heap.size + 1) (sumF f k) /\ Hp W (w.heap.size + 1 + 1) (.cells #[.func (.func 58) #[] #[.pointer (some ⟨w.heap.size + 1, 0, none⟩)]] 66 (0, 0)) /\ PairI w (w.heap.size + 1 + 1 + 1) (.slice A es.length c) (.slice A' fs.length c') W)
  (fun k a1 W => ∃ p q, a1 = ⟨#[.slice A es.length c, .slice A' fs.length c', undef, undef, .pointer (some ⟨w.heap.size, 0, none⟩), .pointer (some ⟨w.heap.size + 1, 0, none⟩), .pointer (some ⟨w.heap.size + 1 + 1, 0, none⟩), .pointer (some ⟨p, 0, none⟩), .pointer (some ⟨q, 0, none⟩), .func (.func 58) #[] #[.pointer (some ⟨w.heap.size + 1, 0, none⟩)], .slice A es.length c, .slice A' fs.length c', .func (.func 76) #[] #[.pointer (some ⟨w.heap.size + 1 + 1 + 1, 0, none⟩), .pointer (some ⟨w.heap.size + 1 + 1 + 1 + 1, 0, none⟩)], (es.getD k E4.z).v, (fs.getD k E4.z).v, undef, undef, undef, undef, undef], []⟩ /\ (Hp W w.heap.size (.cells #[.bool false, .slice none 0 0, .bool false, .slice none 0 0] 26 (0, 0)) /\ TotI W (w.heap.size + 1) (sumF f k) /\ Hp W (w.heap.size + 1 + 1) (.cells #[.func (.func 58) #[] #[.pointer (some ⟨w.heap.size + 1, 0, none⟩)]] 66 (0, 0)) /\ PairI w (w.heap.size + 1 + 1 + 1) (.slice A es.length c) (.slice A' fs.length c') W) /\ EHp W p (es.getD k E4.z) /\ EHp W q (fs.getD k E4.z))
  (fun _ _ _ => False) ?hI ?hI1 ?hIb ?hIx ⟨hR0, hT0, hC0, hP0⟩ ?assign ?body ?done ?stop
 case hg => rfl
 case hps => exact fun _ => rfl
 case hI => exact fun k W V row h hg hr => ⟨h.1.grown hg (fun r e => (hr r e).2) rfl, h.2.1.grown hg (fun r e => (hr r e).2), h.2.2.1.grown hg (fun r e => (hr r e).2) rfl, h.2.2.2.grown (by omega) hg hr⟩
 case hI1 =>
  rintro ⟨k, a1⟩ W V row ⟨p, q, h1, h2, h3, h4⟩ hg hr
  exact ⟨p, q, h1, ⟨h2.1.grown hg (fun r e => (hr r e).2) rfl, h2.2.1.grown hg (fun r e => (hr r e).2), h2.2.2.1.grown hg (fun r e => (hr r e).2) rfl, h2.2.2.2.grown (by omega) hg hr⟩, Hp.grown h3 hg (fun r e => (hr r e).2) rfl, Hp.grown h4 hg (fun r e => (hr r e).2) rfl⟩
 case hIb => exact fun k W V h hb => ⟨h.1.to hb, h.2.1.to hb, h.2.2.1.to hb, h.2.2.2.to hb⟩
 case hIx => exact fun _ _ _ _ _ h _ _ => h
 case assign =>
  intro l k W K hlt hI hk hK
  have fx := fq_getD QX.out k
  have fy := fq_getD QY.out k
  have HK := Hd hK
  clear hK
  unfold vpairE
  generalize es.getD k E4.z = X at HK fx ⊢
  generalize fs.getD k E4.z = Y at HK fy ⊢
  obtain ⟨x1, x2, x3, x4⟩ := X
  obtain ⟨y1, y2, y3, y4⟩ := Y
  obtain ⟨⟨n1, A1, j1, m1, e1, e2⟩, ⟨n2, A2, j2, m2, e3, e4⟩⟩ := fx
  obtain ⟨⟨n3, A3, j3, m3, e5, e6⟩, ⟨n4, A4, j4, m4, e7, e8⟩⟩ := fy
  dsimp only at e1 e2 e3 e4 e5 e6 e7 e8
  subst e1 e2 e3 e4 e5 e6 e7 e8
  simp only [E4.v]
  simp only [E4.v] at HK
  gi_wp2
  have hbb : Below W.heap.size W ((W.alloc (.cells #[.bool n1, .slice A1 j1 m1, .bool n2, .slice A2 j2 m2] 26)).alloc (.cells #[.bool n3, .slice A3 j3 m3, .bool n4, .slice A4 j4 m4] 26)) := ((Below.refl _ _).alloc (Nat.le_refl _) _).alloc (by simp) _
  refine HK.out _ _ hbb ⟨_, _, rfl, ⟨hI.1.to hbb, hI.2.1.to hbb, hI.2.2.1.to hbb, hI.2.2.2.to hbb⟩, (Hp.new _ _ _).alloc _, ?_⟩
  have h := Hp.new (W.alloc (.cells #[.bool n1, .slice A1 j1 m1, .bool n2, .slice A2 j2 m2] 26)) #[.bool n3, .slice A3 j3 m3, .bool n4, .slice A4 j4 m4] 26
  rw [World.size_alloc] at h
  exact h
 case body =>
  rintro l k a1 W hlt ⟨p, q, rfl, ⟨hR, hT, hC, hP⟩, hp, hq⟩ hk
  have hbW := hP.bel
  have HFK0 := Hd fun (V : World) (hV : Below w.heap.size w V) (E : E4) (hE : Row V (w.heap.size + 1) [E]) (qE : Qc V E.a E.b E.c E.d (sumF f k)) => HF.out V E hV hE k hk qE
  obtain ⟨E, hE, qE⟩ := hT
  have HFK := Hd (HFK0.out W hbW E hE qE)
  clear HFK0
  obtain ⟨X, hX⟩ : ∃ X, es.getD k E4.z = X := ⟨_, rfl⟩
  obtain ⟨Y, hY⟩ : ∃ Y, fs.getD k E4.z = Y := ⟨_, rfl⟩
  rw [hX] at hp HFK ⊢
  rw [hY] at hq HFK ⊢
  clear hX hY
  obtain ⟨x1, x2, x3, x4⟩ := X
  obtain ⟨y1, y2, y3, y4⟩ := Y
  simp only [E4.v] at HFK ⊢
  have c0 := (Hp.four hp).c0
  have c1 := (Hp.four hp).c1
  have c2 := (Hp.four hp).c2
  have c3 := (Hp.four hp).c3
  have d0 := (Hp.four hq).c0
  have d1 := (Hp.four hq).c1
  have d2 := (Hp.four hq).c2
  have d3 := (Hp.four hq).c3
  dsimp only at c0 c1 c2 c3 d0 d1 d2 d3
  have HR := Hd hR
  have HC := Hd hC
  have HP := Hd hP
  have cC := hC.one
  have HS : Hid (w.heap.size + 1 + 1 + 1 + 1 + 1 < W.heap.size) := by show _ < _; omega
  clear hp hq hR hC hP HF hP0 hR0 hT0 hC0 RX RY QX QY hk hE qE
  gi_wp2_with (refine ⟨trivial, ?_⟩; gi_at_call 58; refine (CallsIn.inRound l (callsIn_wide.2 HFK.out)).mono ?_; rintro e V ⟨⟨v, rfl⟩, E2, hE2, qE2, hsz, hoth, hbel⟩)
  have hS := HS.out
  refine ⟨⟨hsz, fun j o hB hj _ => (hoth j (Array.getElem?_eq_some_iff.1 hj).1 (by omega)).trans hj⟩, KeepAt.of fun p hp => hoth _ ?_ ?_, ?_, ⟨E2, hE2, qE2⟩, ?_, ?_, ?_, ?_⟩
  .exact pairS_lt (S := W.heap.size) (by omega) (by omega) (by omega) p hp
  .rcases hp with rfl | rfl | hp
   .show w.heap.size + 1 + 1 + 1 ≠ w.heap.size + 1; omega
   .show w.heap.size + 1 + 1 + 1 + 1 ≠ w.heap.size + 1; omega
   .omega
  .exact (hoth _ (by omega) (by omega)).trans HR.out
  .exact (hoth _ (by omega) (by omega)).trans HC.out
  .exact (hoth _ (by omega) (by omega)).trans HP.out.bx
  .exact (hoth _ (by omega) (by omega)).trans HP.out.by'
  .exact HP.out.bel.trans (hbel _ (by omega))
 case done =>
  rintro W ⟨hR, ⟨E, hE, qE⟩, hC, hP⟩ hK
  rw [hs0] at hK
  have r1 := Row.one hR Fq.nil
  have hf : E.fq := hE.fq E (by simp)
  have hne : (w.heap.size + 1 + 1 + 1 + 1 + 1) ≠ w.heap.size := by omega
  have h4 := hE.four
  obtain ⟨e1, e2, e3, e4⟩ := E
  have c0 := h4.c0
  have c1 := h4.c1
  have c2 := h4.c2
  have c3 := h4.c3
  dsimp only at c0 c1 c2 c3
  have R1 := Hd r1
  have QF := Hd hf
  have hK' := (setRow_other W w.heap.size _ (flat ([⟨e1, e2, e3, e4⟩] : List E4)).toArray hne).trans hK
  have h5 : Row (W.setRow w.heap.size (flat ([⟨e1, e2, e3, e4⟩] : List E4)).toArray) w.heap.size [⟨e1, e2, e3, e4⟩] := r1.app (n := 0) (e := ⟨e1, e2, e3, e4⟩) hf
  have kw : Kw W (W.setRow w.heap.size (flat ([⟨e1, e2, e3, e4⟩] : List E4)).toArray) := r1.kw
  have hgp := grownBy_putObj' (W.setRow w.heap.size (flat ([⟨e1, e2, e3, e4⟩] : List E4)).toArray) (w.heap.size + 1 + 1 + 1 + 1 + 1) (.deferred none)
  have hgr : ∀ r, some (w.heap.size + 1 + 1 + 1 + 1 + 1) = some r -> ∃ o : Obj, (W.setRow w.heap.size (flat ([⟨e1, e2, e3, e4⟩] : List E4)).toArray).heap[r]? = some o /\ o.isCells = false := fun r e => by cases e; exact ⟨_, hK', rfl⟩
  have H6 := Hd (h5.grown hgp hgr).four
  have HE : Hid (QR w (sumF f (max es.length fs.length)) (.returned (.agg #[e1, e2, e3, e4])) ((W.setRow w.heap.size (flat ([⟨e1, e2, e3, e4⟩] : List E4)).toArray).putObj (w.heap.size + 1 + 1 + 1 + 1 + 1) (.deferred none))) :=
   ⟨e1, e2, e3, e4, rfl, (Kw.grown hgp hgr).qc (kw.qc qE), (below_setRow hP.bel (Nat.le_refl _) _).grown hgp (by rw [setRow_size]; exact hP.bel.size) (fun k e => by cases e; omega)⟩
  have HK' := Hd hK'
  clear hE hC hP hb0 hP0 hR0 hT0 hC0 qE h4 hK hgp hgr kw h5 hR r1 hK' hf
  gi_wp2_with (refine wpListIn_storeq (k := 0) (e := ⟨e1, e2, e3, e4⟩) rfl (.tmp 4) (.tmp 19) rfl (by rfl) (by rfl) R1.out (by simp) QF.out ?_; clear R1)
  refine ⟨by simp, .inl ⟨_, _, rfl, run_takeDeferred HK'.out, ?_⟩⟩
  refine ⟨.agg #[e1, e2, e3, e4], ?_, HE.out⟩
  have u0 := H6.out.c0
  have u1 := H6.out.c1
  have u2 := H6.out.c2
  have u3 := H6.out.c3
  simp [results, Tryz.f23, go_sem, u0, u1, u2, u3]
 case stop => exact fun _ _ _ _ h _ => h.elim
def dotQ (rs ss : List Rat) : Rat := sumF (fun i => rs.getD i 0 * ss.getD i 0) (max rs.length ss.length)
theorem vdot_v {w : World} {A A' : Option Addr} {c c' : Nat} {es fs : List E4} {rs ss : List Rat} {k l : Nat} (hA : Vi w A c es rs k) (hB : Vi w A' c' fs ss l) (hk : 0 < k) (hl : 0 < l) (h1 : rs.length <= 4398046511104) (h2 : ss.length <= 4398046511104)
  (hN : (max rs.length ss.length) * (k + l + 1) + 1 + (k + l) + 1 <= 10000) :
  Calls Tryz.prog 23 #[.slice A rs.length c, .slice A' ss.length c'] w (QR w (dotQ rs ss)) := by
 have hm : ∀ i, Qm (k + l) (rs.getD i 0 * ss.getD i 0) := fun i => ((hA.el i).qm hk).mul ((hB.el i).qm hl)
 have h := dot_f (f := fun i => rs.getD i 0 * ss.getD i 0) (c := c) (c' := c') hA.row hB.row hA.fq hB.fq (by rw [hA.len]; exact h1) (by rw [hB.len]; exact h2) (fun V E hV hE i hi qE => by
  rw [hA.len, hB.len] at hi
  have hi2 : i * (k + l + 1) <= (max rs.length ss.length) * (k + l + 1) := Nat.mul_le_mul_right _ (by omega)
  exact dot1_v hE qE ((hA.el i).to hV) ((hB.el i).to hV) (Qm.sumF hm i) hk hl (by omega) (by omega))
 rw [hA.len, hB.len] at h
 exact h
end Go.Proofs.YtcgdbdhhoomgiaaGreat
