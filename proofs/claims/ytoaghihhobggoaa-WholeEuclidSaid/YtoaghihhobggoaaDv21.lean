/- Parts: KDivMod. -/
import Derived.Test.YtoaghihhobggoaaDv8
import Derived.Test.YtoaghihhobggoaaDv20
set_option linter.unusedVariables false
set_option linter.unusedSimpArgs false

namespace Go.Proofs.Ytoaghihhobggoaa
open Go.RowKit Go.Shelf

set_option maxRecDepth 100000 in
set_option maxHeartbeats 2000000 in
theorem dx_ff {A A' : Option Addr} {c c' : Nat} {xs ys : List Nat} {w : World} (hx : Arg w A c xs) (hy : Arg w A' c' ys) (hxl : xs.length ≤ 4294967293) (h0 : 0 < val b32 ys) :
    Calls Try.prog 33 #[.agg #[.bool false, .slice A xs.length c], .agg #[.bool false, .slice A' ys.length c']] w (DRet w (zof false (val b32 xs / val b32 ys)) ((val b32 xs % val b32 ys : Nat) : Int)) := by
  have HX := Lib.hid hx
  have HY := Lib.hid hy
  have H0 := Lib.hid h0
  have hlen : ((trimL ys).length = 0) ↔ val b32 ys = 0 := by
    rw [trimL_dig b32_one hy.dg]
    exact ⟨fun h => (dig_nil b32_one).1 (List.eq_nil_of_length_eq_zero h), fun h => by rw [h]; rfl⟩
  have hq : ((((trimL ys).length : Nat) : Int) == 0) = false := by
    have : (trimL ys).length ≠ 0 := fun h => by have := hlen.1 h; omega
    rw [beq_eq_false_iff_ne]; omega
  clear hx hy h0 hlen
  obtain ⟨W0, hW0⟩ : ∃ W0, W0 = (((w.alloc (.cells #[.bool false, .slice A xs.length c] 24)).alloc (.cells #[.bool false, .slice A' ys.length c'] 24)).alloc (.cells #[.bool false, .slice none 0 0] 24)).alloc (.cells #[.bool false, .slice none 0 0] 24) := ⟨_, rfl⟩
  have hb : Below w.heap.size w W0 := by rw [hW0]; exact ((((Below.refl _ _).alloc (Nat.le_refl _) _).alloc (by simp) _).alloc (by simp; omega) _).alloc (by simp; omega) _
  have tX : Zat W0 w.heap.size (.bool false) (.slice A xs.length c) := by rw [hW0]; exact (((Zat.new w _ _).alloc _).alloc _).alloc _
  have tY : Zat W0 (w.heap.size + 1) (.bool false) (.slice A' ys.length c') := by
    have h := Zat.new (w.alloc (.cells #[.bool false, .slice A xs.length c] 24)) (.bool false) (.slice A' ys.length c')
    rw [World.size_alloc] at h
    rw [hW0]; exact (h.alloc _).alloc _
  have tQ : Zat W0 (w.heap.size + 1 + 1) (.bool false) (.slice none 0 0) := by
    have h := Zat.new ((w.alloc (.cells #[.bool false, .slice A xs.length c] 24)).alloc (.cells #[.bool false, .slice A' ys.length c'] 24)) (.bool false) (.slice none 0 0)
    rw [World.size_alloc, World.size_alloc] at h
    rw [hW0]; exact h.alloc _
  have tR : Zat W0 (w.heap.size + 1 + 1 + 1) (.bool false) (.slice none 0 0) := by
    have h := Zat.new (((w.alloc (.cells #[.bool false, .slice A xs.length c] 24)).alloc (.cells #[.bool false, .slice A' ys.length c'] 24)).alloc (.cells #[.bool false, .slice none 0 0] 24)) (.bool false) (.slice none 0 0)
    rw [World.size_alloc, World.size_alloc, World.size_alloc] at h
    rw [hW0]; exact h
  have q1 := tX.two.c1
  have q2 := tY.two.c1
  have HW0 := Lib.hid hW0
  clear hW0
  go_enter Try.func33, Try.ntmps33
  go_wp2_with fail
  rw [← HW0.out]
  go_quiet ((first | (go_at_call 44; with_reducible exact Calls.quiet_of_same (trim_q (HX.out.to (hb.trans (bel_drewN (Below.refl _ _) _))))) | (go_at_call 44; with_reducible exact Calls.quiet_of_same (trim_q (HY.out.to (hb.trans (bel_drewN (Below.refl _ _) _)))))))
  rename_i nq
  have hb1 : Below w.heap.size w (W0.drewN nq) := bel_drewN hb _
  have tX1 : Two (W0.drewN nq) w.heap.size _ _ := tX.two.to (bel_drewN (Below.refl _ _) _)
  have tY1 : Two (W0.drewN nq) (w.heap.size + 1) _ _ := tY.two.to (bel_drewN (Below.refl _ _) _)
  have tQ1 : Two (W0.drewN nq) (w.heap.size + 1 + 1) _ _ := tQ.two.to (bel_drewN (Below.refl _ _) _)
  have tR1 : Two (W0.drewN nq) (w.heap.size + 1 + 1 + 1) _ _ := tR.two.to (bel_drewN (Below.refl _ _) _)
  generalize W0.drewN nq = W1 at hb1 tX1 tY1 tQ1 tR1 ⊢
  clear q1 q2 tX tY tQ tR hb HW0
  go_wp2_with fail
  refine (divide_all (HX.out.to hb1) (HY.out.to hb1) H0.out (by omega)).mono ?_
  rintro e w2 ⟨A1, c1, qs, A2, c2, rs, rfl, AQ', AR', vq, r4, hb2⟩
  have VQ := Lib.hid vq
  have r1 := AQ'.rd
  have r2 := AR'.rd
  have r3 := AR'.dg
  have r5 := AQ'.le
  have r6 := AQ'.cap
  have r7 := AR'.le
  have r8 := AR'.cap
  have r9 := AR'.small
  have dq := AQ'.dg
  have hb3 := hb1.trans (hb2.mono hb1.size)
  have tX2 := tX1.to hb2
  have tY2 := tY1.to hb2
  have tQ2 := tQ1.to hb2
  have tR2 := tR1.to hb2
  have R4 := Lib.hid r4
  have AR := Lib.hid (⟨r2, r3, r7, r8, r9⟩ : Arg w2 A2 c2 rs)
  have R1 := Lib.hid r1
  have AQ := Lib.hid AQ'
  clear AQ' AR' vq r1 r2 r4 hb1 hb2 tX1 tY1 tQ1 tR1
  have p1 := tX2.c0
  have p2 := tY2.c0
  have I1 := Lib.hid (integer_l false R1.out dq r5 r6)
  rw [VQ.out] at I1
  obtain ⟨q, eq⟩ : ∃ q : Int, Hid (zof false (val b32 xs / val b32 ys) = q) := ⟨_, rfl⟩
  rw [eq.out] at I1
  go_wp2_with fail
  refine I1.out.mono ?_
  rintro e w5 ⟨A5, c5, rfl, s1, s2, s3, hb10⟩
  have hb11 := hb3.trans (hb10.mono hb3.size)
  have tQ5 := tQ2.to hb10
  have tR5 := tR2.to hb10
  have I2 := Lib.hid (integer_l false (AR.out.rd.to hb10) r3 r7 r8)
  rw [R4.out] at I2
  obtain ⟨r, er⟩ : ∃ r : Int, Hid (zof false (val b32 xs % val b32 ys) = r) := ⟨_, rfl⟩
  rw [er.out] at I2
  have S1 := Lib.hid s1
  clear s1 hb10 hb3 tQ2 tR2
  go_wp2_with fail
  refine I2.out.mono ?_
  rintro e w6 ⟨A6, c6, rfl, v1, v2, v3, hb12⟩
  have HB := Lib.hid (hb11.trans (hb12.mono hb11.size))
  have TQ := Lib.hid (tQ5.to hb12)
  have TR := Lib.hid (tR5.to hb12)
  obtain ⟨g1, g2, g3, g4, g5⟩ := tQ5.to hb12
  obtain ⟨k1, k2, k3, k4, k5⟩ := tR5.to hb12
  have S3 := Lib.hid (S1.out.to hb12)
  have V3 := Lib.hid v1
  clear v1 hb12 hb11 tQ5 tR5 p1 p2
  go_wp2
  have tF := TQ.out.set (.bool (decide (q < 0))) (.slice A5 (dig b32 q.natAbs).length c5)
  have tG := (TR.out.far (g' := w.heap.size + 1 + 1) (by omega) (.bool (decide (q < 0))) (.slice A5 (dig b32 q.natAbs).length c5)).set (.bool (decide (r < 0))) (.slice A6 (dig b32 r.natAbs).length c6)
  have tH := tF.far (g' := w.heap.size + 1 + 1 + 1) (by omega) (.bool (decide (r < 0))) (.slice A6 (dig b32 r.natAbs).length c6)
  refine bodyPost_ret (v := .tuple #[.agg #[.bool (decide (q < 0)), .slice A5 (dig b32 q.natAbs).length c5], .agg #[.bool (decide (r < 0)), .slice A6 (dig b32 r.natAbs).length c6], .int .i64 0])
    (by simp [results, Try.f33, go_sem, tH.c0, tH.c1, tG.c0, tG.c1]) rfl ?_
  rw [eq.out, show (((val b32 xs % val b32 ys : Nat) : Int)) = r from er.out]
  exact dret_stored TQ.out TR.out (by omega) (by omega) (by omega) S3.out V3.out s2 s3 v2 v3 HB.out

set_option maxRecDepth 100000 in
set_option maxHeartbeats 2000000 in
theorem dx_ft {A A' : Option Addr} {c c' : Nat} {xs ys : List Nat} {w : World} (hx : Arg w A c xs) (hy : Arg w A' c' ys) (hxl : xs.length ≤ 4294967293) (h0 : 0 < val b32 ys) :
    Calls Try.prog 33 #[.agg #[.bool false, .slice A xs.length c], .agg #[.bool true, .slice A' ys.length c']] w (DRet w (zof true (val b32 xs / val b32 ys)) ((val b32 xs % val b32 ys : Nat) : Int)) := by
  have HX := Lib.hid hx
  have HY := Lib.hid hy
  have H0 := Lib.hid h0
  have hlen : ((trimL ys).length = 0) ↔ val b32 ys = 0 := by
    rw [trimL_dig b32_one hy.dg]
    exact ⟨fun h => (dig_nil b32_one).1 (List.eq_nil_of_length_eq_zero h), fun h => by rw [h]; rfl⟩
  have hq : ((((trimL ys).length : Nat) : Int) == 0) = false := by
    have : (trimL ys).length ≠ 0 := fun h => by have := hlen.1 h; omega
    rw [beq_eq_false_iff_ne]; omega
  clear hx hy h0 hlen
  obtain ⟨W0, hW0⟩ : ∃ W0, W0 = (((w.alloc (.cells #[.bool false, .slice A xs.length c] 24)).alloc (.cells #[.bool true, .slice A' ys.length c'] 24)).alloc (.cells #[.bool false, .slice none 0 0] 24)).alloc (.cells #[.bool false, .slice none 0 0] 24) := ⟨_, rfl⟩
  have hb : Below w.heap.size w W0 := by rw [hW0]; exact ((((Below.refl _ _).alloc (Nat.le_refl _) _).alloc (by simp) _).alloc (by simp; omega) _).alloc (by simp; omega) _
  have tX : Zat W0 w.heap.size (.bool false) (.slice A xs.length c) := by rw [hW0]; exact (((Zat.new w _ _).alloc _).alloc _).alloc _
  have tY : Zat W0 (w.heap.size + 1) (.bool true) (.slice A' ys.length c') := by
    have h := Zat.new (w.alloc (.cells #[.bool false, .slice A xs.length c] 24)) (.bool true) (.slice A' ys.length c')
    rw [World.size_alloc] at h
    rw [hW0]; exact (h.alloc _).alloc _
  have tQ : Zat W0 (w.heap.size + 1 + 1) (.bool false) (.slice none 0 0) := by
    have h := Zat.new ((w.alloc (.cells #[.bool false, .slice A xs.length c] 24)).alloc (.cells #[.bool true, .slice A' ys.length c'] 24)) (.bool false) (.slice none 0 0)
    rw [World.size_alloc, World.size_alloc] at h
    rw [hW0]; exact h.alloc _
  have tR : Zat W0 (w.heap.size + 1 + 1 + 1) (.bool false) (.slice none 0 0) := by
    have h := Zat.new (((w.alloc (.cells #[.bool false, .slice A xs.length c] 24)).alloc (.cells #[.bool true, .slice A' ys.length c'] 24)).alloc (.cells #[.bool false, .slice none 0 0] 24)) (.bool false) (.slice none 0 0)
    rw [World.size_alloc, World.size_alloc, World.size_alloc] at h
    rw [hW0]; exact h
  have q1 := tX.two.c1
  have q2 := tY.two.c1
  have HW0 := Lib.hid hW0
  clear hW0
  go_enter Try.func33, Try.ntmps33
  go_wp2_with fail
  rw [← HW0.out]
  go_quiet ((first | (go_at_call 44; with_reducible exact Calls.quiet_of_same (trim_q (HX.out.to (hb.trans (bel_drewN (Below.refl _ _) _))))) | (go_at_call 44; with_reducible exact Calls.quiet_of_same (trim_q (HY.out.to (hb.trans (bel_drewN (Below.refl _ _) _)))))))
  rename_i nq
  have hb1 : Below w.heap.size w (W0.drewN nq) := bel_drewN hb _
  have tX1 : Two (W0.drewN nq) w.heap.size _ _ := tX.two.to (bel_drewN (Below.refl _ _) _)
  have tY1 : Two (W0.drewN nq) (w.heap.size + 1) _ _ := tY.two.to (bel_drewN (Below.refl _ _) _)
  have tQ1 : Two (W0.drewN nq) (w.heap.size + 1 + 1) _ _ := tQ.two.to (bel_drewN (Below.refl _ _) _)
  have tR1 : Two (W0.drewN nq) (w.heap.size + 1 + 1 + 1) _ _ := tR.two.to (bel_drewN (Below.refl _ _) _)
  generalize W0.drewN nq = W1 at hb1 tX1 tY1 tQ1 tR1 ⊢
  clear q1 q2 tX tY tQ tR hb HW0
  go_wp2_with fail
  refine (divide_all (HX.out.to hb1) (HY.out.to hb1) H0.out (by omega)).mono ?_
  rintro e w2 ⟨A1, c1, qs, A2, c2, rs, rfl, AQ', AR', vq, r4, hb2⟩
  have VQ := Lib.hid vq
  have r1 := AQ'.rd
  have r2 := AR'.rd
  have r3 := AR'.dg
  have r5 := AQ'.le
  have r6 := AQ'.cap
  have r7 := AR'.le
  have r8 := AR'.cap
  have r9 := AR'.small
  have dq := AQ'.dg
  have hb3 := hb1.trans (hb2.mono hb1.size)
  have tX2 := tX1.to hb2
  have tY2 := tY1.to hb2
  have tQ2 := tQ1.to hb2
  have tR2 := tR1.to hb2
  have R4 := Lib.hid r4
  have AR := Lib.hid (⟨r2, r3, r7, r8, r9⟩ : Arg w2 A2 c2 rs)
  have R1 := Lib.hid r1
  have AQ := Lib.hid AQ'
  clear AQ' AR' vq r1 r2 r4 hb1 hb2 tX1 tY1 tQ1 tR1
  have p1 := tX2.c0
  have p2 := tY2.c0
  have I1 := Lib.hid (integer_l true R1.out dq r5 r6)
  rw [VQ.out] at I1
  obtain ⟨q, eq⟩ : ∃ q : Int, Hid (zof true (val b32 xs / val b32 ys) = q) := ⟨_, rfl⟩
  rw [eq.out] at I1
  go_wp2_with fail
  refine I1.out.mono ?_
  rintro e w5 ⟨A5, c5, rfl, s1, s2, s3, hb10⟩
  have hb11 := hb3.trans (hb10.mono hb3.size)
  have tQ5 := tQ2.to hb10
  have tR5 := tR2.to hb10
  have I2 := Lib.hid (integer_l false (AR.out.rd.to hb10) r3 r7 r8)
  rw [R4.out] at I2
  obtain ⟨r, er⟩ : ∃ r : Int, Hid (zof false (val b32 xs % val b32 ys) = r) := ⟨_, rfl⟩
  rw [er.out] at I2
  have S1 := Lib.hid s1
  clear s1 hb10 hb3 tQ2 tR2
  go_wp2_with fail
  refine I2.out.mono ?_
  rintro e w6 ⟨A6, c6, rfl, v1, v2, v3, hb12⟩
  have HB := Lib.hid (hb11.trans (hb12.mono hb11.size))
  have TQ := Lib.hid (tQ5.to hb12)
  have TR := Lib.hid (tR5.to hb12)
  obtain ⟨g1, g2, g3, g4, g5⟩ := tQ5.to hb12
  obtain ⟨k1, k2, k3, k4, k5⟩ := tR5.to hb12
  have S3 := Lib.hid (S1.out.to hb12)
  have V3 := Lib.hid v1
  clear v1 hb12 hb11 tQ5 tR5 p1 p2
  go_wp2
  have tF := TQ.out.set (.bool (decide (q < 0))) (.slice A5 (dig b32 q.natAbs).length c5)
  have tG := (TR.out.far (g' := w.heap.size + 1 + 1) (by omega) (.bool (decide (q < 0))) (.slice A5 (dig b32 q.natAbs).length c5)).set (.bool (decide (r < 0))) (.slice A6 (dig b32 r.natAbs).length c6)
  have tH := tF.far (g' := w.heap.size + 1 + 1 + 1) (by omega) (.bool (decide (r < 0))) (.slice A6 (dig b32 r.natAbs).length c6)
  refine bodyPost_ret (v := .tuple #[.agg #[.bool (decide (q < 0)), .slice A5 (dig b32 q.natAbs).length c5], .agg #[.bool (decide (r < 0)), .slice A6 (dig b32 r.natAbs).length c6], .int .i64 0])
    (by simp [results, Try.f33, go_sem, tH.c0, tH.c1, tG.c0, tG.c1]) rfl ?_
  rw [eq.out, show (((val b32 xs % val b32 ys : Nat) : Int)) = r from er.out]
  exact dret_stored TQ.out TR.out (by omega) (by omega) (by omega) S3.out V3.out s2 s3 v2 v3 HB.out

set_option maxRecDepth 100000 in
set_option maxHeartbeats 2000000 in
theorem dx_tfz {A A' : Option Addr} {c c' : Nat} {xs ys : List Nat} {w : World} (hx : Arg w A c xs) (hy : Arg w A' c' ys) (hxl : xs.length ≤ 4294967293) (h0 : 0 < val b32 ys) (hm : val b32 xs % val b32 ys = 0) :
    Calls Try.prog 33 #[.agg #[.bool true, .slice A xs.length c], .agg #[.bool false, .slice A' ys.length c']] w (DRet w (zof true (val b32 xs / val b32 ys)) ((val b32 xs % val b32 ys : Nat) : Int)) := by
  have HX := Lib.hid hx
  have HY := Lib.hid hy
  have H0 := Lib.hid h0
  have HM := Lib.hid hm
  have hlen : ((trimL ys).length = 0) ↔ val b32 ys = 0 := by
    rw [trimL_dig b32_one hy.dg]
    exact ⟨fun h => (dig_nil b32_one).1 (List.eq_nil_of_length_eq_zero h), fun h => by rw [h]; rfl⟩
  have hq : ((((trimL ys).length : Nat) : Int) == 0) = false := by
    have : (trimL ys).length ≠ 0 := fun h => by have := hlen.1 h; omega
    rw [beq_eq_false_iff_ne]; omega
  clear hx hy h0 hlen hm
  obtain ⟨W0, hW0⟩ : ∃ W0, W0 = (((w.alloc (.cells #[.bool true, .slice A xs.length c] 24)).alloc (.cells #[.bool false, .slice A' ys.length c'] 24)).alloc (.cells #[.bool false, .slice none 0 0] 24)).alloc (.cells #[.bool false, .slice none 0 0] 24) := ⟨_, rfl⟩
  have hb : Below w.heap.size w W0 := by rw [hW0]; exact ((((Below.refl _ _).alloc (Nat.le_refl _) _).alloc (by simp) _).alloc (by simp; omega) _).alloc (by simp; omega) _
  have tX : Zat W0 w.heap.size (.bool true) (.slice A xs.length c) := by rw [hW0]; exact (((Zat.new w _ _).alloc _).alloc _).alloc _
  have tY : Zat W0 (w.heap.size + 1) (.bool false) (.slice A' ys.length c') := by
    have h := Zat.new (w.alloc (.cells #[.bool true, .slice A xs.length c] 24)) (.bool false) (.slice A' ys.length c')
    rw [World.size_alloc] at h
    rw [hW0]; exact (h.alloc _).alloc _
  have tQ : Zat W0 (w.heap.size + 1 + 1) (.bool false) (.slice none 0 0) := by
    have h := Zat.new ((w.alloc (.cells #[.bool true, .slice A xs.length c] 24)).alloc (.cells #[.bool false, .slice A' ys.length c'] 24)) (.bool false) (.slice none 0 0)
    rw [World.size_alloc, World.size_alloc] at h
    rw [hW0]; exact h.alloc _
  have tR : Zat W0 (w.heap.size + 1 + 1 + 1) (.bool false) (.slice none 0 0) := by
    have h := Zat.new (((w.alloc (.cells #[.bool true, .slice A xs.length c] 24)).alloc (.cells #[.bool false, .slice A' ys.length c'] 24)).alloc (.cells #[.bool false, .slice none 0 0] 24)) (.bool false) (.slice none 0 0)
    rw [World.size_alloc, World.size_alloc, World.size_alloc] at h
    rw [hW0]; exact h
  have q1 := tX.two.c1
  have q2 := tY.two.c1
  have HW0 := Lib.hid hW0
  clear hW0
  go_enter Try.func33, Try.ntmps33
  go_wp2_with fail
  rw [← HW0.out]
  go_quiet ((first | (go_at_call 44; with_reducible exact Calls.quiet_of_same (trim_q (HX.out.to (hb.trans (bel_drewN (Below.refl _ _) _))))) | (go_at_call 44; with_reducible exact Calls.quiet_of_same (trim_q (HY.out.to (hb.trans (bel_drewN (Below.refl _ _) _)))))))
  rename_i nq
  have hb1 : Below w.heap.size w (W0.drewN nq) := bel_drewN hb _
  have tX1 : Two (W0.drewN nq) w.heap.size _ _ := tX.two.to (bel_drewN (Below.refl _ _) _)
  have tY1 : Two (W0.drewN nq) (w.heap.size + 1) _ _ := tY.two.to (bel_drewN (Below.refl _ _) _)
  have tQ1 : Two (W0.drewN nq) (w.heap.size + 1 + 1) _ _ := tQ.two.to (bel_drewN (Below.refl _ _) _)
  have tR1 : Two (W0.drewN nq) (w.heap.size + 1 + 1 + 1) _ _ := tR.two.to (bel_drewN (Below.refl _ _) _)
  generalize W0.drewN nq = W1 at hb1 tX1 tY1 tQ1 tR1 ⊢
  clear q1 q2 tX tY tQ tR hb HW0
  go_wp2_with fail
  refine (divide_all (HX.out.to hb1) (HY.out.to hb1) H0.out (by omega)).mono ?_
  rintro e w2 ⟨A1, c1, qs, A2, c2, rs, rfl, AQ', AR', vq, r4, hb2⟩
  have VQ := Lib.hid vq
  have r1 := AQ'.rd
  have r2 := AR'.rd
  have r3 := AR'.dg
  have r5 := AQ'.le
  have r6 := AQ'.cap
  have r7 := AR'.le
  have r8 := AR'.cap
  have r9 := AR'.small
  have dq := AQ'.dg
  have hb3 := hb1.trans (hb2.mono hb1.size)
  have tX2 := tX1.to hb2
  have tY2 := tY1.to hb2
  have tQ2 := tQ1.to hb2
  have tR2 := tR1.to hb2
  have R4 := Lib.hid r4
  have AR := Lib.hid (⟨r2, r3, r7, r8, r9⟩ : Arg w2 A2 c2 rs)
  have R1 := Lib.hid r1
  have AQ := Lib.hid AQ'
  clear AQ' AR' vq r1 r2 r4 hb1 hb2 tX1 tY1 tQ1 tR1
  have p1 := tX2.c0
  have p2 := tY2.c0
  have hrl : (trimL rs).length = 0 := by
    rw [trimL_dig b32_one AR.out.dg, R4.out, HM.out]; rfl
  have HT := Lib.hid (trim_l AR.out)
  rw [hrl] at HT
  clear hrl
  go_wp2_with fail
  refine HT.out.mono ?_
  rintro e w' ⟨rfl, rfl⟩
  have I1 := Lib.hid (integer_l true R1.out dq r5 r6)
  rw [VQ.out] at I1
  obtain ⟨q, eq⟩ : ∃ q : Int, Hid (zof true (val b32 xs / val b32 ys) = q) := ⟨_, rfl⟩
  rw [eq.out] at I1
  go_wp2_with fail
  refine I1.out.mono ?_
  rintro e w5 ⟨A5, c5, rfl, s1, s2, s3, hb10⟩
  have hb11 := hb3.trans (hb10.mono hb3.size)
  have tQ5 := tQ2.to hb10
  have tR5 := tR2.to hb10
  have I2 := Lib.hid (integer_l false (AR.out.rd.to hb10) r3 r7 r8)
  rw [R4.out] at I2
  obtain ⟨r, er⟩ : ∃ r : Int, Hid (zof false (val b32 xs % val b32 ys) = r) := ⟨_, rfl⟩
  rw [er.out] at I2
  have S1 := Lib.hid s1
  clear s1 hb10 hb3 tQ2 tR2
  go_wp2_with fail
  refine I2.out.mono ?_
  rintro e w6 ⟨A6, c6, rfl, v1, v2, v3, hb12⟩
  have HB := Lib.hid (hb11.trans (hb12.mono hb11.size))
  have TQ := Lib.hid (tQ5.to hb12)
  have TR := Lib.hid (tR5.to hb12)
  obtain ⟨g1, g2, g3, g4, g5⟩ := tQ5.to hb12
  obtain ⟨k1, k2, k3, k4, k5⟩ := tR5.to hb12
  have S3 := Lib.hid (S1.out.to hb12)
  have V3 := Lib.hid v1
  clear v1 hb12 hb11 tQ5 tR5 p1 p2
  go_wp2
  have tF := TQ.out.set (.bool (decide (q < 0))) (.slice A5 (dig b32 q.natAbs).length c5)
  have tG := (TR.out.far (g' := w.heap.size + 1 + 1) (by omega) (.bool (decide (q < 0))) (.slice A5 (dig b32 q.natAbs).length c5)).set (.bool (decide (r < 0))) (.slice A6 (dig b32 r.natAbs).length c6)
  have tH := tF.far (g' := w.heap.size + 1 + 1 + 1) (by omega) (.bool (decide (r < 0))) (.slice A6 (dig b32 r.natAbs).length c6)
  refine bodyPost_ret (v := .tuple #[.agg #[.bool (decide (q < 0)), .slice A5 (dig b32 q.natAbs).length c5], .agg #[.bool (decide (r < 0)), .slice A6 (dig b32 r.natAbs).length c6], .int .i64 0])
    (by simp [results, Try.f33, go_sem, tH.c0, tH.c1, tG.c0, tG.c1]) rfl ?_
  rw [eq.out, show (((val b32 xs % val b32 ys : Nat) : Int)) = r from er.out]
  exact dret_stored TQ.out TR.out (by omega) (by omega) (by omega) S3.out V3.out s2 s3 v2 v3 HB.out

set_option maxRecDepth 100000 in
set_option maxHeartbeats 2000000 in
theorem dx_ttz {A A' : Option Addr} {c c' : Nat} {xs ys : List Nat} {w : World} (hx : Arg w A c xs) (hy : Arg w A' c' ys) (hxl : xs.length ≤ 4294967293) (h0 : 0 < val b32 ys) (hm : val b32 xs % val b32 ys = 0) :
    Calls Try.prog 33 #[.agg #[.bool true, .slice A xs.length c], .agg #[.bool true, .slice A' ys.length c']] w (DRet w (zof false (val b32 xs / val b32 ys)) ((val b32 xs % val b32 ys : Nat) : Int)) := by
  have HX := Lib.hid hx
  have HY := Lib.hid hy
  have H0 := Lib.hid h0
  have HM := Lib.hid hm
  have hlen : ((trimL ys).length = 0) ↔ val b32 ys = 0 := by
    rw [trimL_dig b32_one hy.dg]
    exact ⟨fun h => (dig_nil b32_one).1 (List.eq_nil_of_length_eq_zero h), fun h => by rw [h]; rfl⟩
  have hq : ((((trimL ys).length : Nat) : Int) == 0) = false := by
    have : (trimL ys).length ≠ 0 := fun h => by have := hlen.1 h; omega
    rw [beq_eq_false_iff_ne]; omega
  clear hx hy h0 hlen hm
  obtain ⟨W0, hW0⟩ : ∃ W0, W0 = (((w.alloc (.cells #[.bool true, .slice A xs.length c] 24)).alloc (.cells #[.bool true, .slice A' ys.length c'] 24)).alloc (.cells #[.bool false, .slice none 0 0] 24)).alloc (.cells #[.bool false, .slice none 0 0] 24) := ⟨_, rfl⟩
  have hb : Below w.heap.size w W0 := by rw [hW0]; exact ((((Below.refl _ _).alloc (Nat.le_refl _) _).alloc (by simp) _).alloc (by simp; omega) _).alloc (by simp; omega) _
  have tX : Zat W0 w.heap.size (.bool true) (.slice A xs.length c) := by rw [hW0]; exact (((Zat.new w _ _).alloc _).alloc _).alloc _
  have tY : Zat W0 (w.heap.size + 1) (.bool true) (.slice A' ys.length c') := by
    have h := Zat.new (w.alloc (.cells #[.bool true, .slice A xs.length c] 24)) (.bool true) (.slice A' ys.length c')
    rw [World.size_alloc] at h
    rw [hW0]; exact (h.alloc _).alloc _
  have tQ : Zat W0 (w.heap.size + 1 + 1) (.bool false) (.slice none 0 0) := by
    have h := Zat.new ((w.alloc (.cells #[.bool true, .slice A xs.length c] 24)).alloc (.cells #[.bool true, .slice A' ys.length c'] 24)) (.bool false) (.slice none 0 0)
    rw [World.size_alloc, World.size_alloc] at h
    rw [hW0]; exact h.alloc _
  have tR : Zat W0 (w.heap.size + 1 + 1 + 1) (.bool false) (.slice none 0 0) := by
    have h := Zat.new (((w.alloc (.cells #[.bool true, .slice A xs.length c] 24)).alloc (.cells #[.bool true, .slice A' ys.length c'] 24)).alloc (.cells #[.bool false, .slice none 0 0] 24)) (.bool false) (.slice none 0 0)
    rw [World.size_alloc, World.size_alloc, World.size_alloc] at h
    rw [hW0]; exact h
  have q1 := tX.two.c1
  have q2 := tY.two.c1
  have HW0 := Lib.hid hW0
  clear hW0
  go_enter Try.func33, Try.ntmps33
  go_wp2_with fail
  rw [← HW0.out]
  go_quiet ((first | (go_at_call 44; with_reducible exact Calls.quiet_of_same (trim_q (HX.out.to (hb.trans (bel_drewN (Below.refl _ _) _))))) | (go_at_call 44; with_reducible exact Calls.quiet_of_same (trim_q (HY.out.to (hb.trans (bel_drewN (Below.refl _ _) _)))))))
  rename_i nq
  have hb1 : Below w.heap.size w (W0.drewN nq) := bel_drewN hb _
  have tX1 : Two (W0.drewN nq) w.heap.size _ _ := tX.two.to (bel_drewN (Below.refl _ _) _)
  have tY1 : Two (W0.drewN nq) (w.heap.size + 1) _ _ := tY.two.to (bel_drewN (Below.refl _ _) _)
  have tQ1 : Two (W0.drewN nq) (w.heap.size + 1 + 1) _ _ := tQ.two.to (bel_drewN (Below.refl _ _) _)
  have tR1 : Two (W0.drewN nq) (w.heap.size + 1 + 1 + 1) _ _ := tR.two.to (bel_drewN (Below.refl _ _) _)
  generalize W0.drewN nq = W1 at hb1 tX1 tY1 tQ1 tR1 ⊢
  clear q1 q2 tX tY tQ tR hb HW0
  go_wp2_with fail
  refine (divide_all (HX.out.to hb1) (HY.out.to hb1) H0.out (by omega)).mono ?_
  rintro e w2 ⟨A1, c1, qs, A2, c2, rs, rfl, AQ', AR', vq, r4, hb2⟩
  have VQ := Lib.hid vq
  have r1 := AQ'.rd
  have r2 := AR'.rd
  have r3 := AR'.dg
  have r5 := AQ'.le
  have r6 := AQ'.cap
  have r7 := AR'.le
  have r8 := AR'.cap
  have r9 := AR'.small
  have dq := AQ'.dg
  have hb3 := hb1.trans (hb2.mono hb1.size)
  have tX2 := tX1.to hb2
  have tY2 := tY1.to hb2
  have tQ2 := tQ1.to hb2
  have tR2 := tR1.to hb2
  have R4 := Lib.hid r4
  have AR := Lib.hid (⟨r2, r3, r7, r8, r9⟩ : Arg w2 A2 c2 rs)
  have R1 := Lib.hid r1
  have AQ := Lib.hid AQ'
  clear AQ' AR' vq r1 r2 r4 hb1 hb2 tX1 tY1 tQ1 tR1
  have p1 := tX2.c0
  have p2 := tY2.c0
  have hrl : (trimL rs).length = 0 := by
    rw [trimL_dig b32_one AR.out.dg, R4.out, HM.out]; rfl
  have HT := Lib.hid (trim_l AR.out)
  rw [hrl] at HT
  clear hrl
  go_wp2_with fail
  refine HT.out.mono ?_
  rintro e w' ⟨rfl, rfl⟩
  have I1 := Lib.hid (integer_l false R1.out dq r5 r6)
  rw [VQ.out] at I1
  obtain ⟨q, eq⟩ : ∃ q : Int, Hid (zof false (val b32 xs / val b32 ys) = q) := ⟨_, rfl⟩
  rw [eq.out] at I1
  go_wp2_with fail
  refine I1.out.mono ?_
  rintro e w5 ⟨A5, c5, rfl, s1, s2, s3, hb10⟩
  have hb11 := hb3.trans (hb10.mono hb3.size)
  have tQ5 := tQ2.to hb10
  have tR5 := tR2.to hb10
  have I2 := Lib.hid (integer_l false (AR.out.rd.to hb10) r3 r7 r8)
  rw [R4.out] at I2
  obtain ⟨r, er⟩ : ∃ r : Int, Hid (zof false (val b32 xs % val b32 ys) = r) := ⟨_, rfl⟩
  rw [er.out] at I2
  have S1 := Lib.hid s1
  clear s1 hb10 hb3 tQ2 tR2
  go_wp2_with fail
  refine I2.out.mono ?_
  rintro e w6 ⟨A6, c6, rfl, v1, v2, v3, hb12⟩
  have HB := Lib.hid (hb11.trans (hb12.mono hb11.size))
  have TQ := Lib.hid (tQ5.to hb12)
  have TR := Lib.hid (tR5.to hb12)
  obtain ⟨g1, g2, g3, g4, g5⟩ := tQ5.to hb12
  obtain ⟨k1, k2, k3, k4, k5⟩ := tR5.to hb12
  have S3 := Lib.hid (S1.out.to hb12)
  have V3 := Lib.hid v1
  clear v1 hb12 hb11 tQ5 tR5 p1 p2
  go_wp2
  have tF := TQ.out.set (.bool (decide (q < 0))) (.slice A5 (dig b32 q.natAbs).length c5)
  have tG := (TR.out.far (g' := w.heap.size + 1 + 1) (by omega) (.bool (decide (q < 0))) (.slice A5 (dig b32 q.natAbs).length c5)).set (.bool (decide (r < 0))) (.slice A6 (dig b32 r.natAbs).length c6)
  have tH := tF.far (g' := w.heap.size + 1 + 1 + 1) (by omega) (.bool (decide (r < 0))) (.slice A6 (dig b32 r.natAbs).length c6)
  refine bodyPost_ret (v := .tuple #[.agg #[.bool (decide (q < 0)), .slice A5 (dig b32 q.natAbs).length c5], .agg #[.bool (decide (r < 0)), .slice A6 (dig b32 r.natAbs).length c6], .int .i64 0])
    (by simp [results, Try.f33, go_sem, tH.c0, tH.c1, tG.c0, tG.c1]) rfl ?_
  rw [eq.out, show (((val b32 xs % val b32 ys : Nat) : Int)) = r from er.out]
  exact dret_stored TQ.out TR.out (by omega) (by omega) (by omega) S3.out V3.out s2 s3 v2 v3 HB.out

set_option maxRecDepth 100000 in
set_option maxHeartbeats 2000000 in
theorem dx_tfn {A A' : Option Addr} {c c' : Nat} {xs ys : List Nat} {w : World} (hx : Arg w A c xs) (hy : Arg w A' c' ys) (hxl : xs.length ≤ 4294967293) (h0 : 0 < val b32 ys) (hm : 0 < val b32 xs % val b32 ys) :
    Calls Try.prog 33 #[.agg #[.bool true, .slice A xs.length c], .agg #[.bool false, .slice A' ys.length c']] w (DRet w (zof true (val b32 xs / val b32 ys + 1)) ((val b32 ys - val b32 xs % val b32 ys : Nat) : Int)) := by
  have HX := Lib.hid hx
  have HY := Lib.hid hy
  have H0 := Lib.hid h0
  have HM := Lib.hid hm
  have hlen : ((trimL ys).length = 0) ↔ val b32 ys = 0 := by
    rw [trimL_dig b32_one hy.dg]
    exact ⟨fun h => (dig_nil b32_one).1 (List.eq_nil_of_length_eq_zero h), fun h => by rw [h]; rfl⟩
  have hq : ((((trimL ys).length : Nat) : Int) == 0) = false := by
    have : (trimL ys).length ≠ 0 := fun h => by have := hlen.1 h; omega
    rw [beq_eq_false_iff_ne]; omega
  clear hx hy h0 hlen hm
  obtain ⟨W0, hW0⟩ : ∃ W0, W0 = (((w.alloc (.cells #[.bool true, .slice A xs.length c] 24)).alloc (.cells #[.bool false, .slice A' ys.length c'] 24)).alloc (.cells #[.bool false, .slice none 0 0] 24)).alloc (.cells #[.bool false, .slice none 0 0] 24) := ⟨_, rfl⟩
  have hb : Below w.heap.size w W0 := by rw [hW0]; exact ((((Below.refl _ _).alloc (Nat.le_refl _) _).alloc (by simp) _).alloc (by simp; omega) _).alloc (by simp; omega) _
  have tX : Zat W0 w.heap.size (.bool true) (.slice A xs.length c) := by rw [hW0]; exact (((Zat.new w _ _).alloc _).alloc _).alloc _
  have tY : Zat W0 (w.heap.size + 1) (.bool false) (.slice A' ys.length c') := by
    have h := Zat.new (w.alloc (.cells #[.bool true, .slice A xs.length c] 24)) (.bool false) (.slice A' ys.length c')
    rw [World.size_alloc] at h
    rw [hW0]; exact (h.alloc _).alloc _
  have tQ : Zat W0 (w.heap.size + 1 + 1) (.bool false) (.slice none 0 0) := by
    have h := Zat.new ((w.alloc (.cells #[.bool true, .slice A xs.length c] 24)).alloc (.cells #[.bool false, .slice A' ys.length c'] 24)) (.bool false) (.slice none 0 0)
    rw [World.size_alloc, World.size_alloc] at h
    rw [hW0]; exact h.alloc _
  have tR : Zat W0 (w.heap.size + 1 + 1 + 1) (.bool false) (.slice none 0 0) := by
    have h := Zat.new (((w.alloc (.cells #[.bool true, .slice A xs.length c] 24)).alloc (.cells #[.bool false, .slice A' ys.length c'] 24)).alloc (.cells #[.bool false, .slice none 0 0] 24)) (.bool false) (.slice none 0 0)
    rw [World.size_alloc, World.size_alloc, World.size_alloc] at h
    rw [hW0]; exact h
  have q1 := tX.two.c1
  have q2 := tY.two.c1
  have HW0 := Lib.hid hW0
  clear hW0
  go_enter Try.func33, Try.ntmps33
  go_wp2_with fail
  rw [← HW0.out]
  go_quiet ((first | (go_at_call 44; with_reducible exact Calls.quiet_of_same (trim_q (HX.out.to (hb.trans (bel_drewN (Below.refl _ _) _))))) | (go_at_call 44; with_reducible exact Calls.quiet_of_same (trim_q (HY.out.to (hb.trans (bel_drewN (Below.refl _ _) _)))))))
  rename_i nq
  have hb1 : Below w.heap.size w (W0.drewN nq) := bel_drewN hb _
  have tX1 : Two (W0.drewN nq) w.heap.size _ _ := tX.two.to (bel_drewN (Below.refl _ _) _)
  have tY1 : Two (W0.drewN nq) (w.heap.size + 1) _ _ := tY.two.to (bel_drewN (Below.refl _ _) _)
  have tQ1 : Two (W0.drewN nq) (w.heap.size + 1 + 1) _ _ := tQ.two.to (bel_drewN (Below.refl _ _) _)
  have tR1 : Two (W0.drewN nq) (w.heap.size + 1 + 1 + 1) _ _ := tR.two.to (bel_drewN (Below.refl _ _) _)
  generalize W0.drewN nq = W1 at hb1 tX1 tY1 tQ1 tR1 ⊢
  clear q1 q2 tX tY tQ tR hb HW0
  go_wp2_with fail
  refine (divide_all (HX.out.to hb1) (HY.out.to hb1) H0.out (by omega)).mono ?_
  rintro e w2 ⟨A1, c1, qs, A2, c2, rs, rfl, AQ', AR', vq, r4, hb2⟩
  have VQ := Lib.hid vq
  have r1 := AQ'.rd
  have r2 := AR'.rd
  have r3 := AR'.dg
  have r5 := AQ'.le
  have r6 := AQ'.cap
  have r7 := AR'.le
  have r8 := AR'.cap
  have r9 := AR'.small
  have dq := AQ'.dg
  have hb3 := hb1.trans (hb2.mono hb1.size)
  have tX2 := tX1.to hb2
  have tY2 := tY1.to hb2
  have tQ2 := tQ1.to hb2
  have tR2 := tR1.to hb2
  have R4 := Lib.hid r4
  have AR := Lib.hid (⟨r2, r3, r7, r8, r9⟩ : Arg w2 A2 c2 rs)
  have R1 := Lib.hid r1
  have AQ := Lib.hid AQ'
  clear AQ' AR' vq r1 r2 r4 hb1 hb2 tX1 tY1 tQ1 tR1
  have p1 := tX2.c0
  have p2 := tY2.c0
  have hrl : (0 : Int) < ((trimL rs).length : Nat) := by
    rcases Nat.eq_zero_or_pos (trimL rs).length with h | h
    · exfalso
      rw [trimL_dig b32_one AR.out.dg, R4.out] at h
      have h1 := (dig_nil b32_one).1 (List.eq_nil_of_length_eq_zero h)
      have h2 := HM.out
      omega
    · omega
  have HT := Lib.hid (trim_l AR.out)
  go_wp2_with fail
  refine HT.out.mono ?_
  rintro e w' ⟨rfl, rfl⟩
  clear HT
  have ho : Arg (w2.alloc (.cells #[.int .u32 1] 52)) (some ⟨w2.heap.size, 0, none⟩) 1 [1] := by
    have h := Rd.new .u32 w2 52 [1]
    exact ⟨by simpa [ints] using h, Dg.one (by decide), by simp, by omega, by simp⟩
  have hb4 : Below w2.heap.size w2 (w2.alloc (.cells #[.int .u32 1] 52)) := (Below.refl _ _).alloc (Nat.le_refl _) _
  have C1 := Lib.hid (combine_l (q := 1) (.inl rfl) (AQ.out.to hb4) ho (by omega))
  have HB4 := Lib.hid hb4
  clear ho hb4
  go_wp2_with fail
  refine C1.out.mono ?_
  rintro e w3 ⟨A3, c3, zs, rfl, u1, u2, u3, u4, u5, u6, hb5⟩
  rw [VQ.out] at u6
  have hb6 := HB4.out.trans (hb5.mono HB4.out.size)
  have hb7 := hb3.trans (hb6.mono hb3.size)
  have tX3 := tX2.to hb6
  have tY3 := tY2.to hb6
  have tQ3 := tQ2.to hb6
  have tR3 := tR2.to hb6
  have hmod := Nat.mod_lt (val b32 xs) H0.out
  have C2 := Lib.hid (combine_l (q := -1) (.inr rfl) (HY.out.to hb7).trim (AR.out.to hb6) (by rw [val_trimL, R4.out]; omega))
  have V1 : Hid (val b32 zs = val b32 xs / val b32 ys + 1) := by
    show _ = _
    have h1 : val b32 [1] = 1 := rfl
    rw [h1] at u6
    omega
  have U1 := Lib.hid u1
  clear u1 u6 hb5 hb6 hb3 tX2 tY2 tQ2 tR2 p1 p2 hmod
  go_wp2_with fail
  refine C2.out.mono ?_
  rintro e w4 ⟨A4, c4, ms, rfl, m1, m2, m3, m4, m5, m6, hb8⟩
  have V2 : Hid (val b32 ms = val b32 ys - val b32 xs % val b32 ys) := by
    show _ = _
    rw [val_trimL, R4.out] at m6
    have := Nat.mod_lt (val b32 xs) H0.out
    omega
  have hb9 := hb7.trans (hb8.mono hb7.size)
  have tX4 := tX3.to hb8
  have tY4 := tY3.to hb8
  have tQ4 := tQ3.to hb8
  have tR4 := tR3.to hb8
  have p1 := tX4.c0
  have p2 := tY4.c0
  have I1 := Lib.hid (integer_l true (U1.out.to hb8) u4 u2 u3)
  rw [V1.out] at I1
  have M1 := Lib.hid m1
  clear m1 m6 hb7 hb8 tX3 tY3 tQ3 tR3
  obtain ⟨q, eq⟩ : ∃ q : Int, Hid (zof true (val b32 xs / val b32 ys + 1) = q) := ⟨_, rfl⟩
  rw [eq.out] at I1
  go_wp2_with fail
  refine I1.out.mono ?_
  rintro e w5 ⟨A5, c5, rfl, s1, s2, s3, hb10⟩
  have hb11 := hb9.trans (hb10.mono hb9.size)
  have tQ5 := tQ4.to hb10
  have tR5 := tR4.to hb10
  have I2 := Lib.hid (integer_l false (M1.out.to hb10) m4 m2 m3)
  rw [V2.out] at I2
  obtain ⟨r, er⟩ : ∃ r : Int, Hid (zof false (val b32 ys - val b32 xs % val b32 ys) = r) := ⟨_, rfl⟩
  rw [er.out] at I2
  have S1 := Lib.hid s1
  clear s1 hb10 hb9 tQ4 tR4
  go_wp2_with fail
  refine I2.out.mono ?_
  rintro e w6 ⟨A6, c6, rfl, v1, v2, v3, hb12⟩
  have HB := Lib.hid (hb11.trans (hb12.mono hb11.size))
  have TQ := Lib.hid (tQ5.to hb12)
  have TR := Lib.hid (tR5.to hb12)
  obtain ⟨g1, g2, g3, g4, g5⟩ := tQ5.to hb12
  obtain ⟨k1, k2, k3, k4, k5⟩ := tR5.to hb12
  have S3 := Lib.hid (S1.out.to hb12)
  have V3 := Lib.hid v1
  clear v1 hb12 hb11 tQ5 tR5 p1 p2
  go_wp2
  have tF := TQ.out.set (.bool (decide (q < 0))) (.slice A5 (dig b32 q.natAbs).length c5)
  have tG := (TR.out.far (g' := w.heap.size + 1 + 1) (by omega) (.bool (decide (q < 0))) (.slice A5 (dig b32 q.natAbs).length c5)).set (.bool (decide (r < 0))) (.slice A6 (dig b32 r.natAbs).length c6)
  have tH := tF.far (g' := w.heap.size + 1 + 1 + 1) (by omega) (.bool (decide (r < 0))) (.slice A6 (dig b32 r.natAbs).length c6)
  refine bodyPost_ret (v := .tuple #[.agg #[.bool (decide (q < 0)), .slice A5 (dig b32 q.natAbs).length c5], .agg #[.bool (decide (r < 0)), .slice A6 (dig b32 r.natAbs).length c6], .int .i64 0])
    (by simp [results, Try.f33, go_sem, tH.c0, tH.c1, tG.c0, tG.c1]) rfl ?_
  rw [eq.out, show (((val b32 ys - val b32 xs % val b32 ys : Nat) : Int)) = r from er.out]
  exact dret_stored TQ.out TR.out (by omega) (by omega) (by omega) S3.out V3.out s2 s3 v2 v3 HB.out

set_option maxRecDepth 100000 in
set_option maxHeartbeats 2000000 in
theorem dx_ttn {A A' : Option Addr} {c c' : Nat} {xs ys : List Nat} {w : World} (hx : Arg w A c xs) (hy : Arg w A' c' ys) (hxl : xs.length ≤ 4294967293) (h0 : 0 < val b32 ys) (hm : 0 < val b32 xs % val b32 ys) :
    Calls Try.prog 33 #[.agg #[.bool true, .slice A xs.length c], .agg #[.bool true, .slice A' ys.length c']] w (DRet w (zof false (val b32 xs / val b32 ys + 1)) ((val b32 ys - val b32 xs % val b32 ys : Nat) : Int)) := by
  have HX := Lib.hid hx
  have HY := Lib.hid hy
  have H0 := Lib.hid h0
  have HM := Lib.hid hm
  have hlen : ((trimL ys).length = 0) ↔ val b32 ys = 0 := by
    rw [trimL_dig b32_one hy.dg]
    exact ⟨fun h => (dig_nil b32_one).1 (List.eq_nil_of_length_eq_zero h), fun h => by rw [h]; rfl⟩
  have hq : ((((trimL ys).length : Nat) : Int) == 0) = false := by
    have : (trimL ys).length ≠ 0 := fun h => by have := hlen.1 h; omega
    rw [beq_eq_false_iff_ne]; omega
  clear hx hy h0 hlen hm
  obtain ⟨W0, hW0⟩ : ∃ W0, W0 = (((w.alloc (.cells #[.bool true, .slice A xs.length c] 24)).alloc (.cells #[.bool true, .slice A' ys.length c'] 24)).alloc (.cells #[.bool false, .slice none 0 0] 24)).alloc (.cells #[.bool false, .slice none 0 0] 24) := ⟨_, rfl⟩
  have hb : Below w.heap.size w W0 := by rw [hW0]; exact ((((Below.refl _ _).alloc (Nat.le_refl _) _).alloc (by simp) _).alloc (by simp; omega) _).alloc (by simp; omega) _
  have tX : Zat W0 w.heap.size (.bool true) (.slice A xs.length c) := by rw [hW0]; exact (((Zat.new w _ _).alloc _).alloc _).alloc _
  have tY : Zat W0 (w.heap.size + 1) (.bool true) (.slice A' ys.length c') := by
    have h := Zat.new (w.alloc (.cells #[.bool true, .slice A xs.length c] 24)) (.bool true) (.slice A' ys.length c')
    rw [World.size_alloc] at h
    rw [hW0]; exact (h.alloc _).alloc _
  have tQ : Zat W0 (w.heap.size + 1 + 1) (.bool false) (.slice none 0 0) := by
    have h := Zat.new ((w.alloc (.cells #[.bool true, .slice A xs.length c] 24)).alloc (.cells #[.bool true, .slice A' ys.length c'] 24)) (.bool false) (.slice none 0 0)
    rw [World.size_alloc, World.size_alloc] at h
    rw [hW0]; exact h.alloc _
  have tR : Zat W0 (w.heap.size + 1 + 1 + 1) (.bool false) (.slice none 0 0) := by
    have h := Zat.new (((w.alloc (.cells #[.bool true, .slice A xs.length c] 24)).alloc (.cells #[.bool true, .slice A' ys.length c'] 24)).alloc (.cells #[.bool false, .slice none 0 0] 24)) (.bool false) (.slice none 0 0)
    rw [World.size_alloc, World.size_alloc, World.size_alloc] at h
    rw [hW0]; exact h
  have q1 := tX.two.c1
  have q2 := tY.two.c1
  have HW0 := Lib.hid hW0
  clear hW0
  go_enter Try.func33, Try.ntmps33
  go_wp2_with fail
  rw [← HW0.out]
  go_quiet ((first | (go_at_call 44; with_reducible exact Calls.quiet_of_same (trim_q (HX.out.to (hb.trans (bel_drewN (Below.refl _ _) _))))) | (go_at_call 44; with_reducible exact Calls.quiet_of_same (trim_q (HY.out.to (hb.trans (bel_drewN (Below.refl _ _) _)))))))
  rename_i nq
  have hb1 : Below w.heap.size w (W0.drewN nq) := bel_drewN hb _
  have tX1 : Two (W0.drewN nq) w.heap.size _ _ := tX.two.to (bel_drewN (Below.refl _ _) _)
  have tY1 : Two (W0.drewN nq) (w.heap.size + 1) _ _ := tY.two.to (bel_drewN (Below.refl _ _) _)
  have tQ1 : Two (W0.drewN nq) (w.heap.size + 1 + 1) _ _ := tQ.two.to (bel_drewN (Below.refl _ _) _)
  have tR1 : Two (W0.drewN nq) (w.heap.size + 1 + 1 + 1) _ _ := tR.two.to (bel_drewN (Below.refl _ _) _)
  generalize W0.drewN nq = W1 at hb1 tX1 tY1 tQ1 tR1 ⊢
  clear q1 q2 tX tY tQ tR hb HW0
  go_wp2_with fail
  refine (divide_all (HX.out.to hb1) (HY.out.to hb1) H0.out (by omega)).mono ?_
  rintro e w2 ⟨A1, c1, qs, A2, c2, rs, rfl, AQ', AR', vq, r4, hb2⟩
  have VQ := Lib.hid vq
  have r1 := AQ'.rd
  have r2 := AR'.rd
  have r3 := AR'.dg
  have r5 := AQ'.le
  have r6 := AQ'.cap
  have r7 := AR'.le
  have r8 := AR'.cap
  have r9 := AR'.small
  have dq := AQ'.dg
  have hb3 := hb1.trans (hb2.mono hb1.size)
  have tX2 := tX1.to hb2
  have tY2 := tY1.to hb2
  have tQ2 := tQ1.to hb2
  have tR2 := tR1.to hb2
  have R4 := Lib.hid r4
  have AR := Lib.hid (⟨r2, r3, r7, r8, r9⟩ : Arg w2 A2 c2 rs)
  have R1 := Lib.hid r1
  have AQ := Lib.hid AQ'
  clear AQ' AR' vq r1 r2 r4 hb1 hb2 tX1 tY1 tQ1 tR1
  have p1 := tX2.c0
  have p2 := tY2.c0
  have hrl : (0 : Int) < ((trimL rs).length : Nat) := by
    rcases Nat.eq_zero_or_pos (trimL rs).length with h | h
    · exfalso
      rw [trimL_dig b32_one AR.out.dg, R4.out] at h
      have h1 := (dig_nil b32_one).1 (List.eq_nil_of_length_eq_zero h)
      have h2 := HM.out
      omega
    · omega
  have HT := Lib.hid (trim_l AR.out)
  go_wp2_with fail
  refine HT.out.mono ?_
  rintro e w' ⟨rfl, rfl⟩
  clear HT
  have ho : Arg (w2.alloc (.cells #[.int .u32 1] 52)) (some ⟨w2.heap.size, 0, none⟩) 1 [1] := by
    have h := Rd.new .u32 w2 52 [1]
    exact ⟨by simpa [ints] using h, Dg.one (by decide), by simp, by omega, by simp⟩
  have hb4 : Below w2.heap.size w2 (w2.alloc (.cells #[.int .u32 1] 52)) := (Below.refl _ _).alloc (Nat.le_refl _) _
  have C1 := Lib.hid (combine_l (q := 1) (.inl rfl) (AQ.out.to hb4) ho (by omega))
  have HB4 := Lib.hid hb4
  clear ho hb4
  go_wp2_with fail
  refine C1.out.mono ?_
  rintro e w3 ⟨A3, c3, zs, rfl, u1, u2, u3, u4, u5, u6, hb5⟩
  rw [VQ.out] at u6
  have hb6 := HB4.out.trans (hb5.mono HB4.out.size)
  have hb7 := hb3.trans (hb6.mono hb3.size)
  have tX3 := tX2.to hb6
  have tY3 := tY2.to hb6
  have tQ3 := tQ2.to hb6
  have tR3 := tR2.to hb6
  have hmod := Nat.mod_lt (val b32 xs) H0.out
  have C2 := Lib.hid (combine_l (q := -1) (.inr rfl) (HY.out.to hb7).trim (AR.out.to hb6) (by rw [val_trimL, R4.out]; omega))
  have V1 : Hid (val b32 zs = val b32 xs / val b32 ys + 1) := by
    show _ = _
    have h1 : val b32 [1] = 1 := rfl
    rw [h1] at u6
    omega
  have U1 := Lib.hid u1
  clear u1 u6 hb5 hb6 hb3 tX2 tY2 tQ2 tR2 p1 p2 hmod
  go_wp2_with fail
  refine C2.out.mono ?_
  rintro e w4 ⟨A4, c4, ms, rfl, m1, m2, m3, m4, m5, m6, hb8⟩
  have V2 : Hid (val b32 ms = val b32 ys - val b32 xs % val b32 ys) := by
    show _ = _
    rw [val_trimL, R4.out] at m6
    have := Nat.mod_lt (val b32 xs) H0.out
    omega
  have hb9 := hb7.trans (hb8.mono hb7.size)
  have tX4 := tX3.to hb8
  have tY4 := tY3.to hb8
  have tQ4 := tQ3.to hb8
  have tR4 := tR3.to hb8
  have p1 := tX4.c0
  have p2 := tY4.c0
  have I1 := Lib.hid (integer_l false (U1.out.to hb8) u4 u2 u3)
  rw [V1.out] at I1
  have M1 := Lib.hid m1
  clear m1 m6 hb7 hb8 tX3 tY3 tQ3 tR3
  obtain ⟨q, eq⟩ : ∃ q : Int, Hid (zof false (val b32 xs / val b32 ys + 1) = q) := ⟨_, rfl⟩
  rw [eq.out] at I1
  go_wp2_with fail
  refine I1.out.mono ?_
  rintro e w5 ⟨A5, c5, rfl, s1, s2, s3, hb10⟩
  have hb11 := hb9.trans (hb10.mono hb9.size)
  have tQ5 := tQ4.to hb10
  have tR5 := tR4.to hb10
  have I2 := Lib.hid (integer_l false (M1.out.to hb10) m4 m2 m3)
  rw [V2.out] at I2
  obtain ⟨r, er⟩ : ∃ r : Int, Hid (zof false (val b32 ys - val b32 xs % val b32 ys) = r) := ⟨_, rfl⟩
  rw [er.out] at I2
  have S1 := Lib.hid s1
  clear s1 hb10 hb9 tQ4 tR4
  go_wp2_with fail
  refine I2.out.mono ?_
  rintro e w6 ⟨A6, c6, rfl, v1, v2, v3, hb12⟩
  have HB := Lib.hid (hb11.trans (hb12.mono hb11.size))
  have TQ := Lib.hid (tQ5.to hb12)
  have TR := Lib.hid (tR5.to hb12)
  obtain ⟨g1, g2, g3, g4, g5⟩ := tQ5.to hb12
  obtain ⟨k1, k2, k3, k4, k5⟩ := tR5.to hb12
  have S3 := Lib.hid (S1.out.to hb12)
  have V3 := Lib.hid v1
  clear v1 hb12 hb11 tQ5 tR5 p1 p2
  go_wp2
  have tF := TQ.out.set (.bool (decide (q < 0))) (.slice A5 (dig b32 q.natAbs).length c5)
  have tG := (TR.out.far (g' := w.heap.size + 1 + 1) (by omega) (.bool (decide (q < 0))) (.slice A5 (dig b32 q.natAbs).length c5)).set (.bool (decide (r < 0))) (.slice A6 (dig b32 r.natAbs).length c6)
  have tH := tF.far (g' := w.heap.size + 1 + 1 + 1) (by omega) (.bool (decide (r < 0))) (.slice A6 (dig b32 r.natAbs).length c6)
  refine bodyPost_ret (v := .tuple #[.agg #[.bool (decide (q < 0)), .slice A5 (dig b32 q.natAbs).length c5], .agg #[.bool (decide (r < 0)), .slice A6 (dig b32 r.natAbs).length c6], .int .i64 0])
    (by simp [results, Try.f33, go_sem, tH.c0, tH.c1, tG.c0, tG.c1]) rfl ?_
  rw [eq.out, show (((val b32 ys - val b32 xs % val b32 ys : Nat) : Int)) = r from er.out]
  exact dret_stored TQ.out TR.out (by omega) (by omega) (by omega) S3.out V3.out s2 s3 v2 v3 HB.out

end Go.Proofs.Ytoaghihhobggoaa
