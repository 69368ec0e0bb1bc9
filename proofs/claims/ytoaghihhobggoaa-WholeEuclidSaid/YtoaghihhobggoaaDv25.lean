/- Parts: KGcdA, KGcdB, KGcdC, KGcd. -/
import Derived.Test.YtoaghihhobggoaaDv7
import Derived.Test.YtoaghihhobggoaaDv20
import Derived.Test.YtoaghihhobggoaaDv24
set_option linter.unusedVariables false
set_option linter.unusedSimpArgs false

namespace Go.Proofs.Ytoaghihhobggoaa
open Go.RowKit Go.Shelf

set_option maxRecDepth 100000 in
set_option maxHeartbeats 4000000 in
theorem gx_zf (na nb : Bool) {A A' : Option Addr} {c c' : Nat} {xs ys : List Nat} {w : World} (hx : Arg w A c xs) (hy : Arg w A' c' ys) (hsx : xs.length ≤ 4294967293) (hsy : ys.length ≤ 4294967293) (hlt : val b32 ys ≤ val b32 xs) (hz : val b32 ys = 0) :
    Calls Try.prog 35 #[.agg #[.bool na, .slice A xs.length c], .agg #[.bool nb, .slice A' ys.length c']] w (ZRet w (Nat.gcd (val b32 xs) (val b32 ys) : Nat)) := by
  have HX := Lib.hid hx
  have HY := Lib.hid hy
  have HLT := Lib.hid hlt
  clear hx hy hlt
  obtain ⟨W0, hW0⟩ : ∃ W0, W0 = ((w.alloc (.cells #[.bool na, .slice A xs.length c] 24)).alloc (.cells #[.bool nb, .slice A' ys.length c'] 24)).alloc (.cells #[.bool false, .slice none 0 0] 24) := ⟨_, rfl⟩
  have hb : Below w.heap.size w W0 := by rw [hW0]; exact (((Below.refl _ _).alloc (Nat.le_refl _) _).alloc (by simp) _).alloc (by simp; omega) _
  have tX : Zat W0 w.heap.size (.bool na) (.slice A xs.length c) := by rw [hW0]; exact ((Zat.new w _ _).alloc _).alloc _
  have tY : Zat W0 (w.heap.size + 1) (.bool nb) (.slice A' ys.length c') := by
    have h := Zat.new (w.alloc (.cells #[.bool na, .slice A xs.length c] 24)) (.bool nb) (.slice A' ys.length c')
    rw [World.size_alloc] at h
    rw [hW0]; exact h.alloc _
  have tR : Zat W0 (w.heap.size + 1 + 1) (.bool false) (.slice none 0 0) := by
    have h := Zat.new ((w.alloc (.cells #[.bool na, .slice A xs.length c] 24)).alloc (.cells #[.bool nb, .slice A' ys.length c'] 24)) (.bool false) (.slice none 0 0)
    rw [World.size_alloc, World.size_alloc] at h
    rw [hW0]; exact h
  have q1 := tX.two.c1
  have q2 := tY.two.c1
  have HW0 := Lib.hid hW0
  clear hW0
  go_enter Try.func35, Try.ntmps35
  go_wp2_with fail
  rw [← HW0.out]
  go_quiet ((first | (go_at_call 44; with_reducible exact Calls.quiet_of_same (trim_q (HX.out.to (hb.trans (bel_drewN (Below.refl _ _) _))))) | (go_at_call 44; with_reducible exact Calls.quiet_of_same (trim_q (HY.out.to (hb.trans (bel_drewN (Below.refl _ _) _)))))))
  rename_i nq
  have hb1 : Below w.heap.size w (W0.drewN nq) := bel_drewN hb _
  have tR1 : Zat (W0.drewN nq) (w.heap.size + 1 + 1) (.bool false) (.slice none 0 0) := tR
  generalize W0.drewN nq = W1 at hb1 tR1 ⊢
  clear q1 q2 tX tY tR hb HW0
  go_wp2_with fail
  refine (compare_l (HX.out.to hb1) (HY.out.to hb1)).mono ?_
  obtain ⟨cv, hcv, hcv0⟩ : ∃ cv, cmpN (val b32 xs) (val b32 ys) = cv ∧ 0 ≤ cv := ⟨_, rfl, by have := HLT.out; unfold cmpN; split <;> (try split) <;> omega⟩
  rw [hcv]
  clear hcv
  rintro e w1 ⟨rfl, hb2⟩
  have hb3 := hb1.trans (hb2.mono hb1.size)
  have tR3 : Two w1 (w.heap.size + 1 + 1) _ _ := tR1.two.to hb2
  clear hb1 tR1 hb2
  have ttx : trimL (trimL xs) = trimL xs := by rw [trimL_dig b32_one HX.out.dg, trimL_of_dig b32_one]
  have tty : trimL (trimL ys) = trimL ys := by rw [trimL_dig b32_one HY.out.dg, trimL_of_dig b32_one]
  have AX := Lib.hid (HX.out.to hb3).trim
  have AY := Lib.hid (HY.out.to hb3).trim
  have hs0 : (trimL ys).length = 0 := by rw [trimL_dig b32_one HY.out.dg, hz]; rfl
  have hsi : ¬ ((2 : Int) < ((trimL ys).length : Nat)) := by omega
  have hsq : ((((trimL ys).length : Nat) : Int) == 0) = true := by rw [hs0]; rfl
  have HZ := Lib.hid hz
  clear hz hs0
  obtain ⟨g, eg⟩ : ∃ g : Nat, Hid (Nat.gcd (val b32 xs) (val b32 ys) = g) := ⟨_, rfl⟩
  have HGZ : Hid (zof false (val b32 (trimL xs)) = ((g : Nat) : Int)) := by
    show _ = _
    rw [← eg.out, val_trimL, HZ.out, Nat.gcd_zero_right]
    rfl
  have aU := AX.out
  have dU := aU.dg
  have TRK := Lib.hid tR3
  have HBK := Lib.hid hb3
  go_wp2_with fail
  refine (clone_l aU).mono ?_
  rintro e w8 ⟨A8, c8, rfl, r1, r2, r3, hb8⟩
  have HI := Lib.hid (integer_l false r1 dU r2 r3)
  rw [HGZ.out] at HI
  have tRZ := TRK.out.to hb8
  have HBZ := Lib.hid (HBK.out.trans (hb8.mono HBK.out.size))
  clear r1 hb8
  obtain ⟨z, ez⟩ : ∃ z : Int, Hid (((g : Nat) : Int) = z) := ⟨_, rfl⟩
  rw [ez.out] at HI
  go_wp2_with fail
  refine HI.out.mono ?_
  rintro e w9 ⟨A9, c9, rfl, s1, s2, s3, hb9⟩
  obtain ⟨q1, q2, q3, q4, q5⟩ := tRZ.to hb9
  have S2 := Lib.hid s1
  have HB3 := Lib.hid (HBZ.out.trans (hb9.mono HBZ.out.size))
  clear s1 hb9 tRZ
  go_wp2
  have tF := (⟨q1, q2, q3, q4, q5⟩ : Two w9 (w.heap.size + 1 + 1) _ _).set (.bool (decide (z < 0))) (.slice A9 (dig b32 z.natAbs).length c9)
  refine bodyPost_ret (v := .agg #[.bool (decide (z < 0)), .slice A9 (dig b32 z.natAbs).length c9]) (by simp [results, Try.f35, go_sem, tF.c0, tF.c1]) rfl ?_
  rw [eg.out, ez.out]
  exact zret_stored ⟨q1, q2, q3, q4, q5⟩ (by omega) S2.out s2 s3 HB3.out

set_option maxRecDepth 100000 in
set_option maxHeartbeats 4000000 in
theorem gx_zt (na nb : Bool) {A A' : Option Addr} {c c' : Nat} {xs ys : List Nat} {w : World} (hx : Arg w A c xs) (hy : Arg w A' c' ys) (hsx : xs.length ≤ 4294967293) (hsy : ys.length ≤ 4294967293) (hlt : val b32 xs < val b32 ys) (hz : val b32 xs = 0) :
    Calls Try.prog 35 #[.agg #[.bool na, .slice A xs.length c], .agg #[.bool nb, .slice A' ys.length c']] w (ZRet w (Nat.gcd (val b32 xs) (val b32 ys) : Nat)) := by
  have HX := Lib.hid hx
  have HY := Lib.hid hy
  have HLT := Lib.hid hlt
  clear hx hy hlt
  obtain ⟨W0, hW0⟩ : ∃ W0, W0 = ((w.alloc (.cells #[.bool na, .slice A xs.length c] 24)).alloc (.cells #[.bool nb, .slice A' ys.length c'] 24)).alloc (.cells #[.bool false, .slice none 0 0] 24) := ⟨_, rfl⟩
  have hb : Below w.heap.size w W0 := by rw [hW0]; exact (((Below.refl _ _).alloc (Nat.le_refl _) _).alloc (by simp) _).alloc (by simp; omega) _
  have tX : Zat W0 w.heap.size (.bool na) (.slice A xs.length c) := by rw [hW0]; exact ((Zat.new w _ _).alloc _).alloc _
  have tY : Zat W0 (w.heap.size + 1) (.bool nb) (.slice A' ys.length c') := by
    have h := Zat.new (w.alloc (.cells #[.bool na, .slice A xs.length c] 24)) (.bool nb) (.slice A' ys.length c')
    rw [World.size_alloc] at h
    rw [hW0]; exact h.alloc _
  have tR : Zat W0 (w.heap.size + 1 + 1) (.bool false) (.slice none 0 0) := by
    have h := Zat.new ((w.alloc (.cells #[.bool na, .slice A xs.length c] 24)).alloc (.cells #[.bool nb, .slice A' ys.length c'] 24)) (.bool false) (.slice none 0 0)
    rw [World.size_alloc, World.size_alloc] at h
    rw [hW0]; exact h
  have q1 := tX.two.c1
  have q2 := tY.two.c1
  have HW0 := Lib.hid hW0
  clear hW0
  go_enter Try.func35, Try.ntmps35
  go_wp2_with fail
  rw [← HW0.out]
  go_quiet ((first | (go_at_call 44; with_reducible exact Calls.quiet_of_same (trim_q (HX.out.to (hb.trans (bel_drewN (Below.refl _ _) _))))) | (go_at_call 44; with_reducible exact Calls.quiet_of_same (trim_q (HY.out.to (hb.trans (bel_drewN (Below.refl _ _) _)))))))
  rename_i nq
  have hb1 : Below w.heap.size w (W0.drewN nq) := bel_drewN hb _
  have tR1 : Zat (W0.drewN nq) (w.heap.size + 1 + 1) (.bool false) (.slice none 0 0) := tR
  generalize W0.drewN nq = W1 at hb1 tR1 ⊢
  clear q1 q2 tX tY tR hb HW0
  go_wp2_with fail
  refine (compare_l (HX.out.to hb1) (HY.out.to hb1)).mono ?_
  obtain ⟨cv, hcv, hcv0⟩ : ∃ cv, cmpN (val b32 xs) (val b32 ys) = cv ∧ cv < 0 := ⟨_, rfl, by have := HLT.out; unfold cmpN; split <;> (try split) <;> omega⟩
  rw [hcv]
  clear hcv
  rintro e w1 ⟨rfl, hb2⟩
  have hb3 := hb1.trans (hb2.mono hb1.size)
  have tR3 : Two w1 (w.heap.size + 1 + 1) _ _ := tR1.two.to hb2
  clear hb1 tR1 hb2
  have ttx : trimL (trimL xs) = trimL xs := by rw [trimL_dig b32_one HX.out.dg, trimL_of_dig b32_one]
  have tty : trimL (trimL ys) = trimL ys := by rw [trimL_dig b32_one HY.out.dg, trimL_of_dig b32_one]
  have AX := Lib.hid (HX.out.to hb3).trim
  have AY := Lib.hid (HY.out.to hb3).trim
  have hs0 : (trimL xs).length = 0 := by rw [trimL_dig b32_one HX.out.dg, hz]; rfl
  have hsi : ¬ ((2 : Int) < ((trimL xs).length : Nat)) := by omega
  have hsq : ((((trimL xs).length : Nat) : Int) == 0) = true := by rw [hs0]; rfl
  have HZ := Lib.hid hz
  clear hz hs0
  obtain ⟨g, eg⟩ : ∃ g : Nat, Hid (Nat.gcd (val b32 xs) (val b32 ys) = g) := ⟨_, rfl⟩
  have HGZ : Hid (zof false (val b32 (trimL ys)) = ((g : Nat) : Int)) := by
    show _ = _
    rw [← eg.out, val_trimL, HZ.out, Nat.gcd_zero_left]
    rfl
  have aU := AY.out
  have dU := aU.dg
  have TRK := Lib.hid tR3
  have HBK := Lib.hid hb3
  go_wp2_with fail
  refine (clone_l aU).mono ?_
  rintro e w8 ⟨A8, c8, rfl, r1, r2, r3, hb8⟩
  have HI := Lib.hid (integer_l false r1 dU r2 r3)
  rw [HGZ.out] at HI
  have tRZ := TRK.out.to hb8
  have HBZ := Lib.hid (HBK.out.trans (hb8.mono HBK.out.size))
  clear r1 hb8
  obtain ⟨z, ez⟩ : ∃ z : Int, Hid (((g : Nat) : Int) = z) := ⟨_, rfl⟩
  rw [ez.out] at HI
  go_wp2_with fail
  refine HI.out.mono ?_
  rintro e w9 ⟨A9, c9, rfl, s1, s2, s3, hb9⟩
  obtain ⟨q1, q2, q3, q4, q5⟩ := tRZ.to hb9
  have S2 := Lib.hid s1
  have HB3 := Lib.hid (HBZ.out.trans (hb9.mono HBZ.out.size))
  clear s1 hb9 tRZ
  go_wp2
  have tF := (⟨q1, q2, q3, q4, q5⟩ : Two w9 (w.heap.size + 1 + 1) _ _).set (.bool (decide (z < 0))) (.slice A9 (dig b32 z.natAbs).length c9)
  refine bodyPost_ret (v := .agg #[.bool (decide (z < 0)), .slice A9 (dig b32 z.natAbs).length c9]) (by simp [results, Try.f35, go_sem, tF.c0, tF.c1]) rfl ?_
  rw [eg.out, ez.out]
  exact zret_stored ⟨q1, q2, q3, q4, q5⟩ (by omega) S2.out s2 s3 HB3.out

set_option maxRecDepth 100000 in
set_option maxHeartbeats 4000000 in
theorem gx_df (na nb : Bool) {A A' : Option Addr} {c c' : Nat} {xs ys : List Nat} {w : World} (hx : Arg w A c xs) (hy : Arg w A' c' ys) (hsx : xs.length ≤ 4294967293) (hsy : ys.length ≤ 4294967293) (hlt : val b32 ys ≤ val b32 xs) (hz : 0 < val b32 ys) (hl : 2 < (trimL xs).length) (hs : (trimL ys).length ≤ 2) :
    Calls Try.prog 35 #[.agg #[.bool na, .slice A xs.length c], .agg #[.bool nb, .slice A' ys.length c']] w (ZRet w (Nat.gcd (val b32 xs) (val b32 ys) : Nat)) := by
  have HX := Lib.hid hx
  have HY := Lib.hid hy
  have HLT := Lib.hid hlt
  clear hx hy hlt
  obtain ⟨W0, hW0⟩ : ∃ W0, W0 = ((w.alloc (.cells #[.bool na, .slice A xs.length c] 24)).alloc (.cells #[.bool nb, .slice A' ys.length c'] 24)).alloc (.cells #[.bool false, .slice none 0 0] 24) := ⟨_, rfl⟩
  have hb : Below w.heap.size w W0 := by rw [hW0]; exact (((Below.refl _ _).alloc (Nat.le_refl _) _).alloc (by simp) _).alloc (by simp; omega) _
  have tX : Zat W0 w.heap.size (.bool na) (.slice A xs.length c) := by rw [hW0]; exact ((Zat.new w _ _).alloc _).alloc _
  have tY : Zat W0 (w.heap.size + 1) (.bool nb) (.slice A' ys.length c') := by
    have h := Zat.new (w.alloc (.cells #[.bool na, .slice A xs.length c] 24)) (.bool nb) (.slice A' ys.length c')
    rw [World.size_alloc] at h
    rw [hW0]; exact h.alloc _
  have tR : Zat W0 (w.heap.size + 1 + 1) (.bool false) (.slice none 0 0) := by
    have h := Zat.new ((w.alloc (.cells #[.bool na, .slice A xs.length c] 24)).alloc (.cells #[.bool nb, .slice A' ys.length c'] 24)) (.bool false) (.slice none 0 0)
    rw [World.size_alloc, World.size_alloc] at h
    rw [hW0]; exact h
  have q1 := tX.two.c1
  have q2 := tY.two.c1
  have HW0 := Lib.hid hW0
  clear hW0
  go_enter Try.func35, Try.ntmps35
  go_wp2_with fail
  rw [← HW0.out]
  go_quiet ((first | (go_at_call 44; with_reducible exact Calls.quiet_of_same (trim_q (HX.out.to (hb.trans (bel_drewN (Below.refl _ _) _))))) | (go_at_call 44; with_reducible exact Calls.quiet_of_same (trim_q (HY.out.to (hb.trans (bel_drewN (Below.refl _ _) _)))))))
  rename_i nq
  have hb1 : Below w.heap.size w (W0.drewN nq) := bel_drewN hb _
  have tR1 : Zat (W0.drewN nq) (w.heap.size + 1 + 1) (.bool false) (.slice none 0 0) := tR
  generalize W0.drewN nq = W1 at hb1 tR1 ⊢
  clear q1 q2 tX tY tR hb HW0
  go_wp2_with fail
  refine (compare_l (HX.out.to hb1) (HY.out.to hb1)).mono ?_
  obtain ⟨cv, hcv, hcv0⟩ : ∃ cv, cmpN (val b32 xs) (val b32 ys) = cv ∧ 0 ≤ cv := ⟨_, rfl, by have := HLT.out; unfold cmpN; split <;> (try split) <;> omega⟩
  rw [hcv]
  clear hcv
  rintro e w1 ⟨rfl, hb2⟩
  have hb3 := hb1.trans (hb2.mono hb1.size)
  have tR3 : Two w1 (w.heap.size + 1 + 1) _ _ := tR1.two.to hb2
  clear hb1 tR1 hb2
  have ttx : trimL (trimL xs) = trimL xs := by rw [trimL_dig b32_one HX.out.dg, trimL_of_dig b32_one]
  have tty : trimL (trimL ys) = trimL ys := by rw [trimL_dig b32_one HY.out.dg, trimL_of_dig b32_one]
  have AX := Lib.hid (HX.out.to hb3).trim
  have AY := Lib.hid (HY.out.to hb3).trim
  have hs0 : (trimL ys).length ≠ 0 := fun h => by
    rw [trimL_dig b32_one HY.out.dg] at h
    have := (dig_nil b32_one).1 (List.eq_nil_of_length_eq_zero h)
    omega
  have hsi : ¬ ((2 : Int) < ((trimL ys).length : Nat)) := by omega
  have hsq : ((((trimL ys).length : Nat) : Int) == 0) = false := by rw [beq_eq_false_iff_ne]; omega
  have hli : (2 : Int) < ((trimL xs).length : Nat) := by omega
  have ly64 := two_lt HY.out.dg hs
  have HD := Lib.hid (divide_all (HX.out.to hb3) (HY.out.to hb3) hz (by omega))
  have HZ := Lib.hid hz
  have LY := Lib.hid ly64
  clear hz hs0 hl hs ly64
  go_wp2_with fail
  refine HD.out.mono ?_
  rintro e w4 ⟨A5, c5, qs, A6, c6, rs, rfl, AQ, AR, vq, vr, hbd⟩
  have hb4 := hb3.trans (hbd.mono hb3.size)
  have tR4 := tR3.to hbd
  have AR4 := Lib.hid AR
  have VR := Lib.hid vr
  have aS4 := Lib.hid (HY.out.to hb4).trim
  clear AQ AR vq vr hbd hb3 tR3
  have hp64 : val b32 (trimL ys) < 18446744073709551616 := LY.out
  have hq64 : val b32 rs < 18446744073709551616 := by rw [VR.out]; have h1 := Nat.mod_lt (val b32 xs) HZ.out; have h2 := LY.out; rw [val_trimL] at h2; omega
  have aP := aS4.out
  have aQ := AR4.out
  have U1 := Lib.hid (toU64_arg aP hp64)
  have U2 := Lib.hid (toU64_arg aQ hq64)
  have HG1 : Hid (Nat.gcd (val b32 (trimL ys)) (val b32 rs) = Nat.gcd (val b32 xs) (val b32 ys)) := by show _ = _; rw [VR.out, val_trimL]; exact gm _ _
  have HG0 := gcd_lt hp64 hq64
  have S1 := Lib.hid (smallGCD_any _ _ w4 hp64 hq64)
  rw [HG1.out] at S1 HG0
  obtain ⟨g, eg⟩ : ∃ g : Nat, Hid (Nat.gcd (val b32 xs) (val b32 ys) = g) := ⟨_, rfl⟩
  rw [eg.out] at S1 HG0
  have TRK := Lib.hid tR4
  have HBK := Lib.hid hb4
  clear HG1 hp64 hq64 aP aQ
  go_wp2_with fail
  refine U1.out.mono ?_
  rintro e w' ⟨rfl, rfl⟩
  go_wp2_with fail
  refine U2.out.mono ?_
  rintro e w' ⟨rfl, rfl⟩
  go_wp2_with fail
  refine S1.out.mono ?_
  rintro e w' ⟨rfl, dn, rfl⟩
  go_wp2_with fail
  refine (toWords_l g HG0 _).mono ?_
  rintro e w8 ⟨A8, c8, rfl, r1, r2, r3, hb8⟩
  have HI := Lib.hid (integer_l false r1 (Dg_dig b32_one g) r2 r3)
  rw [val_dig b32_one, show zof false g = ((g : Nat) : Int) from rfl] at HI
  have tRZ := (TRK.out.to (bel_drewN (Below.refl _ _) dn)).to hb8
  have HBZ := Lib.hid ((bel_drewN HBK.out dn).trans (hb8.mono HBK.out.size))
  clear r1 hb8
  obtain ⟨z, ez⟩ : ∃ z : Int, Hid (((g : Nat) : Int) = z) := ⟨_, rfl⟩
  rw [ez.out] at HI
  go_wp2_with fail
  refine HI.out.mono ?_
  rintro e w9 ⟨A9, c9, rfl, s1, s2, s3, hb9⟩
  obtain ⟨q1, q2, q3, q4, q5⟩ := tRZ.to hb9
  have S2 := Lib.hid s1
  have HB3 := Lib.hid (HBZ.out.trans (hb9.mono HBZ.out.size))
  clear s1 hb9 tRZ
  go_wp2
  have tF := (⟨q1, q2, q3, q4, q5⟩ : Two w9 (w.heap.size + 1 + 1) _ _).set (.bool (decide (z < 0))) (.slice A9 (dig b32 z.natAbs).length c9)
  refine bodyPost_ret (v := .agg #[.bool (decide (z < 0)), .slice A9 (dig b32 z.natAbs).length c9]) (by simp [results, Try.f35, go_sem, tF.c0, tF.c1]) rfl ?_
  rw [eg.out, ez.out]
  exact zret_stored ⟨q1, q2, q3, q4, q5⟩ (by omega) S2.out s2 s3 HB3.out

set_option maxRecDepth 100000 in
set_option maxHeartbeats 4000000 in
theorem gx_dt (na nb : Bool) {A A' : Option Addr} {c c' : Nat} {xs ys : List Nat} {w : World} (hx : Arg w A c xs) (hy : Arg w A' c' ys) (hsx : xs.length ≤ 4294967293) (hsy : ys.length ≤ 4294967293) (hlt : val b32 xs < val b32 ys) (hz : 0 < val b32 xs) (hl : 2 < (trimL ys).length) (hs : (trimL xs).length ≤ 2) :
    Calls Try.prog 35 #[.agg #[.bool na, .slice A xs.length c], .agg #[.bool nb, .slice A' ys.length c']] w (ZRet w (Nat.gcd (val b32 xs) (val b32 ys) : Nat)) := by
  have HX := Lib.hid hx
  have HY := Lib.hid hy
  have HLT := Lib.hid hlt
  clear hx hy hlt
  obtain ⟨W0, hW0⟩ : ∃ W0, W0 = ((w.alloc (.cells #[.bool na, .slice A xs.length c] 24)).alloc (.cells #[.bool nb, .slice A' ys.length c'] 24)).alloc (.cells #[.bool false, .slice none 0 0] 24) := ⟨_, rfl⟩
  have hb : Below w.heap.size w W0 := by rw [hW0]; exact (((Below.refl _ _).alloc (Nat.le_refl _) _).alloc (by simp) _).alloc (by simp; omega) _
  have tX : Zat W0 w.heap.size (.bool na) (.slice A xs.length c) := by rw [hW0]; exact ((Zat.new w _ _).alloc _).alloc _
  have tY : Zat W0 (w.heap.size + 1) (.bool nb) (.slice A' ys.length c') := by
    have h := Zat.new (w.alloc (.cells #[.bool na, .slice A xs.length c] 24)) (.bool nb) (.slice A' ys.length c')
    rw [World.size_alloc] at h
    rw [hW0]; exact h.alloc _
  have tR : Zat W0 (w.heap.size + 1 + 1) (.bool false) (.slice none 0 0) := by
    have h := Zat.new ((w.alloc (.cells #[.bool na, .slice A xs.length c] 24)).alloc (.cells #[.bool nb, .slice A' ys.length c'] 24)) (.bool false) (.slice none 0 0)
    rw [World.size_alloc, World.size_alloc] at h
    rw [hW0]; exact h
  have q1 := tX.two.c1
  have q2 := tY.two.c1
  have HW0 := Lib.hid hW0
  clear hW0
  go_enter Try.func35, Try.ntmps35
  go_wp2_with fail
  rw [← HW0.out]
  go_quiet ((first | (go_at_call 44; with_reducible exact Calls.quiet_of_same (trim_q (HX.out.to (hb.trans (bel_drewN (Below.refl _ _) _))))) | (go_at_call 44; with_reducible exact Calls.quiet_of_same (trim_q (HY.out.to (hb.trans (bel_drewN (Below.refl _ _) _)))))))
  rename_i nq
  have hb1 : Below w.heap.size w (W0.drewN nq) := bel_drewN hb _
  have tR1 : Zat (W0.drewN nq) (w.heap.size + 1 + 1) (.bool false) (.slice none 0 0) := tR
  generalize W0.drewN nq = W1 at hb1 tR1 ⊢
  clear q1 q2 tX tY tR hb HW0
  go_wp2_with fail
  refine (compare_l (HX.out.to hb1) (HY.out.to hb1)).mono ?_
  obtain ⟨cv, hcv, hcv0⟩ : ∃ cv, cmpN (val b32 xs) (val b32 ys) = cv ∧ cv < 0 := ⟨_, rfl, by have := HLT.out; unfold cmpN; split <;> (try split) <;> omega⟩
  rw [hcv]
  clear hcv
  rintro e w1 ⟨rfl, hb2⟩
  have hb3 := hb1.trans (hb2.mono hb1.size)
  have tR3 : Two w1 (w.heap.size + 1 + 1) _ _ := tR1.two.to hb2
  clear hb1 tR1 hb2
  have ttx : trimL (trimL xs) = trimL xs := by rw [trimL_dig b32_one HX.out.dg, trimL_of_dig b32_one]
  have tty : trimL (trimL ys) = trimL ys := by rw [trimL_dig b32_one HY.out.dg, trimL_of_dig b32_one]
  have AX := Lib.hid (HX.out.to hb3).trim
  have AY := Lib.hid (HY.out.to hb3).trim
  have hs0 : (trimL xs).length ≠ 0 := fun h => by
    rw [trimL_dig b32_one HX.out.dg] at h
    have := (dig_nil b32_one).1 (List.eq_nil_of_length_eq_zero h)
    omega
  have hsi : ¬ ((2 : Int) < ((trimL xs).length : Nat)) := by omega
  have hsq : ((((trimL xs).length : Nat) : Int) == 0) = false := by rw [beq_eq_false_iff_ne]; omega
  have hli : (2 : Int) < ((trimL ys).length : Nat) := by omega
  have ly64 := two_lt HX.out.dg hs
  have HD := Lib.hid (divide_all (HY.out.to hb3) (HX.out.to hb3) hz (by omega))
  have HZ := Lib.hid hz
  have LY := Lib.hid ly64
  clear hz hs0 hl hs ly64
  go_wp2_with fail
  refine HD.out.mono ?_
  rintro e w4 ⟨A5, c5, qs, A6, c6, rs, rfl, AQ, AR, vq, vr, hbd⟩
  have hb4 := hb3.trans (hbd.mono hb3.size)
  have tR4 := tR3.to hbd
  have AR4 := Lib.hid AR
  have VR := Lib.hid vr
  have aS4 := Lib.hid (HX.out.to hb4).trim
  clear AQ AR vq vr hbd hb3 tR3
  have hp64 : val b32 (trimL xs) < 18446744073709551616 := LY.out
  have hq64 : val b32 rs < 18446744073709551616 := by rw [VR.out]; have h1 := Nat.mod_lt (val b32 ys) HZ.out; have h2 := LY.out; rw [val_trimL] at h2; omega
  have aP := aS4.out
  have aQ := AR4.out
  have U1 := Lib.hid (toU64_arg aP hp64)
  have U2 := Lib.hid (toU64_arg aQ hq64)
  have HG1 : Hid (Nat.gcd (val b32 (trimL xs)) (val b32 rs) = Nat.gcd (val b32 xs) (val b32 ys)) := by show _ = _; rw [VR.out, val_trimL]; exact (gm _ _).trans (Nat.gcd_comm _ _)
  have HG0 := gcd_lt hp64 hq64
  have S1 := Lib.hid (smallGCD_any _ _ w4 hp64 hq64)
  rw [HG1.out] at S1 HG0
  obtain ⟨g, eg⟩ : ∃ g : Nat, Hid (Nat.gcd (val b32 xs) (val b32 ys) = g) := ⟨_, rfl⟩
  rw [eg.out] at S1 HG0
  have TRK := Lib.hid tR4
  have HBK := Lib.hid hb4
  clear HG1 hp64 hq64 aP aQ
  go_wp2_with fail
  refine U1.out.mono ?_
  rintro e w' ⟨rfl, rfl⟩
  go_wp2_with fail
  refine U2.out.mono ?_
  rintro e w' ⟨rfl, rfl⟩
  go_wp2_with fail
  refine S1.out.mono ?_
  rintro e w' ⟨rfl, dn, rfl⟩
  go_wp2_with fail
  refine (toWords_l g HG0 _).mono ?_
  rintro e w8 ⟨A8, c8, rfl, r1, r2, r3, hb8⟩
  have HI := Lib.hid (integer_l false r1 (Dg_dig b32_one g) r2 r3)
  rw [val_dig b32_one, show zof false g = ((g : Nat) : Int) from rfl] at HI
  have tRZ := (TRK.out.to (bel_drewN (Below.refl _ _) dn)).to hb8
  have HBZ := Lib.hid ((bel_drewN HBK.out dn).trans (hb8.mono HBK.out.size))
  clear r1 hb8
  obtain ⟨z, ez⟩ : ∃ z : Int, Hid (((g : Nat) : Int) = z) := ⟨_, rfl⟩
  rw [ez.out] at HI
  go_wp2_with fail
  refine HI.out.mono ?_
  rintro e w9 ⟨A9, c9, rfl, s1, s2, s3, hb9⟩
  obtain ⟨q1, q2, q3, q4, q5⟩ := tRZ.to hb9
  have S2 := Lib.hid s1
  have HB3 := Lib.hid (HBZ.out.trans (hb9.mono HBZ.out.size))
  clear s1 hb9 tRZ
  go_wp2
  have tF := (⟨q1, q2, q3, q4, q5⟩ : Two w9 (w.heap.size + 1 + 1) _ _).set (.bool (decide (z < 0))) (.slice A9 (dig b32 z.natAbs).length c9)
  refine bodyPost_ret (v := .agg #[.bool (decide (z < 0)), .slice A9 (dig b32 z.natAbs).length c9]) (by simp [results, Try.f35, go_sem, tF.c0, tF.c1]) rfl ?_
  rw [eg.out, ez.out]
  exact zret_stored ⟨q1, q2, q3, q4, q5⟩ (by omega) S2.out s2 s3 HB3.out

end Go.Proofs.Ytoaghihhobggoaa

namespace Go.Proofs.Ytoaghihhobggoaa
open Go.RowKit Go.Shelf

set_option maxRecDepth 100000 in
set_option maxHeartbeats 4000000 in
theorem gx_rf (na nb : Bool) {A A' : Option Addr} {c c' : Nat} {xs ys : List Nat} {w : World} (hx : Arg w A c xs) (hy : Arg w A' c' ys) (hsx : xs.length ≤ 4294967293) (hsy : ys.length ≤ 4294967293) (hlt : val b32 ys ≤ val b32 xs) (hs : 2 < (trimL ys).length) :
    Calls Try.prog 35 #[.agg #[.bool na, .slice A xs.length c], .agg #[.bool nb, .slice A' ys.length c']] w (ZRet w (Nat.gcd (val b32 xs) (val b32 ys) : Nat)) := by
  have HX := Lib.hid hx
  have HY := Lib.hid hy
  have HLT := Lib.hid hlt
  clear hx hy hlt
  obtain ⟨W0, hW0⟩ : ∃ W0, W0 = ((w.alloc (.cells #[.bool na, .slice A xs.length c] 24)).alloc (.cells #[.bool nb, .slice A' ys.length c'] 24)).alloc (.cells #[.bool false, .slice none 0 0] 24) := ⟨_, rfl⟩
  have hb : Below w.heap.size w W0 := by rw [hW0]; exact (((Below.refl _ _).alloc (Nat.le_refl _) _).alloc (by simp) _).alloc (by simp; omega) _
  have tX : Zat W0 w.heap.size (.bool na) (.slice A xs.length c) := by rw [hW0]; exact ((Zat.new w _ _).alloc _).alloc _
  have tY : Zat W0 (w.heap.size + 1) (.bool nb) (.slice A' ys.length c') := by
    have h := Zat.new (w.alloc (.cells #[.bool na, .slice A xs.length c] 24)) (.bool nb) (.slice A' ys.length c')
    rw [World.size_alloc] at h
    rw [hW0]; exact h.alloc _
  have tR : Zat W0 (w.heap.size + 1 + 1) (.bool false) (.slice none 0 0) := by
    have h := Zat.new ((w.alloc (.cells #[.bool na, .slice A xs.length c] 24)).alloc (.cells #[.bool nb, .slice A' ys.length c'] 24)) (.bool false) (.slice none 0 0)
    rw [World.size_alloc, World.size_alloc] at h
    rw [hW0]; exact h
  have q1 := tX.two.c1
  have q2 := tY.two.c1
  have HW0 := Lib.hid hW0
  clear hW0
  go_enter Try.func35, Try.ntmps35
  go_wp2_with fail
  rw [← HW0.out]
  go_quiet ((first | (go_at_call 44; with_reducible exact Calls.quiet_of_same (trim_q (HX.out.to (hb.trans (bel_drewN (Below.refl _ _) _))))) | (go_at_call 44; with_reducible exact Calls.quiet_of_same (trim_q (HY.out.to (hb.trans (bel_drewN (Below.refl _ _) _)))))))
  rename_i nq
  have hb1 : Below w.heap.size w (W0.drewN nq) := bel_drewN hb _
  have tR1 : Zat (W0.drewN nq) (w.heap.size + 1 + 1) (.bool false) (.slice none 0 0) := tR
  generalize W0.drewN nq = W1 at hb1 tR1 ⊢
  clear q1 q2 tX tY tR hb HW0
  go_wp2_with fail
  refine (compare_l (HX.out.to hb1) (HY.out.to hb1)).mono ?_
  obtain ⟨cv, hcv, hcv0⟩ : ∃ cv, cmpN (val b32 xs) (val b32 ys) = cv ∧ 0 ≤ cv := ⟨_, rfl, by have := HLT.out; unfold cmpN; split <;> (try split) <;> omega⟩
  rw [hcv]
  clear hcv
  rintro e w1 ⟨rfl, hb2⟩
  have hb3 := hb1.trans (hb2.mono hb1.size)
  have tR3 : Two w1 (w.heap.size + 1 + 1) _ _ := tR1.two.to hb2
  clear hb1 tR1 hb2
  have ttx : trimL (trimL xs) = trimL xs := by rw [trimL_dig b32_one HX.out.dg, trimL_of_dig b32_one]
  have tty : trimL (trimL ys) = trimL ys := by rw [trimL_dig b32_one HY.out.dg, trimL_of_dig b32_one]
  have AX := Lib.hid (HX.out.to hb3).trim
  have AY := Lib.hid (HY.out.to hb3).trim
  have hsi : (2 : Int) < ((trimL ys).length : Nat) := by omega
  have hll : (trimL ys).length ≤ (trimL xs).length := by
    have h1 := val_lt AX.out.dg
    rw [val_trimL] at h1
    have h2 := HLT.out
    rw [trimL_dig b32_one HY.out.dg]
    exact dig_length_le b32_one (by omega)
  have RD := Lib.hid (reduce_any (G := Nat.gcd (val b32 xs) (val b32 ys)) AX.out AY.out ttx hs hll (by rw [val_trimL, val_trimL]; have := HLT.out; omega) (by rw [val_trimL, val_trimL]) (Nat.le_trans (trimL_le _) (by assumption)))
  clear hs hll
  go_wp2_with fail
  refine RD.out.mono ?_
  rintro e w4 ⟨A5, c5, us, A6, c6, vs, rfl, AU, AV, tu, tv, hv2, hvu, hgg, hul, hbd⟩
  have hb4 := hb3.trans (hbd.mono hb3.size)
  have tR4 := tR3.to hbd
  have AU4 := Lib.hid AU
  have AV4 := Lib.hid AV
  have HGG := Lib.hid hgg
  have hus : us.length ≤ 4294967293 := by have := trimL_le xs; omega
  clear AU AV hgg hul hbd hb3 tR3 RD
  rcases Nat.eq_zero_or_pos (val b32 vs) with hz | hz
  · have hs0 : vs.length = 0 := by rw [← tv, trimL_dig b32_one AV4.out.dg, hz]; rfl
    have hsq : (((vs.length : Nat) : Int) == 0) = true := by rw [hs0]; rfl
    have HZ := Lib.hid hz
    clear hz hs0 hv2 hvu
    obtain ⟨g, eg⟩ : ∃ g : Nat, Hid (Nat.gcd (val b32 xs) (val b32 ys) = g) := ⟨_, rfl⟩
    have HGZ : Hid (zof false (val b32 us) = ((g : Nat) : Int)) := by
      show _ = _
      rw [← eg.out, ← HGG.out, HZ.out, Nat.gcd_zero_right]
      rfl
    have aU := AU4.out
    have dU := aU.dg
    have TRK := Lib.hid tR4
    have HBK := Lib.hid hb4
    go_wp2_with fail
    refine (clone_l aU).mono ?_
    rintro e w8 ⟨A8, c8, rfl, r1, r2, r3, hb8⟩
    have HI := Lib.hid (integer_l false r1 dU r2 r3)
    rw [HGZ.out] at HI
    have tRZ := TRK.out.to hb8
    have HBZ := Lib.hid (HBK.out.trans (hb8.mono HBK.out.size))
    clear r1 hb8
    obtain ⟨z, ez⟩ : ∃ z : Int, Hid (((g : Nat) : Int) = z) := ⟨_, rfl⟩
    rw [ez.out] at HI
    go_wp2_with fail
    refine HI.out.mono ?_
    rintro e w9 ⟨A9, c9, rfl, s1, s2, s3, hb9⟩
    obtain ⟨q1, q2, q3, q4, q5⟩ := tRZ.to hb9
    have S2 := Lib.hid s1
    have HB3 := Lib.hid (HBZ.out.trans (hb9.mono HBZ.out.size))
    clear s1 hb9 tRZ
    go_wp2
    have tF := (⟨q1, q2, q3, q4, q5⟩ : Two w9 (w.heap.size + 1 + 1) _ _).set (.bool (decide (z < 0))) (.slice A9 (dig b32 z.natAbs).length c9)
    refine bodyPost_ret (v := .agg #[.bool (decide (z < 0)), .slice A9 (dig b32 z.natAbs).length c9]) (by simp [results, Try.f35, go_sem, tF.c0, tF.c1]) rfl ?_
    rw [eg.out, ez.out]
    exact zret_stored ⟨q1, q2, q3, q4, q5⟩ (by omega) S2.out s2 s3 HB3.out
  · have hs0 : vs.length ≠ 0 := fun h => by
      have : vs = [] := List.eq_nil_of_length_eq_zero h
      rw [this] at hz
      simp [val] at hz
    have hsq : (((vs.length : Nat) : Int) == 0) = false := by rw [beq_eq_false_iff_ne]; omega
    have lv64 := two_lt AV4.out.dg (by rw [tv]; exact hv2)
    rw [tv] at lv64
    have LV := Lib.hid lv64
    have HZ := Lib.hid hz
    by_cases hl : us.length ≤ 2
    · have hli : ¬ ((2 : Int) < (us.length : Nat)) := by omega
      have lu64 := two_lt AU4.out.dg (by rw [tu]; exact hl)
      rw [tu] at lu64
      have LU := Lib.hid lu64
      clear hz hs0 hv2 hvu hl lv64 lu64
      have hp64 : val b32 us < 18446744073709551616 := LU.out
      have hq64 : val b32 vs < 18446744073709551616 := LV.out
      have aP := AU4.out
      have aQ := AV4.out
      have U1 := Lib.hid (toU64_arg aP hp64)
      have U2 := Lib.hid (toU64_arg aQ hq64)
      have HG1 : Hid (Nat.gcd (val b32 us) (val b32 vs) = Nat.gcd (val b32 xs) (val b32 ys)) := HGG
      have HG0 := gcd_lt hp64 hq64
      have S1 := Lib.hid (smallGCD_any _ _ w4 hp64 hq64)
      rw [HG1.out] at S1 HG0
      obtain ⟨g, eg⟩ : ∃ g : Nat, Hid (Nat.gcd (val b32 xs) (val b32 ys) = g) := ⟨_, rfl⟩
      rw [eg.out] at S1 HG0
      have TRK := Lib.hid tR4
      have HBK := Lib.hid hb4
      clear HG1 hp64 hq64 aP aQ
      go_wp2_with fail
      refine U1.out.mono ?_
      rintro e w' ⟨rfl, rfl⟩
      go_wp2_with fail
      refine U2.out.mono ?_
      rintro e w' ⟨rfl, rfl⟩
      go_wp2_with fail
      refine S1.out.mono ?_
      rintro e w' ⟨rfl, dn, rfl⟩
      go_wp2_with fail
      refine (toWords_l g HG0 _).mono ?_
      rintro e w8 ⟨A8, c8, rfl, r1, r2, r3, hb8⟩
      have HI := Lib.hid (integer_l false r1 (Dg_dig b32_one g) r2 r3)
      rw [val_dig b32_one, show zof false g = ((g : Nat) : Int) from rfl] at HI
      have tRZ := (TRK.out.to (bel_drewN (Below.refl _ _) dn)).to hb8
      have HBZ := Lib.hid ((bel_drewN HBK.out dn).trans (hb8.mono HBK.out.size))
      clear r1 hb8
      obtain ⟨z, ez⟩ : ∃ z : Int, Hid (((g : Nat) : Int) = z) := ⟨_, rfl⟩
      rw [ez.out] at HI
      go_wp2_with fail
      refine HI.out.mono ?_
      rintro e w9 ⟨A9, c9, rfl, s1, s2, s3, hb9⟩
      obtain ⟨q1, q2, q3, q4, q5⟩ := tRZ.to hb9
      have S2 := Lib.hid s1
      have HB3 := Lib.hid (HBZ.out.trans (hb9.mono HBZ.out.size))
      clear s1 hb9 tRZ
      go_wp2
      have tF := (⟨q1, q2, q3, q4, q5⟩ : Two w9 (w.heap.size + 1 + 1) _ _).set (.bool (decide (z < 0))) (.slice A9 (dig b32 z.natAbs).length c9)
      refine bodyPost_ret (v := .agg #[.bool (decide (z < 0)), .slice A9 (dig b32 z.natAbs).length c9]) (by simp [results, Try.f35, go_sem, tF.c0, tF.c1]) rfl ?_
      rw [eg.out, ez.out]
      exact zret_stored ⟨q1, q2, q3, q4, q5⟩ (by omega) S2.out s2 s3 HB3.out
    · have hli : (2 : Int) < (us.length : Nat) := by omega
      have HD := divide_all AU4.out AV4.out hz (by omega)
      rw [tu, tv] at HD
      have HDH := Lib.hid HD
      clear hz hs0 hv2 hvu hl lv64 HD
      go_wp2_with fail
      refine HDH.out.mono ?_
      rintro e w5 ⟨A7, c7, qs, A10, c10, rs, rfl, AQ, AR, vq, vr, hbe⟩
      have hb5 := hb4.trans (hbe.mono hb4.size)
      have tR5 := tR4.to hbe
      have AR5 := Lib.hid AR
      have VR := Lib.hid vr
      have AV5 := Lib.hid (AV4.out.to hbe)
      clear AQ AR vq vr hbe hb4 tR4
      have hp64 : val b32 vs < 18446744073709551616 := LV.out
      have hq64 : val b32 rs < 18446744073709551616 := by rw [VR.out]; have h1 := Nat.mod_lt (val b32 us) HZ.out; have h2 := LV.out; omega
      have aP := AV5.out
      have aQ := AR5.out
      have U1 := Lib.hid (toU64_arg aP hp64)
      have U2 := Lib.hid (toU64_arg aQ hq64)
      have HG1 : Hid (Nat.gcd (val b32 vs) (val b32 rs) = Nat.gcd (val b32 xs) (val b32 ys)) := by show _ = _; rw [VR.out, gm]; exact HGG.out
      have HG0 := gcd_lt hp64 hq64
      have S1 := Lib.hid (smallGCD_any _ _ w5 hp64 hq64)
      rw [HG1.out] at S1 HG0
      obtain ⟨g, eg⟩ : ∃ g : Nat, Hid (Nat.gcd (val b32 xs) (val b32 ys) = g) := ⟨_, rfl⟩
      rw [eg.out] at S1 HG0
      have TRK := Lib.hid tR5
      have HBK := Lib.hid hb5
      clear HG1 hp64 hq64 aP aQ
      go_wp2_with fail
      refine U1.out.mono ?_
      rintro e w' ⟨rfl, rfl⟩
      go_wp2_with fail
      refine U2.out.mono ?_
      rintro e w' ⟨rfl, rfl⟩
      go_wp2_with fail
      refine S1.out.mono ?_
      rintro e w' ⟨rfl, dn, rfl⟩
      go_wp2_with fail
      refine (toWords_l g HG0 _).mono ?_
      rintro e w8 ⟨A8, c8, rfl, r1, r2, r3, hb8⟩
      have HI := Lib.hid (integer_l false r1 (Dg_dig b32_one g) r2 r3)
      rw [val_dig b32_one, show zof false g = ((g : Nat) : Int) from rfl] at HI
      have tRZ := (TRK.out.to (bel_drewN (Below.refl _ _) dn)).to hb8
      have HBZ := Lib.hid ((bel_drewN HBK.out dn).trans (hb8.mono HBK.out.size))
      clear r1 hb8
      obtain ⟨z, ez⟩ : ∃ z : Int, Hid (((g : Nat) : Int) = z) := ⟨_, rfl⟩
      rw [ez.out] at HI
      go_wp2_with fail
      refine HI.out.mono ?_
      rintro e w9 ⟨A9, c9, rfl, s1, s2, s3, hb9⟩
      obtain ⟨q1, q2, q3, q4, q5⟩ := tRZ.to hb9
      have S2 := Lib.hid s1
      have HB3 := Lib.hid (HBZ.out.trans (hb9.mono HBZ.out.size))
      clear s1 hb9 tRZ
      go_wp2
      have tF := (⟨q1, q2, q3, q4, q5⟩ : Two w9 (w.heap.size + 1 + 1) _ _).set (.bool (decide (z < 0))) (.slice A9 (dig b32 z.natAbs).length c9)
      refine bodyPost_ret (v := .agg #[.bool (decide (z < 0)), .slice A9 (dig b32 z.natAbs).length c9]) (by simp [results, Try.f35, go_sem, tF.c0, tF.c1]) rfl ?_
      rw [eg.out, ez.out]
      exact zret_stored ⟨q1, q2, q3, q4, q5⟩ (by omega) S2.out s2 s3 HB3.out

end Go.Proofs.Ytoaghihhobggoaa

namespace Go.Proofs.Ytoaghihhobggoaa
open Go.RowKit Go.Shelf

set_option maxRecDepth 100000 in
set_option maxHeartbeats 4000000 in
theorem gx_rt (na nb : Bool) {A A' : Option Addr} {c c' : Nat} {xs ys : List Nat} {w : World} (hx : Arg w A c xs) (hy : Arg w A' c' ys) (hsx : xs.length ≤ 4294967293) (hsy : ys.length ≤ 4294967293) (hlt : val b32 xs < val b32 ys) (hs : 2 < (trimL xs).length) :
    Calls Try.prog 35 #[.agg #[.bool na, .slice A xs.length c], .agg #[.bool nb, .slice A' ys.length c']] w (ZRet w (Nat.gcd (val b32 xs) (val b32 ys) : Nat)) := by
  have HX := Lib.hid hx
  have HY := Lib.hid hy
  have HLT := Lib.hid hlt
  clear hx hy hlt
  obtain ⟨W0, hW0⟩ : ∃ W0, W0 = ((w.alloc (.cells #[.bool na, .slice A xs.length c] 24)).alloc (.cells #[.bool nb, .slice A' ys.length c'] 24)).alloc (.cells #[.bool false, .slice none 0 0] 24) := ⟨_, rfl⟩
  have hb : Below w.heap.size w W0 := by rw [hW0]; exact (((Below.refl _ _).alloc (Nat.le_refl _) _).alloc (by simp) _).alloc (by simp; omega) _
  have tX : Zat W0 w.heap.size (.bool na) (.slice A xs.length c) := by rw [hW0]; exact ((Zat.new w _ _).alloc _).alloc _
  have tY : Zat W0 (w.heap.size + 1) (.bool nb) (.slice A' ys.length c') := by
    have h := Zat.new (w.alloc (.cells #[.bool na, .slice A xs.length c] 24)) (.bool nb) (.slice A' ys.length c')
    rw [World.size_alloc] at h
    rw [hW0]; exact h.alloc _
  have tR : Zat W0 (w.heap.size + 1 + 1) (.bool false) (.slice none 0 0) := by
    have h := Zat.new ((w.alloc (.cells #[.bool na, .slice A xs.length c] 24)).alloc (.cells #[.bool nb, .slice A' ys.length c'] 24)) (.bool false) (.slice none 0 0)
    rw [World.size_alloc, World.size_alloc] at h
    rw [hW0]; exact h
  have q1 := tX.two.c1
  have q2 := tY.two.c1
  have HW0 := Lib.hid hW0
  clear hW0
  go_enter Try.func35, Try.ntmps35
  go_wp2_with fail
  rw [← HW0.out]
  go_quiet ((first | (go_at_call 44; with_reducible exact Calls.quiet_of_same (trim_q (HX.out.to (hb.trans (bel_drewN (Below.refl _ _) _))))) | (go_at_call 44; with_reducible exact Calls.quiet_of_same (trim_q (HY.out.to (hb.trans (bel_drewN (Below.refl _ _) _)))))))
  rename_i nq
  have hb1 : Below w.heap.size w (W0.drewN nq) := bel_drewN hb _
  have tR1 : Zat (W0.drewN nq) (w.heap.size + 1 + 1) (.bool false) (.slice none 0 0) := tR
  generalize W0.drewN nq = W1 at hb1 tR1 ⊢
  clear q1 q2 tX tY tR hb HW0
  go_wp2_with fail
  refine (compare_l (HX.out.to hb1) (HY.out.to hb1)).mono ?_
  obtain ⟨cv, hcv, hcv0⟩ : ∃ cv, cmpN (val b32 xs) (val b32 ys) = cv ∧ cv < 0 := ⟨_, rfl, by have := HLT.out; unfold cmpN; split <;> (try split) <;> omega⟩
  rw [hcv]
  clear hcv
  rintro e w1 ⟨rfl, hb2⟩
  have hb3 := hb1.trans (hb2.mono hb1.size)
  have tR3 : Two w1 (w.heap.size + 1 + 1) _ _ := tR1.two.to hb2
  clear hb1 tR1 hb2
  have ttx : trimL (trimL xs) = trimL xs := by rw [trimL_dig b32_one HX.out.dg, trimL_of_dig b32_one]
  have tty : trimL (trimL ys) = trimL ys := by rw [trimL_dig b32_one HY.out.dg, trimL_of_dig b32_one]
  have AX := Lib.hid (HX.out.to hb3).trim
  have AY := Lib.hid (HY.out.to hb3).trim
  have hsi : (2 : Int) < ((trimL xs).length : Nat) := by omega
  have hll : (trimL xs).length ≤ (trimL ys).length := by
    have h1 := val_lt AY.out.dg
    rw [val_trimL] at h1
    have h2 := HLT.out
    rw [trimL_dig b32_one HX.out.dg]
    exact dig_length_le b32_one (by omega)
  have RD := Lib.hid (reduce_any (G := Nat.gcd (val b32 xs) (val b32 ys)) AY.out AX.out tty hs hll (by rw [val_trimL, val_trimL]; have := HLT.out; omega) (by rw [val_trimL, val_trimL]; exact Nat.gcd_comm _ _) (Nat.le_trans (trimL_le _) (by assumption)))
  clear hs hll
  go_wp2_with fail
  refine RD.out.mono ?_
  rintro e w4 ⟨A5, c5, us, A6, c6, vs, rfl, AU, AV, tu, tv, hv2, hvu, hgg, hul, hbd⟩
  have hb4 := hb3.trans (hbd.mono hb3.size)
  have tR4 := tR3.to hbd
  have AU4 := Lib.hid AU
  have AV4 := Lib.hid AV
  have HGG := Lib.hid hgg
  have hus : us.length ≤ 4294967293 := by have := trimL_le ys; omega
  clear AU AV hgg hul hbd hb3 tR3 RD
  rcases Nat.eq_zero_or_pos (val b32 vs) with hz | hz
  · have hs0 : vs.length = 0 := by rw [← tv, trimL_dig b32_one AV4.out.dg, hz]; rfl
    have hsq : (((vs.length : Nat) : Int) == 0) = true := by rw [hs0]; rfl
    have HZ := Lib.hid hz
    clear hz hs0 hv2 hvu
    obtain ⟨g, eg⟩ : ∃ g : Nat, Hid (Nat.gcd (val b32 xs) (val b32 ys) = g) := ⟨_, rfl⟩
    have HGZ : Hid (zof false (val b32 us) = ((g : Nat) : Int)) := by
      show _ = _
      rw [← eg.out, ← HGG.out, HZ.out, Nat.gcd_zero_right]
      rfl
    have aU := AU4.out
    have dU := aU.dg
    have TRK := Lib.hid tR4
    have HBK := Lib.hid hb4
    go_wp2_with fail
    refine (clone_l aU).mono ?_
    rintro e w8 ⟨A8, c8, rfl, r1, r2, r3, hb8⟩
    have HI := Lib.hid (integer_l false r1 dU r2 r3)
    rw [HGZ.out] at HI
    have tRZ := TRK.out.to hb8
    have HBZ := Lib.hid (HBK.out.trans (hb8.mono HBK.out.size))
    clear r1 hb8
    obtain ⟨z, ez⟩ : ∃ z : Int, Hid (((g : Nat) : Int) = z) := ⟨_, rfl⟩
    rw [ez.out] at HI
    go_wp2_with fail
    refine HI.out.mono ?_
    rintro e w9 ⟨A9, c9, rfl, s1, s2, s3, hb9⟩
    obtain ⟨q1, q2, q3, q4, q5⟩ := tRZ.to hb9
    have S2 := Lib.hid s1
    have HB3 := Lib.hid (HBZ.out.trans (hb9.mono HBZ.out.size))
    clear s1 hb9 tRZ
    go_wp2
    have tF := (⟨q1, q2, q3, q4, q5⟩ : Two w9 (w.heap.size + 1 + 1) _ _).set (.bool (decide (z < 0))) (.slice A9 (dig b32 z.natAbs).length c9)
    refine bodyPost_ret (v := .agg #[.bool (decide (z < 0)), .slice A9 (dig b32 z.natAbs).length c9]) (by simp [results, Try.f35, go_sem, tF.c0, tF.c1]) rfl ?_
    rw [eg.out, ez.out]
    exact zret_stored ⟨q1, q2, q3, q4, q5⟩ (by omega) S2.out s2 s3 HB3.out
  · have hs0 : vs.length ≠ 0 := fun h => by
      have : vs = [] := List.eq_nil_of_length_eq_zero h
      rw [this] at hz
      simp [val] at hz
    have hsq : (((vs.length : Nat) : Int) == 0) = false := by rw [beq_eq_false_iff_ne]; omega
    have lv64 := two_lt AV4.out.dg (by rw [tv]; exact hv2)
    rw [tv] at lv64
    have LV := Lib.hid lv64
    have HZ := Lib.hid hz
    by_cases hl : us.length ≤ 2
    · have hli : ¬ ((2 : Int) < (us.length : Nat)) := by omega
      have lu64 := two_lt AU4.out.dg (by rw [tu]; exact hl)
      rw [tu] at lu64
      have LU := Lib.hid lu64
      clear hz hs0 hv2 hvu hl lv64 lu64
      have hp64 : val b32 us < 18446744073709551616 := LU.out
      have hq64 : val b32 vs < 18446744073709551616 := LV.out
      have aP := AU4.out
      have aQ := AV4.out
      have U1 := Lib.hid (toU64_arg aP hp64)
      have U2 := Lib.hid (toU64_arg aQ hq64)
      have HG1 : Hid (Nat.gcd (val b32 us) (val b32 vs) = Nat.gcd (val b32 xs) (val b32 ys)) := HGG
      have HG0 := gcd_lt hp64 hq64
      have S1 := Lib.hid (smallGCD_any _ _ w4 hp64 hq64)
      rw [HG1.out] at S1 HG0
      obtain ⟨g, eg⟩ : ∃ g : Nat, Hid (Nat.gcd (val b32 xs) (val b32 ys) = g) := ⟨_, rfl⟩
      rw [eg.out] at S1 HG0
      have TRK := Lib.hid tR4
      have HBK := Lib.hid hb4
      clear HG1 hp64 hq64 aP aQ
      go_wp2_with fail
      refine U1.out.mono ?_
      rintro e w' ⟨rfl, rfl⟩
      go_wp2_with fail
      refine U2.out.mono ?_
      rintro e w' ⟨rfl, rfl⟩
      go_wp2_with fail
      refine S1.out.mono ?_
      rintro e w' ⟨rfl, dn, rfl⟩
      go_wp2_with fail
      refine (toWords_l g HG0 _).mono ?_
      rintro e w8 ⟨A8, c8, rfl, r1, r2, r3, hb8⟩
      have HI := Lib.hid (integer_l false r1 (Dg_dig b32_one g) r2 r3)
      rw [val_dig b32_one, show zof false g = ((g : Nat) : Int) from rfl] at HI
      have tRZ := (TRK.out.to (bel_drewN (Below.refl _ _) dn)).to hb8
      have HBZ := Lib.hid ((bel_drewN HBK.out dn).trans (hb8.mono HBK.out.size))
      clear r1 hb8
      obtain ⟨z, ez⟩ : ∃ z : Int, Hid (((g : Nat) : Int) = z) := ⟨_, rfl⟩
      rw [ez.out] at HI
      go_wp2_with fail
      refine HI.out.mono ?_
      rintro e w9 ⟨A9, c9, rfl, s1, s2, s3, hb9⟩
      obtain ⟨q1, q2, q3, q4, q5⟩ := tRZ.to hb9
      have S2 := Lib.hid s1
      have HB3 := Lib.hid (HBZ.out.trans (hb9.mono HBZ.out.size))
      clear s1 hb9 tRZ
      go_wp2
      have tF := (⟨q1, q2, q3, q4, q5⟩ : Two w9 (w.heap.size + 1 + 1) _ _).set (.bool (decide (z < 0))) (.slice A9 (dig b32 z.natAbs).length c9)
      refine bodyPost_ret (v := .agg #[.bool (decide (z < 0)), .slice A9 (dig b32 z.natAbs).length c9]) (by simp [results, Try.f35, go_sem, tF.c0, tF.c1]) rfl ?_
      rw [eg.out, ez.out]
      exact zret_stored ⟨q1, q2, q3, q4, q5⟩ (by omega) S2.out s2 s3 HB3.out
    · have hli : (2 : Int) < (us.length : Nat) := by omega
      have HD := divide_all AU4.out AV4.out hz (by omega)
      rw [tu, tv] at HD
      have HDH := Lib.hid HD
      clear hz hs0 hv2 hvu hl lv64 HD
      go_wp2_with fail
      refine HDH.out.mono ?_
      rintro e w5 ⟨A7, c7, qs, A10, c10, rs, rfl, AQ, AR, vq, vr, hbe⟩
      have hb5 := hb4.trans (hbe.mono hb4.size)
      have tR5 := tR4.to hbe
      have AR5 := Lib.hid AR
      have VR := Lib.hid vr
      have AV5 := Lib.hid (AV4.out.to hbe)
      clear AQ AR vq vr hbe hb4 tR4
      have hp64 : val b32 vs < 18446744073709551616 := LV.out
      have hq64 : val b32 rs < 18446744073709551616 := by rw [VR.out]; have h1 := Nat.mod_lt (val b32 us) HZ.out; have h2 := LV.out; omega
      have aP := AV5.out
      have aQ := AR5.out
      have U1 := Lib.hid (toU64_arg aP hp64)
      have U2 := Lib.hid (toU64_arg aQ hq64)
      have HG1 : Hid (Nat.gcd (val b32 vs) (val b32 rs) = Nat.gcd (val b32 xs) (val b32 ys)) := by show _ = _; rw [VR.out, gm]; exact HGG.out
      have HG0 := gcd_lt hp64 hq64
      have S1 := Lib.hid (smallGCD_any _ _ w5 hp64 hq64)
      rw [HG1.out] at S1 HG0
      obtain ⟨g, eg⟩ : ∃ g : Nat, Hid (Nat.gcd (val b32 xs) (val b32 ys) = g) := ⟨_, rfl⟩
      rw [eg.out] at S1 HG0
      have TRK := Lib.hid tR5
      have HBK := Lib.hid hb5
      clear HG1 hp64 hq64 aP aQ
      go_wp2_with fail
      refine U1.out.mono ?_
      rintro e w' ⟨rfl, rfl⟩
      go_wp2_with fail
      refine U2.out.mono ?_
      rintro e w' ⟨rfl, rfl⟩
      go_wp2_with fail
      refine S1.out.mono ?_
      rintro e w' ⟨rfl, dn, rfl⟩
      go_wp2_with fail
      refine (toWords_l g HG0 _).mono ?_
      rintro e w8 ⟨A8, c8, rfl, r1, r2, r3, hb8⟩
      have HI := Lib.hid (integer_l false r1 (Dg_dig b32_one g) r2 r3)
      rw [val_dig b32_one, show zof false g = ((g : Nat) : Int) from rfl] at HI
      have tRZ := (TRK.out.to (bel_drewN (Below.refl _ _) dn)).to hb8
      have HBZ := Lib.hid ((bel_drewN HBK.out dn).trans (hb8.mono HBK.out.size))
      clear r1 hb8
      obtain ⟨z, ez⟩ : ∃ z : Int, Hid (((g : Nat) : Int) = z) := ⟨_, rfl⟩
      rw [ez.out] at HI
      go_wp2_with fail
      refine HI.out.mono ?_
      rintro e w9 ⟨A9, c9, rfl, s1, s2, s3, hb9⟩
      obtain ⟨q1, q2, q3, q4, q5⟩ := tRZ.to hb9
      have S2 := Lib.hid s1
      have HB3 := Lib.hid (HBZ.out.trans (hb9.mono HBZ.out.size))
      clear s1 hb9 tRZ
      go_wp2
      have tF := (⟨q1, q2, q3, q4, q5⟩ : Two w9 (w.heap.size + 1 + 1) _ _).set (.bool (decide (z < 0))) (.slice A9 (dig b32 z.natAbs).length c9)
      refine bodyPost_ret (v := .agg #[.bool (decide (z < 0)), .slice A9 (dig b32 z.natAbs).length c9]) (by simp [results, Try.f35, go_sem, tF.c0, tF.c1]) rfl ?_
      rw [eg.out, ez.out]
      exact zret_stored ⟨q1, q2, q3, q4, q5⟩ (by omega) S2.out s2 s3 HB3.out

end Go.Proofs.Ytoaghihhobggoaa

namespace Go.Proofs.Ytoaghihhobggoaa
open Go.RowKit Go.Shelf

/-- GCD in full. -/
theorem gcd_all (na nb : Bool) {A A' : Option Addr} {c c' : Nat} {xs ys : List Nat} {w : World} (hx : Arg w A c xs) (hy : Arg w A' c' ys) (hsx : xs.length ≤ 4294967293) (hsy : ys.length ≤ 4294967293) :
    Calls Try.prog 35 #[.agg #[.bool na, .slice A xs.length c], .agg #[.bool nb, .slice A' ys.length c']] w (ZRet w (Nat.gcd (val b32 xs) (val b32 ys) : Nat)) := by
  have mono : ∀ {us vs : List Nat}, Dg b32 us → Dg b32 vs → val b32 us ≤ val b32 vs → (trimL us).length ≤ (trimL vs).length := fun {us vs} du dv h => by
    have h1 := val_lt (dv.take (trimN vs))
    rw [show vs.take (trimN vs) = trimL vs from rfl, val_trimL] at h1
    rw [trimL_dig b32_one du]
    exact dig_length_le b32_one (by omega)
  rcases Nat.lt_or_ge (val b32 xs) (val b32 ys) with h | h
  · rcases Nat.eq_zero_or_pos (val b32 xs) with h0 | h0
    · exact gx_zt na nb hx hy hsx hsy h h0
    · rcases Nat.lt_or_ge 2 (trimL xs).length with h2 | h2
      · exact gx_rt na nb hx hy hsx hsy h h2
      · rcases Nat.lt_or_ge 2 (trimL ys).length with h3 | h3
        · exact gx_dt na nb hx hy hsx hsy h h0 h3 h2
        · exact gcd_small na nb hx hy h2 h3
  · rcases Nat.eq_zero_or_pos (val b32 ys) with h0 | h0
    · exact gx_zf na nb hx hy hsx hsy h h0
    · rcases Nat.lt_or_ge 2 (trimL ys).length with h2 | h2
      · exact gx_rf na nb hx hy hsx hsy h h2
      · rcases Nat.lt_or_ge 2 (trimL xs).length with h3 | h3
        · exact gx_df na nb hx hy hsx hsy h h0 h3 h2
        · exact gcd_small na nb hx hy h3 h2
end Go.Proofs.Ytoaghihhobggoaa
