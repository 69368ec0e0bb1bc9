/- Parts: 5. -/
import Derived.Test.YtgkfbhdaheoecaaGreatFo5
import Derived.Test.YtgkfbhdaheoecaaGreatFo18
set_option linter.unusedVariables false
set_option linter.unusedSimpArgs false
set_option maxRecDepth 100000
set_option maxHeartbeats 40000000

namespace Go.Proofs.YtgkfbhdaheoecaaGreat
open Go.RowKit Go.Shelf

theorem isOne_w {w : World} {x y : Value} {a : Int} {v : Bool} (ha : Zl w x y a) (hv : decide (a = 1) = v) : Calls Tryz.prog 35 #[.agg #[x, y]] w fun e w' => e = .returned (.bool v) /\ Below w.heap.size w w' := by
  subst hv; exact isOne_z ha.zi

theorem isCanQ {w : World} {x1 y1 x2 y2 : Value} {p q : Int} (h1 : Zc w x1 y1 p) (h2 : Zc w x2 y2 q) (sp : Sg p) (sq : Sg q) (hq : 0 < q) :
    Calls Tryz.prog 13 #[.agg #[x1, y1, x2, y2]] w fun e w' => e = .returned (.bool (decide (q ≠ 1 /\ Int.gcd p q = 1))) /\ Below w.heap.size w w' := by
  obtain ⟨W0, hW0⟩ : ∃ W0, W0 = w.alloc (.cells #[x1, y1, x2, y2] 26) := ⟨_, rfl⟩
  have hbw : Below w.heap.size w W0 := by rw [hW0]; exact (Below.refl _ _).alloc (Nat.le_refl _) _
  have tA : Four W0 w.heap.size x1 y1 x2 y2 := by rw [hW0]; exact Four.new w _ _ _ _ _
  have HW0 := Lib.hid hW0
  have hA := h1.to hbw
  have hB := h2.to hbw
  have HB := Lib.hid hbw
  have SP := Lib.hid sp
  have SQ := Lib.hid sq
  have hs := Lib.hid (sgn_pos hq)
  have SG : Hid (Sg (Int.gcd p q : Nat)) := by
    show Sg _
    have h := gcd_le p q (by omega)
    unfold Sg at *
    omega
  have hl : (dig b32 q.natAbs).length ≠ 0 := fun h => by
    have h1 := (dig_nil b32_one).1 (List.eq_nil_of_length_eq_zero h)
    omega
  have hR1 : Hid (q = 1 -> decide (q ≠ 1 /\ Int.gcd p q = 1) = false) := fun h => decide_eq_false (fun h' => h'.1 h)
  have hR2 : Hid (q ≠ 1 -> decide (((Int.gcd p q : Nat) : Int) = 1) = decide (q ≠ 1 /\ Int.gcd p q = 1)) := fun h => by
    rw [decide_eq_decide]
    exact ⟨fun h' => ⟨h, by omega⟩, fun h' => by omega⟩
  obtain ⟨R, eR⟩ : ∃ R, decide (q ≠ 1 /\ Int.gcd p q = 1) = R := ⟨_, rfl⟩
  rw [eR] at hR1 hR2 ⊢
  clear h1 h2 hW0 hbw sp sq hq eR
  obtain ⟨A2, c2, ex2, ey2, hz2⟩ := hB
  have hB : Zc W0 x2 y2 q := ⟨A2, c2, ex2, ey2, hz2⟩
  obtain ⟨l, el⟩ : ∃ l, (dig b32 q.natAbs).length = l := ⟨_, rfl⟩
  rw [el] at hl ey2
  subst ex2 ey2
  have hl2 : ((l : Int) == 0) = false := by rw [beq_eq_false_iff_ne]; omega
  clear hz2 el
  by_cases h1 : q = 1
  · have ho : Hid (decide (q = 1) = true) := decide_eq_true h1
    have hR := hR1.out h1
    subst hR
    clear hR1 hR2 h1
    go_enter Tryz.func13, Tryz.ntmps13
    go_wp2_with fail
    rw [<- HW0.out]
    have k0 := tA.c0
    have k1 := tA.c1
    go_wp2_with fail
    refine (isCan_c hA SP.out.sm (by decide)).mono ?_
    rintro e V1 ⟨rfl, bb⟩
    replace tA := tA.to bb
    replace hB := hB.to bb
    replace HB := Lib.hid (HB.out.trans (bb.mono HB.out.size))
    clear k0 k1 bb hA
    have k2 := tA.c2
    have k3 := tA.c3
    go_wp2_with fail
    refine (isCan_c hB SQ.out.sm (by decide)).mono ?_
    rintro e V2 ⟨rfl, bb⟩
    replace tA := tA.to bb
    replace hB := hB.to bb
    replace HB := Lib.hid (HB.out.trans (bb.mono HB.out.size))
    clear k2 k3 bb
    have k2 := tA.c2
    have k3 := tA.c3
    go_wp2_with fail
    refine (sign_v (hB.zs SQ.out) hs.out).mono ?_
    rintro e V3 ⟨rfl, bb⟩
    replace tA := tA.to bb
    replace hB := hB.to bb
    replace HB := Lib.hid (HB.out.trans (bb.mono HB.out.size))
    clear k2 k3 bb
    have k2 := tA.c2
    have k3 := tA.c3
    go_wp2_with fail
    refine (isOne_w (hB.zs SQ.out) ho.out).mono ?_
    rintro e V4 ⟨rfl, bb⟩
    replace HB := Lib.hid (HB.out.trans (bb.mono HB.out.size))
    clear k2 k3 bb tA hB
    go_wp2
    go_ret
    exact ⟨rfl, HB.out⟩
  · have ho : Hid (decide (q = 1) = false) := decide_eq_false h1
    have hR := Lib.hid (hR2.out h1)
    clear hR1 hR2 h1
    go_enter Tryz.func13, Tryz.ntmps13
    go_wp2_with fail
    rw [<- HW0.out]
    have k0 := tA.c0
    have k1 := tA.c1
    go_wp2_with fail
    refine (isCan_c hA SP.out.sm (by decide)).mono ?_
    rintro e V1 ⟨rfl, bb⟩
    replace tA := tA.to bb
    replace hA := hA.to bb
    replace hB := hB.to bb
    replace HB := Lib.hid (HB.out.trans (bb.mono HB.out.size))
    clear k0 k1 bb
    have k2 := tA.c2
    have k3 := tA.c3
    go_wp2_with fail
    refine (isCan_c hB SQ.out.sm (by decide)).mono ?_
    rintro e V2 ⟨rfl, bb⟩
    replace tA := tA.to bb
    replace hA := hA.to bb
    replace hB := hB.to bb
    replace HB := Lib.hid (HB.out.trans (bb.mono HB.out.size))
    clear k2 k3 bb
    have k2 := tA.c2
    have k3 := tA.c3
    go_wp2_with fail
    refine (sign_v (hB.zs SQ.out) hs.out).mono ?_
    rintro e V3 ⟨rfl, bb⟩
    replace tA := tA.to bb
    replace hA := hA.to bb
    replace hB := hB.to bb
    replace HB := Lib.hid (HB.out.trans (bb.mono HB.out.size))
    clear k2 k3 bb
    have k2 := tA.c2
    have k3 := tA.c3
    go_wp2_with fail
    refine (isOne_w (hB.zs SQ.out) ho.out).mono ?_
    rintro e V4 ⟨rfl, bb⟩
    replace tA := tA.to bb
    replace hA := hA.to bb
    replace hB := hB.to bb
    replace HB := Lib.hid (HB.out.trans (bb.mono HB.out.size))
    clear k2 k3 bb
    have k0 := tA.c0
    have k1 := tA.c1
    have k2 := tA.c2
    have k3 := tA.c3
    go_wp2_with fail
    refine (gcd_z (hA.zs SP.out) (hB.zs SQ.out) SP.out SQ.out).mono ?_
    rintro e V5 ⟨xg, yg, rfl, rg, bb⟩
    replace HB := Lib.hid (HB.out.trans (bb.mono HB.out.size))
    clear k0 k1 k2 k3 bb tA hA hB
    go_wp2_with fail
    refine (isOne_w (rg.zs SG.out) hR.out).mono ?_
    rintro e V6 ⟨rfl, bb⟩
    replace HB := Lib.hid (HB.out.trans (bb.mono HB.out.size))
    clear bb rg
    go_wp2
    go_ret
    exact ⟨rfl, HB.out⟩
end Go.Proofs.YtgkfbhdaheoecaaGreat

namespace Go.Proofs.YtgkfbhdaheoecaaGreat
open Go.RowKit Go.Shelf

theorem fparse_2 (w : World) : Calls Tryz.prog 23 #[.string ⟨#[50, 47, 52]⟩] w fun e w' => e = .returned (.tuple #[.agg #[.bool false, .slice none 0 0, .bool false, .slice none 0 0], .int .i64 3]) /\ Below w.heap.size w w' := by
  obtain ⟨W0, hW0⟩ : ∃ W0, W0 = w.alloc (.cells #[.bool false, .slice none 0 0, .bool false, .slice none 0 0] 26) := ⟨_, rfl⟩
  have hbw : Below w.heap.size w W0 := by rw [hW0]; exact (Below.refl _ _).alloc (Nat.le_refl _) _
  have tR : Four W0 w.heap.size (.bool false) (.slice none 0 0) (.bool false) (.slice none 0 0) := by rw [hW0]; exact Four.new w _ _ _ _ _
  have HW0 := Lib.hid hW0
  have HB := Lib.hid hbw
  have hq : Hid (sgn 4 = 1) := by show _ = _; decide
  have sP : Hid (Sg 2) := by show Sg _; exact sg_lit (by decide)
  have sQ : Hid (Sg 4) := by show Sg _; exact sg_lit (by decide)
  have hc : Hid (decide ((4 : Int) ≠ 1 /\ Int.gcd 2 4 = 1) = false) := by show _ = _; decide
  clear hW0 hbw
  go_enter Tryz.func23, Tryz.ntmps23
  go_wp2_with fail
  rw [<- HW0.out]
  refine (split_50 _).mono ?_
  rintro e V1 ⟨rfl, bb⟩
  replace tR := tR.to bb
  replace HB := Lib.hid (HB.out.trans (bb.mono HB.out.size))
  clear bb
  go_wp2_with fail
  refine (parse_2 _).mono ?_
  rintro e V2 ⟨xp, yp, rfl, rp, bb⟩
  replace tR := tR.to bb
  replace HB := Lib.hid (HB.out.trans (bb.mono HB.out.size))
  clear bb
  obtain ⟨zp, ezp⟩ : ∃ z : Int, Hid (2 = z) := ⟨_, rfl⟩
  rw [ezp.out] at rp sP hc
  have rp2 := rp
  obtain ⟨A1, c1, rfl, rfl, -⟩ := rp2
  have bb := one4_new V2 (.cells #[.bool (decide (zp < 0)), .slice A1 (dig b32 zp.natAbs).length c1] 24)
  have t9 := Two.new V2 (.bool (decide (zp < 0))) (.slice A1 (dig b32 zp.natAbs).length c1) 24
  replace tR := tR.to bb
  replace rp := rp.to bb
  replace HB := Lib.hid (HB.out.trans (bb.mono HB.out.size))
  clear bb
  go_wp2_with fail
  obtain ⟨V3, hV3⟩ : ∃ V, V = V2.alloc (.cells #[.bool (decide (zp < 0)), .slice A1 (dig b32 zp.natAbs).length c1] 24) := ⟨_, rfl⟩
  obtain ⟨g9, hg9⟩ : ∃ g, g = V2.heap.size := ⟨_, rfl⟩
  rw [<- hV3, <- hg9] at t9 ⊢
  rw [<- hV3] at tR rp HB
  clear hV3 hg9
  refine (parse_4 _).mono ?_
  rintro e V4 ⟨xq, yq, rfl, rq, bb⟩
  replace tR := tR.to bb
  replace t9 := t9.to bb
  replace rp := rp.to bb
  replace HB := Lib.hid (HB.out.trans (bb.mono HB.out.size))
  clear bb
  obtain ⟨zq, ezq⟩ : ∃ z : Int, Hid (4 = z) := ⟨_, rfl⟩
  rw [ezq.out] at rq
  have sQ2 : Hid (Sg zq) := by rw [<- ezq.out]; exact sQ.out
  have hq2 : Hid (sgn zq = 1) := by show _ = _; rw [<- ezq.out]; exact hq.out
  have hq3 : Hid (0 < zq) := by show _ < _; rw [<- ezq.out]; decide
  have hc2 : Hid (decide (zq ≠ 1 /\ Int.gcd zp zq = 1) = false) := by show _ = _; rw [<- ezq.out]; exact hc.out
  clear hc sQ hq
  have rq2 := rq
  obtain ⟨A2, c2, rfl, rfl, -⟩ := rq2
  have bb := one4_new V4 (.cells #[.bool (decide (zq < 0)), .slice A2 (dig b32 zq.natAbs).length c2] 24)
  have t11 := Two.new V4 (.bool (decide (zq < 0))) (.slice A2 (dig b32 zq.natAbs).length c2) 24
  replace tR := tR.to bb
  replace t9 := t9.to bb
  replace rp := rp.to bb
  replace rq := rq.to bb
  replace HB := Lib.hid (HB.out.trans (bb.mono HB.out.size))
  have bc := one4_new (V4.alloc (.cells #[.bool (decide (zq < 0)), .slice A2 (dig b32 zq.natAbs).length c2] 24)) (.cells #[.bool (decide (zp < 0)), .slice A1 (dig b32 zp.natAbs).length c1, .bool (decide (zq < 0)), .slice A2 (dig b32 zq.natAbs).length c2] 26)
  have t13 := Four.new (V4.alloc (.cells #[.bool (decide (zq < 0)), .slice A2 (dig b32 zq.natAbs).length c2] 24)) (.bool (decide (zp < 0))) (.slice A1 (dig b32 zp.natAbs).length c1) (.bool (decide (zq < 0))) (.slice A2 (dig b32 zq.natAbs).length c2) 26
  have k0 := t9.c0
  have k1 := t9.c1
  have k2 := (t11.to bc).c0
  have k3 := (t11.to bc).c1
  replace tR := tR.to bc
  replace rp := rp.to bc
  replace rq := rq.to bc
  replace HB := Lib.hid (HB.out.trans (bc.mono HB.out.size))
  clear bb bc t11 t9
  go_wp2_with fail
  clear k0 k1 k2 k3
  refine (sign_v (rq.zs sQ2.out) hq2.out).mono ?_
  rintro e V5 ⟨rfl, bb⟩
  replace tR := tR.to bb
  replace t13 := t13.to bb
  replace rp := rp.to bb
  replace rq := rq.to bb
  replace HB := Lib.hid (HB.out.trans (bb.mono HB.out.size))
  clear bb
  simp only [World.size_alloc] at t13
  have k0 := t13.c0
  have k1 := t13.c1
  have k2 := t13.c2
  have k3 := t13.c3
  go_wp2_with fail
  refine (isCanQ rp rq sP.out sQ2.out hq3.out).mono ?_
  rintro e V6 ⟨rfl, bb⟩
  rw [hc2.out]
  replace tR := tR.to bb
  replace HB := Lib.hid (HB.out.trans (bb.mono HB.out.size))
  clear bb k0 k1 k2 k3 t13 rp rq
  obtain ⟨V7, eV, u, kp⟩ := pack4 tR Fq.nil (.bool false) (.slice none 0 0) (.bool false) (.slice none 0 0)
  obtain ⟨v0, v1, v2, v3, v4, v5, v6, v7, _⟩ := tR
  have EV := Lib.hid eV
  have KP := Lib.hid kp
  have U := Lib.hid u
  clear eV kp u
  go_wp2
  rw [EV.out]
  refine bodyPost_ret (v := .tuple #[.agg #[.bool false, .slice none 0 0, .bool false, .slice none 0 0], .int .i64 3]) (by simp [results, Tryz.f23, go_sem, U.out.c0, U.out.c1, U.out.c2, U.out.c3]) rfl ?_
  exact ⟨rfl, KP.out.bel _ _ HB.out (Nat.le_refl _)⟩

theorem fparse_3 (w : World) : Calls Tryz.prog 23 #[.string ⟨#[51, 47, 49]⟩] w fun e w' => e = .returned (.tuple #[.agg #[.bool false, .slice none 0 0, .bool false, .slice none 0 0], .int .i64 3]) /\ Below w.heap.size w w' := by
  obtain ⟨W0, hW0⟩ : ∃ W0, W0 = w.alloc (.cells #[.bool false, .slice none 0 0, .bool false, .slice none 0 0] 26) := ⟨_, rfl⟩
  have hbw : Below w.heap.size w W0 := by rw [hW0]; exact (Below.refl _ _).alloc (Nat.le_refl _) _
  have tR : Four W0 w.heap.size (.bool false) (.slice none 0 0) (.bool false) (.slice none 0 0) := by rw [hW0]; exact Four.new w _ _ _ _ _
  have HW0 := Lib.hid hW0
  have HB := Lib.hid hbw
  have hq : Hid (sgn 1 = 1) := by show _ = _; decide
  have sP : Hid (Sg 3) := by show Sg _; exact sg_lit (by decide)
  have sQ : Hid (Sg 1) := by show Sg _; exact sg_lit (by decide)
  have hc : Hid (decide ((1 : Int) ≠ 1 /\ Int.gcd 3 1 = 1) = false) := by show _ = _; decide
  clear hW0 hbw
  go_enter Tryz.func23, Tryz.ntmps23
  go_wp2_with fail
  rw [<- HW0.out]
  refine (split_51 _).mono ?_
  rintro e V1 ⟨rfl, bb⟩
  replace tR := tR.to bb
  replace HB := Lib.hid (HB.out.trans (bb.mono HB.out.size))
  clear bb
  go_wp2_with fail
  refine (parse_3 _).mono ?_
  rintro e V2 ⟨xp, yp, rfl, rp, bb⟩
  replace tR := tR.to bb
  replace HB := Lib.hid (HB.out.trans (bb.mono HB.out.size))
  clear bb
  obtain ⟨zp, ezp⟩ : ∃ z : Int, Hid (3 = z) := ⟨_, rfl⟩
  rw [ezp.out] at rp sP hc
  have rp2 := rp
  obtain ⟨A1, c1, rfl, rfl, -⟩ := rp2
  have bb := one4_new V2 (.cells #[.bool (decide (zp < 0)), .slice A1 (dig b32 zp.natAbs).length c1] 24)
  have t9 := Two.new V2 (.bool (decide (zp < 0))) (.slice A1 (dig b32 zp.natAbs).length c1) 24
  replace tR := tR.to bb
  replace rp := rp.to bb
  replace HB := Lib.hid (HB.out.trans (bb.mono HB.out.size))
  clear bb
  go_wp2_with fail
  obtain ⟨V3, hV3⟩ : ∃ V, V = V2.alloc (.cells #[.bool (decide (zp < 0)), .slice A1 (dig b32 zp.natAbs).length c1] 24) := ⟨_, rfl⟩
  obtain ⟨g9, hg9⟩ : ∃ g, g = V2.heap.size := ⟨_, rfl⟩
  rw [<- hV3, <- hg9] at t9 ⊢
  rw [<- hV3] at tR rp HB
  clear hV3 hg9
  refine (parse_1 _).mono ?_
  rintro e V4 ⟨xq, yq, rfl, rq, bb⟩
  replace tR := tR.to bb
  replace t9 := t9.to bb
  replace rp := rp.to bb
  replace HB := Lib.hid (HB.out.trans (bb.mono HB.out.size))
  clear bb
  obtain ⟨zq, ezq⟩ : ∃ z : Int, Hid (1 = z) := ⟨_, rfl⟩
  rw [ezq.out] at rq
  have sQ2 : Hid (Sg zq) := by rw [<- ezq.out]; exact sQ.out
  have hq2 : Hid (sgn zq = 1) := by show _ = _; rw [<- ezq.out]; exact hq.out
  have hq3 : Hid (0 < zq) := by show _ < _; rw [<- ezq.out]; decide
  have hc2 : Hid (decide (zq ≠ 1 /\ Int.gcd zp zq = 1) = false) := by show _ = _; rw [<- ezq.out]; exact hc.out
  clear hc sQ hq
  have rq2 := rq
  obtain ⟨A2, c2, rfl, rfl, -⟩ := rq2
  have bb := one4_new V4 (.cells #[.bool (decide (zq < 0)), .slice A2 (dig b32 zq.natAbs).length c2] 24)
  have t11 := Two.new V4 (.bool (decide (zq < 0))) (.slice A2 (dig b32 zq.natAbs).length c2) 24
  replace tR := tR.to bb
  replace t9 := t9.to bb
  replace rp := rp.to bb
  replace rq := rq.to bb
  replace HB := Lib.hid (HB.out.trans (bb.mono HB.out.size))
  have bc := one4_new (V4.alloc (.cells #[.bool (decide (zq < 0)), .slice A2 (dig b32 zq.natAbs).length c2] 24)) (.cells #[.bool (decide (zp < 0)), .slice A1 (dig b32 zp.natAbs).length c1, .bool (decide (zq < 0)), .slice A2 (dig b32 zq.natAbs).length c2] 26)
  have t13 := Four.new (V4.alloc (.cells #[.bool (decide (zq < 0)), .slice A2 (dig b32 zq.natAbs).length c2] 24)) (.bool (decide (zp < 0))) (.slice A1 (dig b32 zp.natAbs).length c1) (.bool (decide (zq < 0))) (.slice A2 (dig b32 zq.natAbs).length c2) 26
  have k0 := t9.c0
  have k1 := t9.c1
  have k2 := (t11.to bc).c0
  have k3 := (t11.to bc).c1
  replace tR := tR.to bc
  replace rp := rp.to bc
  replace rq := rq.to bc
  replace HB := Lib.hid (HB.out.trans (bc.mono HB.out.size))
  clear bb bc t11 t9
  go_wp2_with fail
  clear k0 k1 k2 k3
  refine (sign_v (rq.zs sQ2.out) hq2.out).mono ?_
  rintro e V5 ⟨rfl, bb⟩
  replace tR := tR.to bb
  replace t13 := t13.to bb
  replace rp := rp.to bb
  replace rq := rq.to bb
  replace HB := Lib.hid (HB.out.trans (bb.mono HB.out.size))
  clear bb
  simp only [World.size_alloc] at t13
  have k0 := t13.c0
  have k1 := t13.c1
  have k2 := t13.c2
  have k3 := t13.c3
  go_wp2_with fail
  refine (isCanQ rp rq sP.out sQ2.out hq3.out).mono ?_
  rintro e V6 ⟨rfl, bb⟩
  rw [hc2.out]
  replace tR := tR.to bb
  replace HB := Lib.hid (HB.out.trans (bb.mono HB.out.size))
  clear bb k0 k1 k2 k3 t13 rp rq
  obtain ⟨V7, eV, u, kp⟩ := pack4 tR Fq.nil (.bool false) (.slice none 0 0) (.bool false) (.slice none 0 0)
  obtain ⟨v0, v1, v2, v3, v4, v5, v6, v7, _⟩ := tR
  have EV := Lib.hid eV
  have KP := Lib.hid kp
  have U := Lib.hid u
  clear eV kp u
  go_wp2
  rw [EV.out]
  refine bodyPost_ret (v := .tuple #[.agg #[.bool false, .slice none 0 0, .bool false, .slice none 0 0], .int .i64 3]) (by simp [results, Tryz.f23, go_sem, U.out.c0, U.out.c1, U.out.c2, U.out.c3]) rfl ?_
  exact ⟨rfl, KP.out.bel _ _ HB.out (Nat.le_refl _)⟩

end Go.Proofs.YtgkfbhdaheoecaaGreat

namespace Go.Proofs.YtgkfbhdaheoecaaGreat
open Go.RowKit Go.Shelf

theorem Zl.zero (W : World) : Zl W (.bool false) (.slice none 0 0) 0 := ⟨false, none, 0, [], rfl, rfl, ⟨Rd.nil, Dg.nil, by simp, by decide, by simp⟩, by simp, rfl⟩
theorem rv_a : (rv (-3) 2).num = -3 /\ (rv (-3) 2).den = 2 := by
  have h : rv (-3) 2 = Rat.divInt (-3) 2 := by unfold rv; rw [if_neg (by decide)]
  rw [h, Rat.num_divInt, Rat.den_divInt]
  exact ⟨by decide +kernel, by decide +kernel⟩
theorem rv_b : (rv 2 0).num = 2 /\ (rv 2 0).den = 1 := ⟨rfl, rfl⟩
theorem rv_0 : (rv 0 0).num = 0 /\ (rv 0 0).den = 1 := ⟨rfl, rfl⟩
theorem dec_a : decZ (-3) ++ ⟨#[47]⟩ ++ decZ 2 = ⟨#[45, 51, 47, 50]⟩ := by decide +kernel
theorem dec_b : decZ 2 = ⟨#[50]⟩ := by decide +kernel
theorem dec_0 : decZ 0 = ⟨#[48]⟩ := by decide +kernel

theorem fmt_a {w : World} {x1 y1 x2 y2 : Value} (h1 : Zl w x1 y1 (-3)) (h2 : Zl w x2 y2 2) : Calls Tryz.prog 24 #[.agg #[x1, y1, x2, y2]] w fun e w' => e = .returned (.string ⟨#[45, 51, 47, 50]⟩) /\ Below w.heap.size w w' := by
  have h := format_frac h1 h2 (sg_lit (by decide)) (sg_lit (by decide)) (by rw [rv_a.1]; exact sg_lit (by decide)) (by rw [rv_a.2]; exact sg_lit (by decide)) (by rw [rv_a.2]; decide) (by rw [rv_a.1, rv_a.2]; decide +kernel)
  rw [rv_a.1, rv_a.2, show ((2 : Nat) : Int) = 2 from rfl, dec_a] at h
  exact h
theorem fmt_b {w : World} {x1 y1 x2 y2 : Value} (h1 : Zl w x1 y1 2) (h2 : Zl w x2 y2 0) : Calls Tryz.prog 24 #[.agg #[x1, y1, x2, y2]] w fun e w' => e = .returned (.string ⟨#[50]⟩) /\ Below w.heap.size w w' := by
  have h := format_int h1 h2 (sg_lit (by decide)) (sg_lit (by decide)) (by rw [rv_b.1]; exact sg_lit (by decide)) (by rw [rv_b.2]; exact sg_lit (by decide)) rv_b.2
  rw [rv_b.1, dec_b] at h
  exact h
theorem fmt_0 {w : World} {x1 y1 x2 y2 : Value} (h1 : Zl w x1 y1 0) (h2 : Zl w x2 y2 0) : Calls Tryz.prog 24 #[.agg #[x1, y1, x2, y2]] w fun e w' => e = .returned (.string ⟨#[48]⟩) /\ Below w.heap.size w w' := by
  have h := format_int h1 h2 (sg_lit (by decide)) (sg_lit (by decide)) (by rw [rv_0.1]; exact sg_lit (by decide)) (by rw [rv_0.2]; exact sg_lit (by decide)) rv_0.2
  rw [rv_0.1, dec_0] at h
  exact h
theorem floor_a {w : World} {x1 y1 x2 y2 : Value} (h1 : Zl w x1 y1 (-3)) (h2 : Zl w x2 y2 2) : Calls Tryz.prog 19 #[.agg #[x1, y1, x2, y2]] w (ZR w (-2)) := by
  have h := floor_q (k := 1) ⟨_, _, h1, h2, rfl, by unfold Sm; decide, by unfold Sm; decide⟩ (by decide) (by decide)
  rw [show (rv (-3) 2).floor = -2 from by unfold rv; rw [if_neg (by decide), <- floor_div (by decide)]; decide] at h
  exact h
theorem ceil_a {w : World} {x1 y1 x2 y2 : Value} (h1 : Zl w x1 y1 (-3)) (h2 : Zl w x2 y2 2) : Calls Tryz.prog 21 #[.agg #[x1, y1, x2, y2]] w (ZR w (-1)) := by
  have h := ceil_q (k := 1) ⟨_, _, h1, h2, rfl, by unfold Sm; decide, by unfold Sm; decide⟩ (by decide) (by decide)
  rw [show (rv (-3) 2).ceil = -1 from by unfold rv; rw [if_neg (by decide), <- ceil_div (by decide)]; decide] at h
  exact h
theorem cmp_same {w : World} {x y x' y' : Value} {a b : Int} (ha : Zi w x y a) (hb : Zi w x' y' b) (h : a = b) : Calls Tryz.prog 25 #[.agg #[x, y], .agg #[x', y']] w fun e w' => e = .returned (.int .i64 0) /\ Below w.heap.size w w' := by
  subst h
  have h := cmp_z ha hb
  rw [cmpZ_self] at h
  exact h

/-- A variable that holds a rational: numerator N, denominator cells D. -/
def New4 (w : World) (N D : Int) (e : Ending) (w' : World) : Prop := ∃ A c A' c', e = .returned (.tuple #[.agg #[.bool (decide (N < 0)), .slice A (dig b32 N.natAbs).length c, .bool (decide (D < 0)), .slice A' (dig b32 D.natAbs).length c'], .int .i64 0]) /\
  Zc w' (.bool (decide (N < 0))) (.slice A (dig b32 N.natAbs).length c) N /\ Zc w' (.bool (decide (D < 0))) (.slice A' (dig b32 D.natAbs).length c') D /\ Below w.heap.size w w'
theorem new_lit (n d N D : Int) (n1 : -9223372036854775808 <= n) (n2 : n <= 9223372036854775807) (d1 : -9223372036854775808 <= d) (d2 : d <= 9223372036854775807) (hd : d ≠ 0) (hN : (Rat.divInt n d).num = N) (hD : (if (Rat.divInt n d).den = 1 then 0 else ((Rat.divInt n d).den : Int)) = D) (w : World) :
    Calls Tryz.prog 8 #[.int .i64 n, .int .i64 d] w (New4 w N D) := by
  subst hN hD
  refine (new_z n d n1 n2 d1 d2 hd w).mono ?_
  rintro e w' ⟨a, b, c, f, rfl, ⟨q1, q2⟩, hb⟩
  have p1 := q1
  have p2 := q2
  obtain ⟨A, k, rfl, rfl, -⟩ := p1
  obtain ⟨A', k', rfl, rfl, -⟩ := p2
  exact ⟨A, k, A', k', rfl, q1, q2, hb⟩

theorem new_zero (n : Int) (w : World) : Calls Tryz.prog 8 #[.int .i64 n, .int .i64 0] w fun e w' => e = .returned (.tuple #[.agg #[.bool false, .slice none 0 0, .bool false, .slice none 0 0], .int .i64 7]) /\ Below w.heap.size w w' := by
  obtain ⟨W0, hW0⟩ : ∃ W0, W0 = w.alloc (.cells #[.bool false, .slice none 0 0, .bool false, .slice none 0 0] 26) := ⟨_, rfl⟩
  have hbw : Below w.heap.size w W0 := by rw [hW0]; exact (Below.refl _ _).alloc (Nat.le_refl _) _
  have tR : Four W0 w.heap.size (.bool false) (.slice none 0 0) (.bool false) (.slice none 0 0) := by rw [hW0]; exact Four.new w _ _ _ _ _
  have HW0 := Lib.hid hW0
  have HB := Lib.hid hbw
  clear hW0 hbw
  go_enter Tryz.func8, Tryz.ntmps8
  go_wp2
  exact bodyPost_ret (v := .tuple #[.agg #[.bool false, .slice none 0 0, .bool false, .slice none 0 0], .int .i64 7]) (by simp [results, Tryz.f8, go_sem]) rfl ⟨rfl, (Below.refl _ _).alloc (Nat.le_refl _) _⟩

theorem alive_n1 : (Rat.divInt 6 (-4)).num = -3 := by rw [Rat.num_divInt]; decide +kernel
theorem alive_d1 : (if (Rat.divInt 6 (-4)).den = 1 then 0 else ((Rat.divInt 6 (-4)).den : Int)) = 2 := by rw [Rat.den_divInt]; decide +kernel
theorem alive_n2 : (Rat.divInt 4 2).num = 2 := by rw [Rat.num_divInt]; decide +kernel
theorem alive_d2 : (if (Rat.divInt 4 2).den = 1 then 0 else ((Rat.divInt 4 2).den : Int)) = 0 := by rw [Rat.den_divInt]; decide +kernel

theorem falive_any (w : World) : Calls Tryz.prog 6 #[] w fun e w' => e = .returned (.bool true) /\ Below w.heap.size w w' := by
  have HB := Lib.hid (Below.refl w.heap.size w)
  have E1 : ((({ data := #[45, 51, 47, 50] } : ByteArray)).toList == [45, 51, 47, 50]) = true := by decide +kernel
  have E2 : ((({ data := #[50] } : ByteArray)).toList == [50]) = true := by decide +kernel
  have E3 : ((({ data := #[48] } : ByteArray)).toList == [48]) = true := by decide +kernel
  go_enter Tryz.func6, Tryz.ntmps6
  go_wp2_with fail
  refine (new_lit 6 (-4) (-3) 2 (by decide) (by decide) (by decide) (by decide) (by decide) alive_n1 alive_d1 _).mono ?_
  rintro e W1 ⟨A1, c1, A2, c2, rfl, za, zb, bb⟩
  replace HB := Lib.hid (HB.out.trans (bb.mono HB.out.size))
  clear bb
  obtain ⟨m3, em3⟩ : ∃ z : Int, Hid (-3 = z) := ⟨_, rfl⟩
  obtain ⟨p2, ep2⟩ : ∃ z : Int, Hid (2 = z) := ⟨_, rfl⟩
  rw [em3.out] at za ⊢
  rw [ep2.out] at zb ⊢
  have bb := one4_new W1 (.cells #[.bool (decide (m3 < 0)), .slice A1 (dig b32 m3.natAbs).length c1, .bool (decide (p2 < 0)), .slice A2 (dig b32 p2.natAbs).length c2] 26)
  have ta := Four.new W1 (.bool (decide (m3 < 0))) (.slice A1 (dig b32 m3.natAbs).length c1) (.bool (decide (p2 < 0))) (.slice A2 (dig b32 p2.natAbs).length c2) 26
  replace za := za.to bb
  replace zb := zb.to bb
  replace HB := Lib.hid (HB.out.trans (bb.mono HB.out.size))
  go_wp2_with fail
  obtain ⟨Va, hV⟩ : ∃ V, V = W1.alloc (.cells #[.bool (decide (m3 < 0)), .slice A1 (dig b32 m3.natAbs).length c1, .bool (decide (p2 < 0)), .slice A2 (dig b32 p2.natAbs).length c2] 26) := ⟨_, rfl⟩
  obtain ⟨ga, hg⟩ : ∃ g, g = W1.heap.size := ⟨_, rfl⟩
  rw [<- hV, <- hg] at ta ⊢
  rw [<- hV] at za zb HB
  clear hV hg bb
  refine (new_lit 4 2 2 0 (by decide) (by decide) (by decide) (by decide) (by decide) alive_n2 alive_d2 _).mono ?_
  rintro e W2 ⟨A3, c3, A4, c4, rfl, zc, zd, bb⟩
  replace ta := ta.to bb
  replace za := za.to bb
  replace zb := zb.to bb
  replace HB := Lib.hid (HB.out.trans (bb.mono HB.out.size))
  clear bb
  obtain ⟨q2, eq2⟩ : ∃ z : Int, Hid (2 = z) := ⟨_, rfl⟩
  rw [show (.bool (decide ((0 : Int) < 0)) : Value) = .bool false from rfl, show (dig b32 (0 : Int).natAbs).length = 0 from rfl] at zd ⊢
  rw [eq2.out] at zc ⊢
  have bb := one4_new W2 (.cells #[.bool (decide (q2 < 0)), .slice A3 (dig b32 q2.natAbs).length c3, .bool false, .slice A4 0 c4] 26)
  have tb := Four.new W2 (.bool (decide (q2 < 0))) (.slice A3 (dig b32 q2.natAbs).length c3) (.bool false) (.slice A4 0 c4) 26
  replace ta := ta.to bb
  replace za := za.to bb
  replace zb := zb.to bb
  replace zc := zc.to bb
  replace zd := zd.to bb
  replace HB := Lib.hid (HB.out.trans (bb.mono HB.out.size))
  go_wp2_with fail
  obtain ⟨Vb, hV⟩ : ∃ V, V = W2.alloc (.cells #[.bool (decide (q2 < 0)), .slice A3 (dig b32 q2.natAbs).length c3, .bool false, .slice A4 0 c4] 26) := ⟨_, rfl⟩
  obtain ⟨gb, hg⟩ : ∃ g, g = W2.heap.size := ⟨_, rfl⟩
  rw [<- hV, <- hg] at tb ⊢
  rw [<- hV] at ta za zb zc zd HB
  clear hV hg bb
  refine (new_zero 1 _).mono ?_
  rintro e W3 ⟨rfl, bb⟩
  replace ta := ta.to bb
  replace tb := tb.to bb
  replace za := za.to bb
  replace zb := zb.to bb
  replace zc := zc.to bb
  replace zd := zd.to bb
  replace HB := Lib.hid (HB.out.trans (bb.mono HB.out.size))
  clear bb
  have bb := one4_new W3 (.cells #[.bool false, .slice none 0 0, .bool false, .slice none 0 0] 26)
  replace ta := ta.to bb
  replace tb := tb.to bb
  replace za := za.to bb
  replace zb := zb.to bb
  replace zc := zc.to bb
  replace zd := zd.to bb
  replace HB := Lib.hid (HB.out.trans (bb.mono HB.out.size))
  go_wp2_with fail
  obtain ⟨Vc, hV⟩ : ∃ V, V = W3.alloc (.cells #[.bool false, .slice none 0 0, .bool false, .slice none 0 0] 26) := ⟨_, rfl⟩
  rw [<- hV]
  rw [<- hV] at ta tb za zb zc zd HB
  clear hV bb
  refine (fparse_2 _).mono ?_
  rintro e W4 ⟨rfl, bb⟩
  replace ta := ta.to bb
  replace tb := tb.to bb
  replace za := za.to bb
  replace zb := zb.to bb
  replace zc := zc.to bb
  replace zd := zd.to bb
  replace HB := Lib.hid (HB.out.trans (bb.mono HB.out.size))
  clear bb
  have bb := one4_new W4 (.cells #[.bool false, .slice none 0 0, .bool false, .slice none 0 0] 26)
  replace ta := ta.to bb
  replace tb := tb.to bb
  replace za := za.to bb
  replace zb := zb.to bb
  replace zc := zc.to bb
  replace zd := zd.to bb
  replace HB := Lib.hid (HB.out.trans (bb.mono HB.out.size))
  go_wp2_with fail
  obtain ⟨Vd, hV⟩ : ∃ V, V = W4.alloc (.cells #[.bool false, .slice none 0 0, .bool false, .slice none 0 0] 26) := ⟨_, rfl⟩
  rw [<- hV]
  rw [<- hV] at ta tb za zb zc zd HB
  clear hV bb
  refine (fparse_3 _).mono ?_
  rintro e W5 ⟨rfl, bb⟩
  replace ta := ta.to bb
  replace tb := tb.to bb
  replace za := za.to bb
  replace zb := zb.to bb
  replace zc := zc.to bb
  replace zd := zd.to bb
  replace HB := Lib.hid (HB.out.trans (bb.mono HB.out.size))
  clear bb
  have bb := one4_new W5 (.cells #[.bool false, .slice none 0 0, .bool false, .slice none 0 0] 26)
  replace ta := ta.to bb
  replace tb := tb.to bb
  replace za := za.to bb
  replace zb := zb.to bb
  replace zc := zc.to bb
  replace zd := zd.to bb
  replace HB := Lib.hid (HB.out.trans (bb.mono HB.out.size))
  clear bb
  have k0 := ta.c0
  have k1 := ta.c1
  have k2 := ta.c2
  have k3 := ta.c3
  go_wp2_with fail
  refine (fmt_a (by rw [em3.out]; exact za.zs (by rw [<- em3.out]; exact sg_lit (by decide))) (by rw [ep2.out]; exact zb.zs (by rw [<- ep2.out]; exact sg_lit (by decide)))).mono ?_
  rintro e X1 ⟨rfl, bb⟩
  clear k0 k1 k2 k3
  replace ta := ta.to bb
  replace tb := tb.to bb
  replace za := za.to bb
  replace zb := zb.to bb
  replace zc := zc.to bb
  replace zd := zd.to bb
  replace HB := Lib.hid (HB.out.trans (bb.mono HB.out.size))
  clear bb
  have k0 := tb.c0
  have k1 := tb.c1
  have k2 := tb.c2
  have k3 := tb.c3
  go_wp2_with fail
  refine (fmt_b (by rw [eq2.out]; exact zc.zs (by rw [<- eq2.out]; exact sg_lit (by decide))) (zd.zs (sg_lit (by decide)))).mono ?_
  rintro e X2 ⟨rfl, bb⟩
  clear k0 k1 k2 k3
  replace ta := ta.to bb
  replace tb := tb.to bb
  replace za := za.to bb
  replace zb := zb.to bb
  replace zc := zc.to bb
  replace zd := zd.to bb
  replace HB := Lib.hid (HB.out.trans (bb.mono HB.out.size))
  clear bb
  have k0 := ta.c0
  have k1 := ta.c1
  have k2 := ta.c2
  have k3 := ta.c3
  have k4 := tb.c3
  go_wp2_with fail
  refine (floor_a (by rw [em3.out]; exact za.zs (by rw [<- em3.out]; exact sg_lit (by decide))) (by rw [ep2.out]; exact zb.zs (by rw [<- ep2.out]; exact sg_lit (by decide)))).mono ?_
  rintro e X3 ⟨xf, yf, rfl, zf, bb⟩
  clear k0 k1 k2 k3 k4 tb zc zd
  replace ta := ta.to bb
  replace za := za.to bb
  replace zb := zb.to bb
  replace HB := Lib.hid (HB.out.trans (bb.mono HB.out.size))
  clear bb
  go_wp2_with fail
  refine (from_z (-2) (by decide) (by decide) _).mono ?_
  rintro e X4 ⟨xg, yg, rfl, zg, bb⟩
  replace ta := ta.to bb
  replace za := za.to bb
  replace zb := zb.to bb
  replace zf := zf.to bb
  replace HB := Lib.hid (HB.out.trans (bb.mono HB.out.size))
  clear bb
  go_wp2_with fail
  refine (cmp_same (zf.zs (sg_lit (by decide))).zi (zg.zs (sg_lit (by decide))).zi rfl).mono ?_
  rintro e X5 ⟨rfl, bb⟩
  clear zg zf
  replace ta := ta.to bb
  replace za := za.to bb
  replace zb := zb.to bb
  replace HB := Lib.hid (HB.out.trans (bb.mono HB.out.size))
  clear bb
  have k0 := ta.c0
  have k1 := ta.c1
  have k2 := ta.c2
  have k3 := ta.c3
  go_wp2_with fail
  refine (ceil_a (by rw [em3.out]; exact za.zs (by rw [<- em3.out]; exact sg_lit (by decide))) (by rw [ep2.out]; exact zb.zs (by rw [<- ep2.out]; exact sg_lit (by decide)))).mono ?_
  rintro e X6 ⟨xf, yf, rfl, zf, bb⟩
  clear k0 k1 k2 k3 ta za zb
  replace HB := Lib.hid (HB.out.trans (bb.mono HB.out.size))
  clear bb
  go_wp2_with fail
  refine (from_z (-1) (by decide) (by decide) _).mono ?_
  rintro e X7 ⟨xg, yg, rfl, zg, bb⟩
  replace zf := zf.to bb
  replace HB := Lib.hid (HB.out.trans (bb.mono HB.out.size))
  clear bb
  go_wp2_with fail
  refine (cmp_same (zf.zs (sg_lit (by decide))).zi (zg.zs (sg_lit (by decide))).zi rfl).mono ?_
  rintro e X8 ⟨rfl, bb⟩
  replace HB := Lib.hid (HB.out.trans (bb.mono HB.out.size))
  clear bb zf zg
  go_wp2_with fail
  refine (fmt_0 (Zl.zero _) (Zl.zero _)).mono ?_
  rintro e X9 ⟨rfl, bb⟩
  replace HB := Lib.hid (HB.out.trans (bb.mono HB.out.size))
  clear bb
  go_wp2
  go_ret
  exact ⟨by rfl, HB.out⟩
end Go.Proofs.YtgkfbhdaheoecaaGreat

namespace Go.Proofs.YtgkfbhdaheoecaaGreat
open Go.RowKit Go.Shelf

theorem long_any (g : Nat) (ns : List Nat) (cap : Nat) (w : World) (h : ∀ (k : Nat) (hk : k < ns.length), ∃ A c, w.cell? ⟨g, k * 2 + 1, none⟩ = some (.slice A ns[k] c)) (hs : ∀ (k : Nat) (hk : k < ns.length), ns[k] <= 9223372036854775807) (hl : ns.length <= 1000) :
    Calls Tryz.prog 5 #[.slice (some ⟨g, 0, none⟩) ns.length cap] w fun e w' => e = .returned (.bool (ns.any fun n => decide (12 < n))) /\ w' = w := by
  have H := Lib.hid h
  have HS := Lib.hid hs
  clear h hs
  go_enter Tryz.func5, Tryz.ntmps5
  go_wp2
  go_loopw [3] (fun i wr => ∃ k : Nat, i = .int .i64 k /\ k <= ns.length /\ (∀ j (hj : j < ns.length), j < k -> ns[j] <= 12) /\ wr = w) (fun i _ => ns.length - (intOf i).toNat)
  case atStart => exact ⟨0, rfl, Nat.zero_le _, (fun j _ hj => by omega), rfl⟩
  case round =>
    obtain ⟨k, rfl, hk, ht, rfl⟩ := hrel
    have HT := Lib.hid ht
    clear ht
    by_cases hlt : k < ns.length
    · obtain ⟨A, c, hc⟩ := H.out k hlt
      have hsm := HS.out k hlt
      have HN : Hid (ns[k] = ns[k]) := rfl
      generalize hn : ns[k] = n at hc hsm HN
      have HN2 := Lib.hid hn
      clear hn HN
      have hki : (0 : Int) <= (k : Int) := by omega
      have hki' : (k : Int) < (ns.length : Int) := by omega
      by_cases he : 12 < n
      · go_wp2
        go_ret
        refine ⟨?_, rfl⟩
        have : (ns.any fun n => decide (12 < n)) = true := by
          rw [List.any_eq_true]
          exact ⟨ns[k], List.getElem_mem hlt, by rw [HN2.out]; exact decide_eq_true he⟩
        rw [this]
        rfl
      · go_wp2
        go_roundw
        case rel => exact ⟨k + 1, by simp, by omega, (fun j hj hjk => by
          rcases Nat.lt_or_ge j k with h1 | h1
          · exact HT.out j hj h1
          · obtain rfl : j = k := by omega
            rw [HN2.out]; omega), trivial⟩
        case measure => simp [intOf]; omega
    · obtain rfl : k = ns.length := by omega
      clear hlt
      go_wp2
      go_ret
      refine ⟨?_, rfl⟩
      have : (ns.any fun n => decide (12 < n)) = false := by
        rw [List.any_eq_false]
        intro x hx
        obtain ⟨j, hj, rfl⟩ := List.getElem_of_mem hx
        have := HT.out j hj hj
        simpa using this
      rw [this]
      rfl
end Go.Proofs.YtgkfbhdaheoecaaGreat

namespace Go.Proofs.YtgkfbhdaheoecaaGreat
open Go.RowKit Go.Shelf

set_option maxRecDepth 100000 in
theorem isCanQ_0 {w : World} {x1 y1 x2 y2 : Value} {p q : Int} (h1 : Zc w x1 y1 p) (h2 : Zc w x2 y2 q) (sp : Sg p) (hq : q = 0) :
    Calls Tryz.prog 13 #[.agg #[x1, y1, x2, y2]] w fun e w' => e = .returned (.bool true) /\ Below w.heap.size w w' := by
  obtain ⟨W0, hW0⟩ : ∃ W0, W0 = w.alloc (.cells #[x1, y1, x2, y2] 26) := ⟨_, rfl⟩
  have hbw : Below w.heap.size w W0 := by rw [hW0]; exact (Below.refl _ _).alloc (Nat.le_refl _) _
  have tA : Four W0 w.heap.size x1 y1 x2 y2 := by rw [hW0]; exact Four.new w _ _ _ _ _
  have HW0 := Lib.hid hW0
  have hA := h1.to hbw
  have hB := h2.to hbw
  have HB := Lib.hid hbw
  have SP := Lib.hid sp
  have SQ : Hid (Sg q) := by show Sg _; rw [hq]; exact sg_lit (by decide)
  have hl : ((dig b32 q.natAbs).length : Int) = 0 := by rw [hq]; rfl
  clear h1 h2 hW0 hbw sp hq
  obtain ⟨A2, c2, ex2, ey2, hz2⟩ := hB
  have hB : Zc W0 x2 y2 q := ⟨A2, c2, ex2, ey2, hz2⟩
  obtain ⟨l, el⟩ : ∃ l, (dig b32 q.natAbs).length = l := ⟨_, rfl⟩
  rw [el] at hl ey2
  subst ex2 ey2
  have hl2 : ((l : Int) == 0) = true := by rw [beq_iff_eq]; exact hl
  clear hz2 el hl
  go_enter Tryz.func13, Tryz.ntmps13
  go_wp2_with fail
  rw [<- HW0.out]
  have k0 := tA.c0
  have k1 := tA.c1
  go_wp2_with fail
  refine (isCan_c hA SP.out.sm (by decide)).mono ?_
  rintro e V1 ⟨rfl, bb⟩
  replace tA := tA.to bb
  replace hB := hB.to bb
  replace HB := Lib.hid (HB.out.trans (bb.mono HB.out.size))
  clear k0 k1 bb hA
  have k2 := tA.c2
  have k3 := tA.c3
  go_wp2_with fail
  refine (isCan_c hB SQ.out.sm (by decide)).mono ?_
  rintro e V2 ⟨rfl, bb⟩
  replace tA := tA.to bb
  replace HB := Lib.hid (HB.out.trans (bb.mono HB.out.size))
  clear k2 k3 bb hB
  have k2 := tA.c2
  have k3 := tA.c3
  go_wp2
  go_ret
  exact ⟨rfl, HB.out⟩

set_option maxRecDepth 100000 in
theorem long_2 {n1 n2 : Nat} {A1 A2 : Option Addr} {c1 c2 : Nat} {V : World} {g : Nat} (h1 : n1 <= 9223372036854775807) (h2 : n2 <= 9223372036854775807)
    (e1 : V.cell? ⟨g, 1, none⟩ = some (.slice A1 n1 c1)) (e2 : V.cell? ⟨g, 3, none⟩ = some (.slice A2 n2 c2)) {r : Bool} (hr : [n1, n2].any (fun n => decide (12 < n)) = r) :
    Calls Tryz.prog 5 #[.slice (some ⟨g, 0, none⟩) 2 2] V fun e w' => e = .returned (.bool r) /\ w' = V := by
  have h := long_any g [n1, n2] 2 V (fun k hk => by
    match k, hk with
    | 0, _ => exact ⟨A1, c1, e1⟩
    | 1, _ => exact ⟨A2, c2, e2⟩) (fun k hk => by
    match k, hk with
    | 0, _ => exact h1
    | 1, _ => exact h2) (by simp)
  rw [hr] at h
  exact h


set_option maxRecDepth 100000 in
theorem flong_any (g : Nat) (ls : List (Nat × Nat)) (cap : Nat) (w : World) (hg : g < w.heap.size)
    (h : ∀ (k : Nat) (hk : k < ls.length), ∃ n1 A1 c1 n2 A2 c2, w.cell? ⟨g, k * 4, none⟩ = some (.bool n1) /\ w.cell? ⟨g, k * 4 + 1, none⟩ = some (.slice A1 ls[k].1 c1) /\ w.cell? ⟨g, k * 4 + 2, none⟩ = some (.bool n2) /\ w.cell? ⟨g, k * 4 + 3, none⟩ = some (.slice A2 ls[k].2 c2))
    (hs : ∀ (k : Nat) (hk : k < ls.length), ls[k].1 <= 9223372036854775807 /\ ls[k].2 <= 9223372036854775807) (hl : ls.length <= 1000) {r : Bool} (hr : (ls.any fun p => decide (6 < p.1) || decide (6 < p.2)) = r) :
    Calls Tryz.prog 4 #[.slice (some ⟨g, 0, none⟩) ls.length cap] w fun e w' => e = .returned (.bool r) /\ Below w.heap.size w w' := by
  have H := Lib.hid h
  have HS := Lib.hid hs
  have HG := Lib.hid hg
  have HR := Lib.hid hr
  clear h hs hg hr
  go_enter Tryz.func4, Tryz.ntmps4
  go_wp2
  go_loopw [3] (fun i wr => ∃ k : Nat, i = .int .i64 k /\ k <= ls.length /\ (∀ j (hj : j < ls.length), j < k -> ls[j].1 <= 6 /\ ls[j].2 <= 6) /\ Below w.heap.size w wr) (fun i _ => ls.length - (intOf i).toNat)
  case atStart => exact ⟨0, rfl, Nat.zero_le _, (fun j _ hj => by omega), Below.refl _ _⟩
  case round =>
    obtain ⟨k, rfl, hk, ht, hb⟩ := hrel
    have HT := Lib.hid ht
    have HB := Lib.hid hb
    clear ht hb
    by_cases hlt : k < ls.length
    · have hc := H.out k hlt
      have hm := HS.out k hlt
      have hki : (0 : Int) <= (k : Int) := by omega
      have hki' : (k : Int) < (ls.length : Int) := by omega
      have HN : Hid (ls[k] = ls[k]) := rfl
      obtain ⟨⟨m1, m2⟩, hn⟩ : ∃ m, ls[k] = m := ⟨_, rfl⟩
      rw [hn] at hc hm
      have HN2 := Lib.hid hn
      obtain ⟨n1, A1, c1, n2, A2, c2, hc⟩ := hc
      have HF : Hid (∀ w', Below w.heap.size w w' -> w'.cell? ⟨g, k * 4, none⟩ = some (.bool n1) /\ w'.cell? ⟨g, k * 4 + 1, none⟩ = some (.slice A1 m1 c1) /\ w'.cell? ⟨g, k * 4 + 2, none⟩ = some (.bool n2) /\ w'.cell? ⟨g, k * 4 + 3, none⟩ = some (.slice A2 m2 c2)) := fun w' hS =>
        ⟨(hS.cell (p := ⟨g, k * 4, none⟩) HG.out).trans hc.1, (hS.cell (p := ⟨g, k * 4 + 1, none⟩) HG.out).trans hc.2.1, (hS.cell (p := ⟨g, k * 4 + 2, none⟩) HG.out).trans hc.2.2.1, (hS.cell (p := ⟨g, k * 4 + 3, none⟩) HG.out).trans hc.2.2.2⟩
      have M1 := Lib.hid hm.1
      have M2 := Lib.hid hm.2
      clear hc hm hn HN
      by_cases ha : 12 < m1 ∨ 12 < m2
      · have HL : Hid ([m1, m2].any (fun n => decide (12 < n)) = true) := by show _ = _; simpa using ha
        have hany : Hid ((ls.any fun p => decide (6 < p.1) || decide (6 < p.2)) = true) := by
          show _ = _
          rw [List.any_eq_true]
          exact ⟨ls[k], List.getElem_mem hlt, by rw [HN2.out]; simp; omega⟩
        clear ha
        go_wp2_with fail
        refine wp_region_plan (S := fun w' => Below w.heap.size w w') [(0, true), (1, true), (2, true), (3, true), (4, true), (5, true), (6, true), (7, true), (8, true), (9, true), (10, false), (11, false), (12, true), (13, true), (14, true), (15, true), (16, true), (17, true), (18, true), (19, true), (20, true), (21, true), (22, true), (23, true), (24, true), (25, true), (26, true), (27, true), (28, true), (29, true), (30, true), (31, true)] (by kernel_rfl) (by kernel_rfl) HB.out.drew ?_
        have hb := HB.out.drew
        refine plan_take (v := ?_) rfl (by rfl) ?_ ?_; rotate_left; (focus (intro w' hS; obtain ⟨f0, f1, f2, f3⟩ := HF.out w' hS; go_simp; try with_reducible rfl)); simp only [Act.put, List.setIfInBounds_toArray, List.set_cons_zero, List.set_cons_succ]
        refine plan_take (v := ?_) rfl (by rfl) ?_ ?_; rotate_left; (focus (intro w' hS; obtain ⟨f0, f1, f2, f3⟩ := HF.out w' hS; go_simp; try with_reducible rfl)); simp only [Act.put, List.setIfInBounds_toArray, List.set_cons_zero, List.set_cons_succ]
        refine plan_take (v := ?_) rfl (by rfl) ?_ ?_; rotate_left; (focus (intro w' hS; obtain ⟨f0, f1, f2, f3⟩ := HF.out w' hS; go_simp; try with_reducible rfl)); simp only [Act.put, List.setIfInBounds_toArray, List.set_cons_zero, List.set_cons_succ]
        refine plan_take (v := ?_) rfl (by rfl) ?_ ?_; rotate_left; (focus (intro w' hS; obtain ⟨f0, f1, f2, f3⟩ := HF.out w' hS; go_simp; try with_reducible rfl)); simp only [Act.put, List.setIfInBounds_toArray, List.set_cons_zero, List.set_cons_succ]
        refine plan_take (v := ?_) rfl (by rfl) ?_ ?_; rotate_left; (focus (intro w' hS; obtain ⟨f0, f1, f2, f3⟩ := HF.out w' hS; go_simp; try with_reducible rfl)); simp only [Act.put, List.setIfInBounds_toArray, List.set_cons_zero, List.set_cons_succ]
        refine plan_take (v := ?_) rfl (by rfl) ?_ ?_; rotate_left; (focus (intro w' hS; obtain ⟨f0, f1, f2, f3⟩ := HF.out w' hS; go_simp; try with_reducible rfl)); simp only [Act.put, List.setIfInBounds_toArray, List.set_cons_zero, List.set_cons_succ]
        refine plan_take (v := ?_) rfl (by rfl) ?_ ?_; rotate_left; (focus (intro w' hS; obtain ⟨f0, f1, f2, f3⟩ := HF.out w' hS; go_simp; try with_reducible rfl)); simp only [Act.put, List.setIfInBounds_toArray, List.set_cons_zero, List.set_cons_succ]
        refine plan_take (v := ?_) rfl (by rfl) ?_ ?_; rotate_left; (focus (intro w' hS; obtain ⟨f0, f1, f2, f3⟩ := HF.out w' hS; go_simp; try with_reducible rfl)); simp only [Act.put, List.setIfInBounds_toArray, List.set_cons_zero, List.set_cons_succ]
        refine plan_take (v := ?_) rfl (by rfl) ?_ ?_; rotate_left; (focus (intro w' hS; obtain ⟨f0, f1, f2, f3⟩ := HF.out w' hS; go_simp; try with_reducible rfl)); simp only [Act.put, List.setIfInBounds_toArray, List.set_cons_zero, List.set_cons_succ]
        refine plan_take (v := ?_) rfl (by rfl) ?_ ?_; rotate_left; (focus (intro w' hS; obtain ⟨f0, f1, f2, f3⟩ := HF.out w' hS; go_simp; try with_reducible rfl)); simp only [Act.put, List.setIfInBounds_toArray, List.set_cons_zero, List.set_cons_succ]
        refine plan_call rfl (by rfl) (fun K hK => ?_)
        go_simp
        have hnew := (Four.new wr (.bool n1) (.slice A1 m1 c1) (.bool n2) (.slice A2 m2 c2) 24).to (Below.refl _ _).drew
        replace hb := hb.alloc hb.size (.cells #[.bool n1, .slice A1 m1 c1, .bool n2, .slice A2 m2 c2] 24)
        refine hK.out _ _ hb ?_
        clear hK K
        refine plan_call rfl (by rfl) (fun K hK => ?_)
        go_simp
        refine (long_2 M1.out M2.out hnew.c1 hnew.c3 HL.out).mono ?_
        rintro e V ⟨rfl, rfl⟩
        refine hK.out _ _ hb ?_
        clear hK K hnew
        refine plan_take (v := ?_) rfl (by rfl) ?_ ?_; rotate_left; (focus (intro w' hS; go_simp; try with_reducible rfl)); simp only [Act.put, List.setIfInBounds_toArray, List.set_cons_zero, List.set_cons_succ]
        refine plan_skip rfl (by rfl) ?_; simp only [Act.put, List.setIfInBounds_toArray, List.set_cons_zero, List.set_cons_succ]
        refine plan_skip rfl (by rfl) ?_; simp only [Act.put, List.setIfInBounds_toArray, List.set_cons_zero, List.set_cons_succ]
        refine plan_skip rfl (by rfl) ?_; simp only [Act.put, List.setIfInBounds_toArray, List.set_cons_zero, List.set_cons_succ]
        refine plan_skip rfl (by rfl) ?_; simp only [Act.put, List.setIfInBounds_toArray, List.set_cons_zero, List.set_cons_succ]
        refine plan_skip rfl (by rfl) ?_; simp only [Act.put, List.setIfInBounds_toArray, List.set_cons_zero, List.set_cons_succ]
        refine plan_skip rfl (by rfl) ?_; simp only [Act.put, List.setIfInBounds_toArray, List.set_cons_zero, List.set_cons_succ]
        refine plan_skip rfl (by rfl) ?_; simp only [Act.put, List.setIfInBounds_toArray, List.set_cons_zero, List.set_cons_succ]
        refine plan_skip rfl (by rfl) ?_; simp only [Act.put, List.setIfInBounds_toArray, List.set_cons_zero, List.set_cons_succ]
        refine plan_take (v := ?_) rfl (by rfl) ?_ ?_; rotate_left; (focus (intro w' hS; go_simp; try with_reducible rfl)); simp only [Act.put, List.setIfInBounds_toArray, List.set_cons_zero, List.set_cons_succ]
        refine plan_take (v := ?_) rfl (by rfl) ?_ ?_; rotate_left; (focus (intro w' hS; go_simp; try with_reducible rfl)); simp only [Act.put, List.setIfInBounds_toArray, List.set_cons_zero, List.set_cons_succ]
        refine plan_skip rfl (by rfl) ?_; simp only [Act.put, List.setIfInBounds_toArray, List.set_cons_zero, List.set_cons_succ]
        refine plan_skip rfl (by rfl) ?_; simp only [Act.put, List.setIfInBounds_toArray, List.set_cons_zero, List.set_cons_succ]
        refine plan_skip rfl (by rfl) ?_; simp only [Act.put, List.setIfInBounds_toArray, List.set_cons_zero, List.set_cons_succ]
        refine plan_skip rfl (by rfl) ?_; simp only [Act.put, List.setIfInBounds_toArray, List.set_cons_zero, List.set_cons_succ]
        refine plan_skip rfl (by rfl) ?_; simp only [Act.put, List.setIfInBounds_toArray, List.set_cons_zero, List.set_cons_succ]
        refine plan_skip rfl (by rfl) ?_; simp only [Act.put, List.setIfInBounds_toArray, List.set_cons_zero, List.set_cons_succ]
        refine plan_skip rfl (by rfl) ?_; simp only [Act.put, List.setIfInBounds_toArray, List.set_cons_zero, List.set_cons_succ]
        refine plan_skip rfl (by rfl) ?_; simp only [Act.put, List.setIfInBounds_toArray, List.set_cons_zero, List.set_cons_succ]
        refine plan_take (v := ?_) rfl (by rfl) ?_ ?_; rotate_left; (focus (intro w' hS; go_simp; try with_reducible rfl)); simp only [Act.put, List.setIfInBounds_toArray, List.set_cons_zero, List.set_cons_succ]
        refine plan_done ?_
        have HE := Lib.hid hb
        clear hb HB
        go_wp2
        go_ret
        exact ⟨by rw [<- HR.out, hany.out]; rfl, HE.out⟩
      · have HL : Hid ([m1, m2].any (fun n => decide (12 < n)) = false) := by show _ = _; simpa using ha
        by_cases hb6 : 6 < m1
        · have hany : Hid ((ls.any fun p => decide (6 < p.1) || decide (6 < p.2)) = true) := by
            show _ = _
            rw [List.any_eq_true]
            exact ⟨ls[k], List.getElem_mem hlt, by rw [HN2.out]; simp; omega⟩
          clear ha
          have d1 : decide ((6 : Int) < (m1 : Int)) = true := by simp; omega
          clear hb6
          go_wp2_with fail
          refine wp_region_plan (S := fun w' => Below w.heap.size w w') [(0, true), (1, true), (2, true), (3, true), (4, true), (5, true), (6, true), (7, true), (8, true), (9, true), (10, false), (11, false), (12, true), (13, true), (14, true), (15, true), (16, true), (17, true), (18, true), (19, true), (20, true), (21, true), (22, true), (23, true), (24, true), (25, true), (26, true), (27, true), (28, true), (29, true), (30, true), (31, true)] (by kernel_rfl) (by kernel_rfl) HB.out.drew ?_
          have hb := HB.out.drew
          refine plan_take (v := ?_) rfl (by rfl) ?_ ?_; rotate_left; (focus (intro w' hS; obtain ⟨f0, f1, f2, f3⟩ := HF.out w' hS; go_simp; try with_reducible rfl)); simp only [Act.put, List.setIfInBounds_toArray, List.set_cons_zero, List.set_cons_succ]
          refine plan_take (v := ?_) rfl (by rfl) ?_ ?_; rotate_left; (focus (intro w' hS; obtain ⟨f0, f1, f2, f3⟩ := HF.out w' hS; go_simp; try with_reducible rfl)); simp only [Act.put, List.setIfInBounds_toArray, List.set_cons_zero, List.set_cons_succ]
          refine plan_take (v := ?_) rfl (by rfl) ?_ ?_; rotate_left; (focus (intro w' hS; obtain ⟨f0, f1, f2, f3⟩ := HF.out w' hS; go_simp; try with_reducible rfl)); simp only [Act.put, List.setIfInBounds_toArray, List.set_cons_zero, List.set_cons_succ]
          refine plan_take (v := ?_) rfl (by rfl) ?_ ?_; rotate_left; (focus (intro w' hS; obtain ⟨f0, f1, f2, f3⟩ := HF.out w' hS; go_simp; try with_reducible rfl)); simp only [Act.put, List.setIfInBounds_toArray, List.set_cons_zero, List.set_cons_succ]
          refine plan_take (v := ?_) rfl (by rfl) ?_ ?_; rotate_left; (focus (intro w' hS; obtain ⟨f0, f1, f2, f3⟩ := HF.out w' hS; go_simp; try with_reducible rfl)); simp only [Act.put, List.setIfInBounds_toArray, List.set_cons_zero, List.set_cons_succ]
          refine plan_take (v := ?_) rfl (by rfl) ?_ ?_; rotate_left; (focus (intro w' hS; obtain ⟨f0, f1, f2, f3⟩ := HF.out w' hS; go_simp; try with_reducible rfl)); simp only [Act.put, List.setIfInBounds_toArray, List.set_cons_zero, List.set_cons_succ]
          refine plan_take (v := ?_) rfl (by rfl) ?_ ?_; rotate_left; (focus (intro w' hS; obtain ⟨f0, f1, f2, f3⟩ := HF.out w' hS; go_simp; try with_reducible rfl)); simp only [Act.put, List.setIfInBounds_toArray, List.set_cons_zero, List.set_cons_succ]
          refine plan_take (v := ?_) rfl (by rfl) ?_ ?_; rotate_left; (focus (intro w' hS; obtain ⟨f0, f1, f2, f3⟩ := HF.out w' hS; go_simp; try with_reducible rfl)); simp only [Act.put, List.setIfInBounds_toArray, List.set_cons_zero, List.set_cons_succ]
          refine plan_take (v := ?_) rfl (by rfl) ?_ ?_; rotate_left; (focus (intro w' hS; obtain ⟨f0, f1, f2, f3⟩ := HF.out w' hS; go_simp; try with_reducible rfl)); simp only [Act.put, List.setIfInBounds_toArray, List.set_cons_zero, List.set_cons_succ]
          refine plan_take (v := ?_) rfl (by rfl) ?_ ?_; rotate_left; (focus (intro w' hS; obtain ⟨f0, f1, f2, f3⟩ := HF.out w' hS; go_simp; try with_reducible rfl)); simp only [Act.put, List.setIfInBounds_toArray, List.set_cons_zero, List.set_cons_succ]
          refine plan_call rfl (by rfl) (fun K hK => ?_)
          go_simp
          have hnew := (Four.new wr (.bool n1) (.slice A1 m1 c1) (.bool n2) (.slice A2 m2 c2) 24).to (Below.refl _ _).drew
          replace hb := hb.alloc hb.size (.cells #[.bool n1, .slice A1 m1 c1, .bool n2, .slice A2 m2 c2] 24)
          refine hK.out _ _ hb ?_
          clear hK K
          refine plan_call rfl (by rfl) (fun K hK => ?_)
          go_simp
          refine (long_2 M1.out M2.out hnew.c1 hnew.c3 HL.out).mono ?_
          rintro e V ⟨rfl, rfl⟩
          refine hK.out _ _ hb ?_
          clear hK K hnew
          refine plan_take (v := ?_) rfl (by rfl) ?_ ?_; rotate_left; (focus (intro w' hS; go_simp; try with_reducible rfl)); simp only [Act.put, List.setIfInBounds_toArray, List.set_cons_zero, List.set_cons_succ]
          refine plan_take (v := ?_) rfl (by rfl) ?_ ?_; rotate_left; (focus (intro w' hS; go_simp; try with_reducible rfl)); simp only [Act.put, List.setIfInBounds_toArray, List.set_cons_zero, List.set_cons_succ]
          refine plan_take (v := ?_) rfl (by rfl) ?_ ?_; rotate_left; (focus (intro w' hS; go_simp; try with_reducible rfl)); simp only [Act.put, List.setIfInBounds_toArray, List.set_cons_zero, List.set_cons_succ]
          refine plan_take (v := ?_) rfl (by rfl) ?_ ?_; rotate_left; (focus (intro w' hS; obtain ⟨f0, f1, f2, f3⟩ := HF.out w' hS; go_simp; try with_reducible rfl)); simp only [Act.put, List.setIfInBounds_toArray, List.set_cons_zero, List.set_cons_succ]
          refine plan_take (v := ?_) rfl (by rfl) ?_ ?_; rotate_left; (focus (intro w' hS; obtain ⟨f0, f1, f2, f3⟩ := HF.out w' hS; go_simp; try with_reducible rfl)); simp only [Act.put, List.setIfInBounds_toArray, List.set_cons_zero, List.set_cons_succ]
          refine plan_take (v := ?_) rfl (by rfl) ?_ ?_; rotate_left; (focus (intro w' hS; obtain ⟨f0, f1, f2, f3⟩ := HF.out w' hS; go_simp; try with_reducible rfl)); simp only [Act.put, List.setIfInBounds_toArray, List.set_cons_zero, List.set_cons_succ]
          refine plan_take (v := ?_) rfl (by rfl) ?_ ?_; rotate_left; (focus (intro w' hS; obtain ⟨f0, f1, f2, f3⟩ := HF.out w' hS; go_simp; try with_reducible rfl)); simp only [Act.put, List.setIfInBounds_toArray, List.set_cons_zero, List.set_cons_succ]
          refine plan_take (v := ?_) rfl (by rfl) ?_ ?_; rotate_left; (focus (intro w' hS; go_simp; try with_reducible rfl)); simp only [Act.put, List.setIfInBounds_toArray, List.set_cons_zero, List.set_cons_succ]
          refine plan_take (v := ?_) rfl (by rfl) ?_ ?_; rotate_left; (focus (intro w' hS; go_simp; try with_reducible rfl)); simp only [Act.put, List.setIfInBounds_toArray, List.set_cons_zero, List.set_cons_succ]
          refine plan_take (v := ?_) rfl (by rfl) ?_ ?_; rotate_left; (focus (intro w' hS; go_simp; try with_reducible rfl)); simp only [Act.put, List.setIfInBounds_toArray, List.set_cons_zero, List.set_cons_succ]
          refine plan_take (v := ?_) rfl (by rfl) ?_ ?_; rotate_left; (focus (intro w' hS; go_simp; try with_reducible rfl)); simp only [Act.put, List.setIfInBounds_toArray, List.set_cons_zero, List.set_cons_succ]
          refine plan_skip rfl (by rfl) ?_; simp only [Act.put, List.setIfInBounds_toArray, List.set_cons_zero, List.set_cons_succ]
          refine plan_skip rfl (by rfl) ?_; simp only [Act.put, List.setIfInBounds_toArray, List.set_cons_zero, List.set_cons_succ]
          refine plan_skip rfl (by rfl) ?_; simp only [Act.put, List.setIfInBounds_toArray, List.set_cons_zero, List.set_cons_succ]
          refine plan_skip rfl (by rfl) ?_; simp only [Act.put, List.setIfInBounds_toArray, List.set_cons_zero, List.set_cons_succ]
          refine plan_skip rfl (by rfl) ?_; simp only [Act.put, List.setIfInBounds_toArray, List.set_cons_zero, List.set_cons_succ]
          refine plan_skip rfl (by rfl) ?_; simp only [Act.put, List.setIfInBounds_toArray, List.set_cons_zero, List.set_cons_succ]
          refine plan_skip rfl (by rfl) ?_; simp only [Act.put, List.setIfInBounds_toArray, List.set_cons_zero, List.set_cons_succ]
          refine plan_skip rfl (by rfl) ?_; simp only [Act.put, List.setIfInBounds_toArray, List.set_cons_zero, List.set_cons_succ]
          refine plan_take (v := ?_) rfl (by rfl) ?_ ?_; rotate_left; (focus (intro w' hS; go_simp; try with_reducible rfl)); simp only [Act.put, List.setIfInBounds_toArray, List.set_cons_zero, List.set_cons_succ]
          refine plan_done ?_
          have HE := Lib.hid hb
          clear hb HB
          go_wp2
          go_ret
          exact ⟨by rw [<- HR.out, hany.out]; rfl, HE.out⟩
        · by_cases hc6 : 6 < m2
          · have hany : Hid ((ls.any fun p => decide (6 < p.1) || decide (6 < p.2)) = true) := by
              show _ = _
              rw [List.any_eq_true]
              exact ⟨ls[k], List.getElem_mem hlt, by rw [HN2.out]; simp; omega⟩
            clear ha
            have d1 : decide ((6 : Int) < (m1 : Int)) = false := by simp; omega
            have d2 : decide ((6 : Int) < (m2 : Int)) = true := by simp; omega
            clear hb6 hc6
            go_wp2_with fail
            refine wp_region_plan (S := fun w' => Below w.heap.size w w') [(0, true), (1, true), (2, true), (3, true), (4, true), (5, true), (6, true), (7, true), (8, true), (9, true), (10, false), (11, false), (12, true), (13, true), (14, true), (15, true), (16, true), (17, true), (18, true), (19, true), (20, true), (21, true), (22, true), (23, true), (24, true), (25, true), (26, true), (27, true), (28, true), (29, true), (30, true), (31, true)] (by kernel_rfl) (by kernel_rfl) HB.out.drew ?_
            have hb := HB.out.drew
            refine plan_take (v := ?_) rfl (by rfl) ?_ ?_; rotate_left; (focus (intro w' hS; obtain ⟨f0, f1, f2, f3⟩ := HF.out w' hS; go_simp; try with_reducible rfl)); simp only [Act.put, List.setIfInBounds_toArray, List.set_cons_zero, List.set_cons_succ]
            refine plan_take (v := ?_) rfl (by rfl) ?_ ?_; rotate_left; (focus (intro w' hS; obtain ⟨f0, f1, f2, f3⟩ := HF.out w' hS; go_simp; try with_reducible rfl)); simp only [Act.put, List.setIfInBounds_toArray, List.set_cons_zero, List.set_cons_succ]
            refine plan_take (v := ?_) rfl (by rfl) ?_ ?_; rotate_left; (focus (intro w' hS; obtain ⟨f0, f1, f2, f3⟩ := HF.out w' hS; go_simp; try with_reducible rfl)); simp only [Act.put, List.setIfInBounds_toArray, List.set_cons_zero, List.set_cons_succ]
            refine plan_take (v := ?_) rfl (by rfl) ?_ ?_; rotate_left; (focus (intro w' hS; obtain ⟨f0, f1, f2, f3⟩ := HF.out w' hS; go_simp; try with_reducible rfl)); simp only [Act.put, List.setIfInBounds_toArray, List.set_cons_zero, List.set_cons_succ]
            refine plan_take (v := ?_) rfl (by rfl) ?_ ?_; rotate_left; (focus (intro w' hS; obtain ⟨f0, f1, f2, f3⟩ := HF.out w' hS; go_simp; try with_reducible rfl)); simp only [Act.put, List.setIfInBounds_toArray, List.set_cons_zero, List.set_cons_succ]
            refine plan_take (v := ?_) rfl (by rfl) ?_ ?_; rotate_left; (focus (intro w' hS; obtain ⟨f0, f1, f2, f3⟩ := HF.out w' hS; go_simp; try with_reducible rfl)); simp only [Act.put, List.setIfInBounds_toArray, List.set_cons_zero, List.set_cons_succ]
            refine plan_take (v := ?_) rfl (by rfl) ?_ ?_; rotate_left; (focus (intro w' hS; obtain ⟨f0, f1, f2, f3⟩ := HF.out w' hS; go_simp; try with_reducible rfl)); simp only [Act.put, List.setIfInBounds_toArray, List.set_cons_zero, List.set_cons_succ]
            refine plan_take (v := ?_) rfl (by rfl) ?_ ?_; rotate_left; (focus (intro w' hS; obtain ⟨f0, f1, f2, f3⟩ := HF.out w' hS; go_simp; try with_reducible rfl)); simp only [Act.put, List.setIfInBounds_toArray, List.set_cons_zero, List.set_cons_succ]
            refine plan_take (v := ?_) rfl (by rfl) ?_ ?_; rotate_left; (focus (intro w' hS; obtain ⟨f0, f1, f2, f3⟩ := HF.out w' hS; go_simp; try with_reducible rfl)); simp only [Act.put, List.setIfInBounds_toArray, List.set_cons_zero, List.set_cons_succ]
            refine plan_take (v := ?_) rfl (by rfl) ?_ ?_; rotate_left; (focus (intro w' hS; obtain ⟨f0, f1, f2, f3⟩ := HF.out w' hS; go_simp; try with_reducible rfl)); simp only [Act.put, List.setIfInBounds_toArray, List.set_cons_zero, List.set_cons_succ]
            refine plan_call rfl (by rfl) (fun K hK => ?_)
            go_simp
            have hnew := (Four.new wr (.bool n1) (.slice A1 m1 c1) (.bool n2) (.slice A2 m2 c2) 24).to (Below.refl _ _).drew
            replace hb := hb.alloc hb.size (.cells #[.bool n1, .slice A1 m1 c1, .bool n2, .slice A2 m2 c2] 24)
            refine hK.out _ _ hb ?_
            clear hK K
            refine plan_call rfl (by rfl) (fun K hK => ?_)
            go_simp
            refine (long_2 M1.out M2.out hnew.c1 hnew.c3 HL.out).mono ?_
            rintro e V ⟨rfl, rfl⟩
            refine hK.out _ _ hb ?_
            clear hK K hnew
            refine plan_take (v := ?_) rfl (by rfl) ?_ ?_; rotate_left; (focus (intro w' hS; go_simp; try with_reducible rfl)); simp only [Act.put, List.setIfInBounds_toArray, List.set_cons_zero, List.set_cons_succ]
            refine plan_take (v := ?_) rfl (by rfl) ?_ ?_; rotate_left; (focus (intro w' hS; go_simp; try with_reducible rfl)); simp only [Act.put, List.setIfInBounds_toArray, List.set_cons_zero, List.set_cons_succ]
            refine plan_take (v := ?_) rfl (by rfl) ?_ ?_; rotate_left; (focus (intro w' hS; go_simp; try with_reducible rfl)); simp only [Act.put, List.setIfInBounds_toArray, List.set_cons_zero, List.set_cons_succ]
            refine plan_take (v := ?_) rfl (by rfl) ?_ ?_; rotate_left; (focus (intro w' hS; obtain ⟨f0, f1, f2, f3⟩ := HF.out w' hS; go_simp; try with_reducible rfl)); simp only [Act.put, List.setIfInBounds_toArray, List.set_cons_zero, List.set_cons_succ]
            refine plan_take (v := ?_) rfl (by rfl) ?_ ?_; rotate_left; (focus (intro w' hS; obtain ⟨f0, f1, f2, f3⟩ := HF.out w' hS; go_simp; try with_reducible rfl)); simp only [Act.put, List.setIfInBounds_toArray, List.set_cons_zero, List.set_cons_succ]
            refine plan_take (v := ?_) rfl (by rfl) ?_ ?_; rotate_left; (focus (intro w' hS; obtain ⟨f0, f1, f2, f3⟩ := HF.out w' hS; go_simp; try with_reducible rfl)); simp only [Act.put, List.setIfInBounds_toArray, List.set_cons_zero, List.set_cons_succ]
            refine plan_take (v := ?_) rfl (by rfl) ?_ ?_; rotate_left; (focus (intro w' hS; obtain ⟨f0, f1, f2, f3⟩ := HF.out w' hS; go_simp; try with_reducible rfl)); simp only [Act.put, List.setIfInBounds_toArray, List.set_cons_zero, List.set_cons_succ]
            refine plan_take (v := ?_) rfl (by rfl) ?_ ?_; rotate_left; (focus (intro w' hS; go_simp; try with_reducible rfl)); simp only [Act.put, List.setIfInBounds_toArray, List.set_cons_zero, List.set_cons_succ]
            refine plan_take (v := ?_) rfl (by rfl) ?_ ?_; rotate_left; (focus (intro w' hS; go_simp; try with_reducible rfl)); simp only [Act.put, List.setIfInBounds_toArray, List.set_cons_zero, List.set_cons_succ]
            refine plan_take (v := ?_) rfl (by rfl) ?_ ?_; rotate_left; (focus (intro w' hS; go_simp; try with_reducible rfl)); simp only [Act.put, List.setIfInBounds_toArray, List.set_cons_zero, List.set_cons_succ]
            refine plan_take (v := ?_) rfl (by rfl) ?_ ?_; rotate_left; (focus (intro w' hS; go_simp; try with_reducible rfl)); simp only [Act.put, List.setIfInBounds_toArray, List.set_cons_zero, List.set_cons_succ]
            refine plan_take (v := ?_) rfl (by rfl) ?_ ?_; rotate_left; (focus (intro w' hS; go_simp; try with_reducible rfl)); simp only [Act.put, List.setIfInBounds_toArray, List.set_cons_zero, List.set_cons_succ]
            refine plan_take (v := ?_) rfl (by rfl) ?_ ?_; rotate_left; (focus (intro w' hS; go_simp; try with_reducible rfl)); simp only [Act.put, List.setIfInBounds_toArray, List.set_cons_zero, List.set_cons_succ]
            refine plan_take (v := ?_) rfl (by rfl) ?_ ?_; rotate_left; (focus (intro w' hS; obtain ⟨f0, f1, f2, f3⟩ := HF.out w' hS; go_simp; try with_reducible rfl)); simp only [Act.put, List.setIfInBounds_toArray, List.set_cons_zero, List.set_cons_succ]
            refine plan_take (v := ?_) rfl (by rfl) ?_ ?_; rotate_left; (focus (intro w' hS; obtain ⟨f0, f1, f2, f3⟩ := HF.out w' hS; go_simp; try with_reducible rfl)); simp only [Act.put, List.setIfInBounds_toArray, List.set_cons_zero, List.set_cons_succ]
            refine plan_take (v := ?_) rfl (by rfl) ?_ ?_; rotate_left; (focus (intro w' hS; obtain ⟨f0, f1, f2, f3⟩ := HF.out w' hS; go_simp; try with_reducible rfl)); simp only [Act.put, List.setIfInBounds_toArray, List.set_cons_zero, List.set_cons_succ]
            refine plan_take (v := ?_) rfl (by rfl) ?_ ?_; rotate_left; (focus (intro w' hS; obtain ⟨f0, f1, f2, f3⟩ := HF.out w' hS; go_simp; try with_reducible rfl)); simp only [Act.put, List.setIfInBounds_toArray, List.set_cons_zero, List.set_cons_succ]
            refine plan_take (v := ?_) rfl (by rfl) ?_ ?_; rotate_left; (focus (intro w' hS; go_simp; try with_reducible rfl)); simp only [Act.put, List.setIfInBounds_toArray, List.set_cons_zero, List.set_cons_succ]
            refine plan_take (v := ?_) rfl (by rfl) ?_ ?_; rotate_left; (focus (intro w' hS; go_simp; try with_reducible rfl)); simp only [Act.put, List.setIfInBounds_toArray, List.set_cons_zero, List.set_cons_succ]
            refine plan_take (v := ?_) rfl (by rfl) ?_ ?_; rotate_left; (focus (intro w' hS; go_simp; try with_reducible rfl)); simp only [Act.put, List.setIfInBounds_toArray, List.set_cons_zero, List.set_cons_succ]
            refine plan_done ?_
            have HE := Lib.hid hb
            clear hb HB
            go_wp2
            go_ret
            exact ⟨by rw [<- HR.out, hany.out]; rfl, HE.out⟩
          · have hok : Hid (m1 <= 6 /\ m2 <= 6) := by show _ /\ _; omega
            clear ha
            have d1 : decide ((6 : Int) < (m1 : Int)) = false := by simp; omega
            have d2 : decide ((6 : Int) < (m2 : Int)) = false := by simp; omega
            clear hb6 hc6
            go_wp2_with fail
            refine wp_region_plan (S := fun w' => Below w.heap.size w w') [(0, true), (1, true), (2, true), (3, true), (4, true), (5, true), (6, true), (7, true), (8, true), (9, true), (10, false), (11, false), (12, true), (13, true), (14, true), (15, true), (16, true), (17, true), (18, true), (19, true), (20, true), (21, true), (22, true), (23, true), (24, true), (25, true), (26, true), (27, true), (28, true), (29, true), (30, true), (31, true)] (by kernel_rfl) (by kernel_rfl) HB.out.drew ?_
            have hb := HB.out.drew
            refine plan_take (v := ?_) rfl (by rfl) ?_ ?_; rotate_left; (focus (intro w' hS; obtain ⟨f0, f1, f2, f3⟩ := HF.out w' hS; go_simp; try with_reducible rfl)); simp only [Act.put, List.setIfInBounds_toArray, List.set_cons_zero, List.set_cons_succ]
            refine plan_take (v := ?_) rfl (by rfl) ?_ ?_; rotate_left; (focus (intro w' hS; obtain ⟨f0, f1, f2, f3⟩ := HF.out w' hS; go_simp; try with_reducible rfl)); simp only [Act.put, List.setIfInBounds_toArray, List.set_cons_zero, List.set_cons_succ]
            refine plan_take (v := ?_) rfl (by rfl) ?_ ?_; rotate_left; (focus (intro w' hS; obtain ⟨f0, f1, f2, f3⟩ := HF.out w' hS; go_simp; try with_reducible rfl)); simp only [Act.put, List.setIfInBounds_toArray, List.set_cons_zero, List.set_cons_succ]
            refine plan_take (v := ?_) rfl (by rfl) ?_ ?_; rotate_left; (focus (intro w' hS; obtain ⟨f0, f1, f2, f3⟩ := HF.out w' hS; go_simp; try with_reducible rfl)); simp only [Act.put, List.setIfInBounds_toArray, List.set_cons_zero, List.set_cons_succ]
            refine plan_take (v := ?_) rfl (by rfl) ?_ ?_; rotate_left; (focus (intro w' hS; obtain ⟨f0, f1, f2, f3⟩ := HF.out w' hS; go_simp; try with_reducible rfl)); simp only [Act.put, List.setIfInBounds_toArray, List.set_cons_zero, List.set_cons_succ]
            refine plan_take (v := ?_) rfl (by rfl) ?_ ?_; rotate_left; (focus (intro w' hS; obtain ⟨f0, f1, f2, f3⟩ := HF.out w' hS; go_simp; try with_reducible rfl)); simp only [Act.put, List.setIfInBounds_toArray, List.set_cons_zero, List.set_cons_succ]
            refine plan_take (v := ?_) rfl (by rfl) ?_ ?_; rotate_left; (focus (intro w' hS; obtain ⟨f0, f1, f2, f3⟩ := HF.out w' hS; go_simp; try with_reducible rfl)); simp only [Act.put, List.setIfInBounds_toArray, List.set_cons_zero, List.set_cons_succ]
            refine plan_take (v := ?_) rfl (by rfl) ?_ ?_; rotate_left; (focus (intro w' hS; obtain ⟨f0, f1, f2, f3⟩ := HF.out w' hS; go_simp; try with_reducible rfl)); simp only [Act.put, List.setIfInBounds_toArray, List.set_cons_zero, List.set_cons_succ]
            refine plan_take (v := ?_) rfl (by rfl) ?_ ?_; rotate_left; (focus (intro w' hS; obtain ⟨f0, f1, f2, f3⟩ := HF.out w' hS; go_simp; try with_reducible rfl)); simp only [Act.put, List.setIfInBounds_toArray, List.set_cons_zero, List.set_cons_succ]
            refine plan_take (v := ?_) rfl (by rfl) ?_ ?_; rotate_left; (focus (intro w' hS; obtain ⟨f0, f1, f2, f3⟩ := HF.out w' hS; go_simp; try with_reducible rfl)); simp only [Act.put, List.setIfInBounds_toArray, List.set_cons_zero, List.set_cons_succ]
            refine plan_call rfl (by rfl) (fun K hK => ?_)
            go_simp
            have hnew := (Four.new wr (.bool n1) (.slice A1 m1 c1) (.bool n2) (.slice A2 m2 c2) 24).to (Below.refl _ _).drew
            replace hb := hb.alloc hb.size (.cells #[.bool n1, .slice A1 m1 c1, .bool n2, .slice A2 m2 c2] 24)
            refine hK.out _ _ hb ?_
            clear hK K
            refine plan_call rfl (by rfl) (fun K hK => ?_)
            go_simp
            refine (long_2 M1.out M2.out hnew.c1 hnew.c3 HL.out).mono ?_
            rintro e V ⟨rfl, rfl⟩
            refine hK.out _ _ hb ?_
            clear hK K hnew
            refine plan_take (v := ?_) rfl (by rfl) ?_ ?_; rotate_left; (focus (intro w' hS; go_simp; try with_reducible rfl)); simp only [Act.put, List.setIfInBounds_toArray, List.set_cons_zero, List.set_cons_succ]
            refine plan_take (v := ?_) rfl (by rfl) ?_ ?_; rotate_left; (focus (intro w' hS; go_simp; try with_reducible rfl)); simp only [Act.put, List.setIfInBounds_toArray, List.set_cons_zero, List.set_cons_succ]
            refine plan_take (v := ?_) rfl (by rfl) ?_ ?_; rotate_left; (focus (intro w' hS; go_simp; try with_reducible rfl)); simp only [Act.put, List.setIfInBounds_toArray, List.set_cons_zero, List.set_cons_succ]
            refine plan_take (v := ?_) rfl (by rfl) ?_ ?_; rotate_left; (focus (intro w' hS; obtain ⟨f0, f1, f2, f3⟩ := HF.out w' hS; go_simp; try with_reducible rfl)); simp only [Act.put, List.setIfInBounds_toArray, List.set_cons_zero, List.set_cons_succ]
            refine plan_take (v := ?_) rfl (by rfl) ?_ ?_; rotate_left; (focus (intro w' hS; obtain ⟨f0, f1, f2, f3⟩ := HF.out w' hS; go_simp; try with_reducible rfl)); simp only [Act.put, List.setIfInBounds_toArray, List.set_cons_zero, List.set_cons_succ]
            refine plan_take (v := ?_) rfl (by rfl) ?_ ?_; rotate_left; (focus (intro w' hS; obtain ⟨f0, f1, f2, f3⟩ := HF.out w' hS; go_simp; try with_reducible rfl)); simp only [Act.put, List.setIfInBounds_toArray, List.set_cons_zero, List.set_cons_succ]
            refine plan_take (v := ?_) rfl (by rfl) ?_ ?_; rotate_left; (focus (intro w' hS; obtain ⟨f0, f1, f2, f3⟩ := HF.out w' hS; go_simp; try with_reducible rfl)); simp only [Act.put, List.setIfInBounds_toArray, List.set_cons_zero, List.set_cons_succ]
            refine plan_take (v := ?_) rfl (by rfl) ?_ ?_; rotate_left; (focus (intro w' hS; go_simp; try with_reducible rfl)); simp only [Act.put, List.setIfInBounds_toArray, List.set_cons_zero, List.set_cons_succ]
            refine plan_take (v := ?_) rfl (by rfl) ?_ ?_; rotate_left; (focus (intro w' hS; go_simp; try with_reducible rfl)); simp only [Act.put, List.setIfInBounds_toArray, List.set_cons_zero, List.set_cons_succ]
            refine plan_take (v := ?_) rfl (by rfl) ?_ ?_; rotate_left; (focus (intro w' hS; go_simp; try with_reducible rfl)); simp only [Act.put, List.setIfInBounds_toArray, List.set_cons_zero, List.set_cons_succ]
            refine plan_take (v := ?_) rfl (by rfl) ?_ ?_; rotate_left; (focus (intro w' hS; go_simp; try with_reducible rfl)); simp only [Act.put, List.setIfInBounds_toArray, List.set_cons_zero, List.set_cons_succ]
            refine plan_take (v := ?_) rfl (by rfl) ?_ ?_; rotate_left; (focus (intro w' hS; go_simp; try with_reducible rfl)); simp only [Act.put, List.setIfInBounds_toArray, List.set_cons_zero, List.set_cons_succ]
            refine plan_take (v := ?_) rfl (by rfl) ?_ ?_; rotate_left; (focus (intro w' hS; go_simp; try with_reducible rfl)); simp only [Act.put, List.setIfInBounds_toArray, List.set_cons_zero, List.set_cons_succ]
            refine plan_take (v := ?_) rfl (by rfl) ?_ ?_; rotate_left; (focus (intro w' hS; obtain ⟨f0, f1, f2, f3⟩ := HF.out w' hS; go_simp; try with_reducible rfl)); simp only [Act.put, List.setIfInBounds_toArray, List.set_cons_zero, List.set_cons_succ]
            refine plan_take (v := ?_) rfl (by rfl) ?_ ?_; rotate_left; (focus (intro w' hS; obtain ⟨f0, f1, f2, f3⟩ := HF.out w' hS; go_simp; try with_reducible rfl)); simp only [Act.put, List.setIfInBounds_toArray, List.set_cons_zero, List.set_cons_succ]
            refine plan_take (v := ?_) rfl (by rfl) ?_ ?_; rotate_left; (focus (intro w' hS; obtain ⟨f0, f1, f2, f3⟩ := HF.out w' hS; go_simp; try with_reducible rfl)); simp only [Act.put, List.setIfInBounds_toArray, List.set_cons_zero, List.set_cons_succ]
            refine plan_take (v := ?_) rfl (by rfl) ?_ ?_; rotate_left; (focus (intro w' hS; obtain ⟨f0, f1, f2, f3⟩ := HF.out w' hS; go_simp; try with_reducible rfl)); simp only [Act.put, List.setIfInBounds_toArray, List.set_cons_zero, List.set_cons_succ]
            refine plan_take (v := ?_) rfl (by rfl) ?_ ?_; rotate_left; (focus (intro w' hS; go_simp; try with_reducible rfl)); simp only [Act.put, List.setIfInBounds_toArray, List.set_cons_zero, List.set_cons_succ]
            refine plan_take (v := ?_) rfl (by rfl) ?_ ?_; rotate_left; (focus (intro w' hS; go_simp; try with_reducible rfl)); simp only [Act.put, List.setIfInBounds_toArray, List.set_cons_zero, List.set_cons_succ]
            refine plan_take (v := ?_) rfl (by rfl) ?_ ?_; rotate_left; (focus (intro w' hS; go_simp; try with_reducible rfl)); simp only [Act.put, List.setIfInBounds_toArray, List.set_cons_zero, List.set_cons_succ]
            refine plan_done ?_
            have HE := Lib.hid hb
            clear hb HB
            go_wp2
            go_roundw
            case rel => exact ⟨k + 1, by simp, by omega, (fun j hj hjk => by
              rcases Nat.lt_or_ge j k with h1 | h1
              · exact HT.out j hj h1
              · obtain rfl : j = k := by omega
                rw [HN2.out]; exact hok.out), HE.out⟩
            case measure => simp [intOf]; omega
    · obtain rfl : k = ls.length := by omega
      clear hlt
      go_wp2
      go_ret
      refine ⟨?_, HB.out⟩
      have : (ls.any fun p => decide (6 < p.1) || decide (6 < p.2)) = false := by
        rw [List.any_eq_false]
        intro x hx
        obtain ⟨j, hj, rfl⟩ := List.getElem_of_mem hx
        have := HT.out j hj hj
        simp; omega
      rw [<- HR.out, this]
      rfl


/-- A variable that holds a rational of at most k words. -/
structure Qb (W : World) (g : Nat) (x1 x2 x3 x4 : Value) (r : Rat) (k : Nat) : Prop where
  four : Four W g x1 x2 x3 x4
  qi : Qi W x1 x2 x3 x4 r k
theorem Qb.to {W V : World} {g : Nat} {x1 x2 x3 x4 : Value} {r : Rat} {k : Nat} (h : Qb W g x1 x2 x3 x4 r k) (hb : Below W.heap.size W V) : Qb V g x1 x2 x3 x4 r k := ⟨h.four.to hb, h.qi.to hb⟩

/-- The smaller, the larger of two rationals. -/
def minQ (r s : Rat) : Rat := if r < s then r else s
def maxQ (r s : Rat) : Rat := if s < r then r else s
theorem Qm.min {k : Nat} {r s : Rat} (h : Qm k r) (h' : Qm k s) : Qm k (minQ r s) := by unfold minQ; split <;> assumption
theorem Qm.max {k : Nat} {r s : Rat} (h : Qm k r) (h' : Qm k s) : Qm k (maxQ r s) := by unfold maxQ; split <;> assumption
end Go.Proofs.YtgkfbhdaheoecaaGreat
