/- Parts: 5. -/
import Derived.Test.YtgkfbhdaheoecaaGreatFo4
import Derived.Test.YtgkfbhdaheoecaaGreatFo13
import Derived.Test.YtgkfbhdaheoecaaGreatFo15
set_option linter.unusedVariables false
set_option linter.unusedSimpArgs false
set_option maxRecDepth 100000
set_option maxHeartbeats 40000000

namespace Go.Proofs.YtgkfbhdaheoecaaGreat
open Go.RowKit Go.Shelf

theorem one4_new (w : World) (o : Obj) : Below w.heap.size w (w.alloc o) := (Below.refl _ _).alloc (Nat.le_refl _) _
theorem gcd_v {w : World} {x y x' y' : Value} {a b G : Int} (ha : Zl w x y a) (hb : Zl w x' y' b) (sa : Sg a) (sb : Sg b) (hG : (Int.gcd a b : Int) = G) : Calls Tryz.prog 36 #[.agg #[x, y], .agg #[x', y']] w (ZR w G) := by
  subst hG; exact gcd_z ha hb sa sb
theorem gcd_le (a b : Int) (hb : b ≠ 0) : Int.gcd a b <= b.natAbs := Nat.le_of_dvd (by omega) (Int.gcd_dvd_natAbs_right a b)

theorem quot_n1 {w : World} {x1 y1 x2 y2 : Value} {a b : Int} (ha : Zl w x1 y1 a) (hb : Zl w x2 y2 b) (hb0 : b ≠ 0) (hb1 : b ≠ 1) (sa : Sg a) (sb : Sg b) (hneg : b < 0) (hone : (Rat.divInt a b).den = 1) :
    Calls Tryz.prog 28 #[.agg #[x1, y1], .agg #[x2, y2]] w (QR w (Rat.divInt a b)) := by
  have hgn : Int.gcd a b ≠ 0 := fun h => hb0 (Int.gcd_eq_zero_iff.1 h).2
  have hgl := gcd_le a b hb0
  have hn := Lib.hid (cmn_num a b hb0)
  have hdd := Lib.hid (cmn_den a b hb0)
  have hc0 := Lib.hid (cmn_ne a b hb0)
  have sc : Hid (Sg (cmn a b)) := by
    show Sg _
    unfold Sg cmn at *
    split <;> omega
  have sg : Hid (Sg (Int.gcd a b : Nat)) := by
    show Sg _
    unfold Sg at *
    omega
  have sd := Lib.hid (sb.den (a := a) hb0)
  rw [<- hdd.out] at sd
  have h1 : Hid (decide (b = 1) = false) := decide_eq_false hb1
  have hs : Hid (sgn b = -1) := by show _ = _; unfold sgn; rw [if_neg hb0, if_pos hneg]
  have hd1 : Hid (decide (b / cmn a b = 1) = true) := by
    show _ = _
    rw [hdd.out]
    exact decide_eq_true (by rw [hone]; rfl)
  have hcm : Hid (-(Int.gcd a b : Int) = cmn a b) := by show _ = _; unfold cmn; rw [if_pos hneg]
  obtain ⟨C, eC⟩ : ∃ C, cmn a b = C := ⟨_, rfl⟩
  obtain ⟨G, eG⟩ : ∃ G : Int, (Int.gcd a b : Int) = G := ⟨_, rfl⟩
  rw [eC] at hn hdd hc0 sc sd hd1 hcm
  rw [eG] at sg hcm
  have EG := Lib.hid eG
  clear eC eG hgn hgl
  obtain ⟨W0, hW0⟩ : ∃ W0, W0 = ((w.alloc (.cells #[x1, y1] 24)).alloc (.cells #[x2, y2] 24)).alloc (.cells #[.bool false, .slice none 0 0, .bool false, .slice none 0 0] 26) := ⟨_, rfl⟩
  have hbw : Below w.heap.size w W0 := by rw [hW0]; exact (((Below.refl _ _).alloc (Nat.le_refl _) _).alloc (by simp) _).alloc (by simp; omega) _
  have tA : Two W0 w.heap.size x1 y1 := by rw [hW0]; exact ((Two.new w _ _ _).alloc _).alloc _
  have tB : Two W0 (w.heap.size + 1) x2 y2 := by
    have h := Two.new (w.alloc (.cells #[x1, y1] 24)) x2 y2 24
    rw [World.size_alloc] at h
    rw [hW0]; exact h.alloc _
  have tR : Four W0 (w.heap.size + 1 + 1) (.bool false) (.slice none 0 0) (.bool false) (.slice none 0 0) := by
    have h := Four.new ((w.alloc (.cells #[x1, y1] 24)).alloc (.cells #[x2, y2] 24)) (.bool false) (.slice none 0 0) (.bool false) (.slice none 0 0) 26
    rw [World.size_alloc, World.size_alloc] at h
    rw [hW0]; exact h
  have HW0 := Lib.hid hW0
  have hA := ha.to hbw
  have hB := hb.to hbw
  have HB := Lib.hid hbw
  have hneB : Hid (w.heap.size + 1 ≠ w.heap.size) := by show _ ≠ _; omega
  have hneR : Hid (w.heap.size + 1 + 1 ≠ w.heap.size) := by show _ ≠ _; omega
  have hneRB : Hid (w.heap.size + 1 + 1 ≠ w.heap.size + 1) := by show _ ≠ _; omega
  replace sa := Lib.hid sa
  replace sb := Lib.hid sb
  clear ha hb hb0 hb1 hneg hone hW0 hbw
  go_enter Tryz.func28, Tryz.ntmps28
  go_wp2_with fail
  rw [<- HW0.out]
  have k0 := tB.c0
  have k1 := tB.c1
  go_wp2_with fail
  refine (isOne_v hB h1.out).mono ?_
  rintro e V1 ⟨rfl, bb⟩
  clear k0 k1
  replace tA := tA.to bb
  replace tB := tB.to bb
  replace tR := tR.to bb
  replace hA := hA.to bb
  replace hB := hB.to bb
  replace HB := Lib.hid (HB.out.trans (bb.mono HB.out.size))
  clear bb
  have k0 := tA.c0
  have k1 := tA.c1
  have k2 := tB.c0
  have k3 := tB.c1
  go_wp2_with fail
  refine (gcd_v hA hB sa.out sb.out EG.out).mono ?_
  rintro e V2 ⟨xg, yg, rfl, rg, bb⟩
  clear k0 k1 k2 k3
  replace tA := tA.to bb
  replace tB := tB.to bb
  replace tR := tR.to bb
  replace hA := hA.to bb
  replace hB := hB.to bb
  replace HB := Lib.hid (HB.out.trans (bb.mono HB.out.size))
  clear bb
  have hg5w : Hid (w.heap.size <= V2.heap.size) := HB.out.size
  have rg2 := rg
  obtain ⟨Ag, cg, rfl, rfl, -⟩ := rg2
  have bb := one4_new V2 (.cells #[.bool (decide (G < 0)), .slice Ag (dig b32 G.natAbs).length cg] 24)
  have t5 := Two.new V2 (.bool (decide (G < 0))) (.slice Ag (dig b32 G.natAbs).length cg) 24
  replace rg := rg.to bb
  have hne5A := Nat.ne_of_lt tA.lt
  have hne5B := Nat.ne_of_lt tB.lt
  have hne5R := Nat.ne_of_lt tR.lt
  replace tA := tA.to bb
  replace tB := tB.to bb
  replace tR := tR.to bb
  replace hA := hA.to bb
  replace hB := hB.to bb
  replace HB := Lib.hid (HB.out.trans (bb.mono HB.out.size))
  clear bb
  have k0 := tB.c0
  have k1 := tB.c1
  go_wp2_with fail
  obtain ⟨V3, hV3⟩ : ∃ V, V = V2.alloc (.cells #[.bool (decide (G < 0)), .slice Ag (dig b32 G.natAbs).length cg] 24) := ⟨_, rfl⟩
  obtain ⟨g5, hg5⟩ : ∃ g, g = V2.heap.size := ⟨_, rfl⟩
  rw [<- hV3, <- hg5]
  rw [<- hV3] at rg tA tB tR hA hB HB
  rw [<- hV3, <- hg5] at t5
  rw [<- hg5] at hne5A hne5B hne5R hg5w
  clear k0 k1
  clear hV3 hg5
  refine (sign_v hB hs.out).mono ?_
  rintro e V4 ⟨rfl, bb⟩
  replace rg := rg.to bb
  replace tA := tA.to bb
  replace tB := tB.to bb
  replace t5 := t5.to bb
  replace tR := tR.to bb
  replace hA := hA.to bb
  replace hB := hB.to bb
  replace HB := Lib.hid (HB.out.trans (bb.mono HB.out.size))
  clear bb
  have k0 := t5.c0
  have k1 := t5.c1
  go_wp2_with fail
  refine (neg_z (rg.zs sg.out).zi).mono ?_
  rintro e V5 ⟨xn, yn, rfl, rc, bb⟩
  clear k0 k1
  replace tA := tA.to bb
  replace tB := tB.to bb
  replace t5 := t5.to bb
  replace tR := tR.to bb
  replace hA := hA.to bb
  replace hB := hB.to bb
  replace HB := Lib.hid (HB.out.trans (bb.mono HB.out.size))
  clear bb rg
  rw [hcm.out] at rc
  have rg2 := rc
  obtain ⟨Ac, cc, rfl, rfl, -⟩ := rg2
  have k0 := t5.c0
  have k1 := t5.c1
  have k2 := t5.f0
  have k3 := t5.f1
  obtain ⟨V6, eV, u5, kp, kf⟩ := pack2 t5 ⟨_, _, _, _, rfl, rfl⟩ (.bool (decide (C < 0))) (.slice Ac (dig b32 C.natAbs).length cc)
  replace tA := kp.two _ _ _ hne5A tA
  replace tB := kp.two _ _ _ hne5B tB
  replace tR := kf _ _ _ _ _ hne5R tR
  replace hA := kp.zl hA
  replace hB := kp.zl hB
  replace rc := kp.zc _ _ _ rc
  replace HB := Lib.hid (kp.bel _ _ HB.out hg5w.out)
  clear t5 kp kf
  have t5 := u5
  have k4 := tA.c0
  have k5 := tA.c1
  have k6 := t5.c0
  have k7 := t5.c1
  go_wp2_with fail
  clear k0 k1 k2 k3 k4 k5 k6 k7 eV u5
  refine (dm_z hA (rc.zs sc.out) hc0.out sa.out).mono ?_
  rintro e V7 ⟨A1, c1, A2, c2, rfl, r1, r2, l1, m1, l2, m2, bb⟩
  replace rc := rc.to bb
  replace tA := tA.to bb
  replace tB := tB.to bb
  replace t5 := t5.to bb
  replace tR := tR.to bb
  replace hA := hA.to bb
  replace hB := hB.to bb
  replace HB := Lib.hid (HB.out.trans (bb.mono HB.out.size))
  clear bb r2 l2 m2
  have rn : Zc V7 (.bool (decide (a / C < 0))) (.slice A1 (dig b32 (a / C).natAbs).length c1) (a / C) := ⟨A1, c1, rfl, rfl, r1, l1, m1⟩
  clear r1 l1 m1
  obtain ⟨V8, eV, u, kp, kf⟩ := pack2 tA hA.fs (.bool (decide (a / C < 0))) (.slice A1 (dig b32 (a / C).natAbs).length c1)
  have k0 := tA.c0
  have k1 := tA.c1
  have k2 := tA.f0
  have k3 := tA.f1
  replace tB := kp.two _ _ _ hneB.out tB
  replace t5 := kp.two _ _ _ (Ne.symm hne5A) t5
  replace tR := kf _ _ _ _ _ hneR.out tR
  replace hB := kp.zl hB
  replace rc := kp.zc _ _ _ rc
  replace rn := kp.zc _ _ _ rn
  replace HB := Lib.hid (kp.bel _ _ HB.out (Nat.le_refl _))
  clear tA hA kp kf
  have tA := u
  have k4 := tB.c0
  have k5 := tB.c1
  have k6 := t5.c0
  have k7 := t5.c1
  go_wp2_with fail
  clear k0 k1 k2 k3 k4 k5 k6 k7 eV u
  refine (dm_z hB (rc.zs sc.out) hc0.out sb.out).mono ?_
  rintro e V9 ⟨A3, c3, A4, c4, rfl, r1, r2, l1, m1, l2, m2, bb⟩
  replace rn := rn.to bb
  replace tA := tA.to bb
  replace tB := tB.to bb
  replace tR := tR.to bb
  replace hB := hB.to bb
  replace HB := Lib.hid (HB.out.trans (bb.mono HB.out.size))
  clear bb r2 l2 m2 rc t5
  have rd : Zc V9 (.bool (decide (b / C < 0))) (.slice A3 (dig b32 (b / C).natAbs).length c3) (b / C) := ⟨A3, c3, rfl, rfl, r1, l1, m1⟩
  clear r1 l1 m1
  obtain ⟨V10, eV, u, kp, kf⟩ := pack2 tB hB.fs (.bool (decide (b / C < 0))) (.slice A3 (dig b32 (b / C).natAbs).length c3)
  have k0 := tB.c0
  have k1 := tB.c1
  have k2 := tB.f0
  have k3 := tB.f1
  replace tA := kp.two _ _ _ (Ne.symm hneB.out) tA
  replace tR := kf _ _ _ _ _ hneRB.out tR
  replace rn := kp.zc _ _ _ rn
  replace rd := kp.zc _ _ _ rd
  replace HB := Lib.hid (kp.bel _ _ HB.out (Nat.le_succ _))
  clear tB hB kp kf
  have tB := u
  have k4 := tB.c0
  have k5 := tB.c1
  go_wp2_with fail
  clear k0 k1 k2 k3 k4 k5 eV u
  refine (isOne_v (rd.zs sd.out) hd1.out).mono ?_
  rintro e V11 ⟨rfl, bb⟩
  replace rn := rn.to bb
  replace rd := rd.to bb
  replace tA := tA.to bb
  replace tB := tB.to bb
  replace tR := tR.to bb
  replace HB := Lib.hid (HB.out.trans (bb.mono HB.out.size))
  clear bb
  have RN := Lib.hid rn
  have RD := Lib.hid rd
  clear rn rd
  obtain ⟨V12, eV, u, kp⟩ := pack4 tR Fq.nil (.bool (decide (a / C < 0))) (.slice A1 (dig b32 (a / C).natAbs).length c1) (.bool false) (.slice none 0 0)
  have k0 := tA.c0
  have k1 := tA.c1
  obtain ⟨v0, v1, v2, v3, v4, v5, v6, v7, _⟩ := tR
  have EV := Lib.hid eV
  have KP := Lib.hid kp
  have U := Lib.hid u
  clear eV kp u tA tB
  go_wp2
  rw [EV.out]
  refine bodyPost_ret (v := .agg #[.bool (decide (a / C < 0)), .slice A1 (dig b32 (a / C).natAbs).length c1, .bool false, .slice none 0 0]) (by simp [results, Tryz.f28, go_sem, U.out.c0, U.out.c1, U.out.c2, U.out.c3]) rfl ?_
  exact ⟨_, _, _, _, rfl, ⟨by rw [<- hn.out]; exact KP.out.zc _ _ _ RN.out, by rw [if_pos (by have h1 := hdd.out; have h2 := of_decide_eq_true hd1.out; omega)]; exact Zc.zero V12⟩, KP.out.bel _ _ HB.out (by omega)⟩

theorem quot_n0 {w : World} {x1 y1 x2 y2 : Value} {a b : Int} (ha : Zl w x1 y1 a) (hb : Zl w x2 y2 b) (hb0 : b ≠ 0) (hb1 : b ≠ 1) (sa : Sg a) (sb : Sg b) (hneg : b < 0) (hone : (Rat.divInt a b).den ≠ 1) :
    Calls Tryz.prog 28 #[.agg #[x1, y1], .agg #[x2, y2]] w (QR w (Rat.divInt a b)) := by
  have hgn : Int.gcd a b ≠ 0 := fun h => hb0 (Int.gcd_eq_zero_iff.1 h).2
  have hgl := gcd_le a b hb0
  have hn := Lib.hid (cmn_num a b hb0)
  have hdd := Lib.hid (cmn_den a b hb0)
  have hc0 := Lib.hid (cmn_ne a b hb0)
  have sc : Hid (Sg (cmn a b)) := by
    show Sg _
    unfold Sg cmn at *
    split <;> omega
  have sg : Hid (Sg (Int.gcd a b : Nat)) := by
    show Sg _
    unfold Sg at *
    omega
  have sd := Lib.hid (sb.den (a := a) hb0)
  rw [<- hdd.out] at sd
  have h1 : Hid (decide (b = 1) = false) := decide_eq_false hb1
  have hs : Hid (sgn b = -1) := by show _ = _; unfold sgn; rw [if_neg hb0, if_pos hneg]
  have hd1 : Hid (decide (b / cmn a b = 1) = false) := by
    show _ = _
    rw [hdd.out]
    exact decide_eq_false (by omega)
  have hcm : Hid (-(Int.gcd a b : Int) = cmn a b) := by show _ = _; unfold cmn; rw [if_pos hneg]
  obtain ⟨C, eC⟩ : ∃ C, cmn a b = C := ⟨_, rfl⟩
  obtain ⟨G, eG⟩ : ∃ G : Int, (Int.gcd a b : Int) = G := ⟨_, rfl⟩
  rw [eC] at hn hdd hc0 sc sd hd1 hcm
  rw [eG] at sg hcm
  have EG := Lib.hid eG
  clear eC eG hgn hgl
  obtain ⟨W0, hW0⟩ : ∃ W0, W0 = ((w.alloc (.cells #[x1, y1] 24)).alloc (.cells #[x2, y2] 24)).alloc (.cells #[.bool false, .slice none 0 0, .bool false, .slice none 0 0] 26) := ⟨_, rfl⟩
  have hbw : Below w.heap.size w W0 := by rw [hW0]; exact (((Below.refl _ _).alloc (Nat.le_refl _) _).alloc (by simp) _).alloc (by simp; omega) _
  have tA : Two W0 w.heap.size x1 y1 := by rw [hW0]; exact ((Two.new w _ _ _).alloc _).alloc _
  have tB : Two W0 (w.heap.size + 1) x2 y2 := by
    have h := Two.new (w.alloc (.cells #[x1, y1] 24)) x2 y2 24
    rw [World.size_alloc] at h
    rw [hW0]; exact h.alloc _
  have tR : Four W0 (w.heap.size + 1 + 1) (.bool false) (.slice none 0 0) (.bool false) (.slice none 0 0) := by
    have h := Four.new ((w.alloc (.cells #[x1, y1] 24)).alloc (.cells #[x2, y2] 24)) (.bool false) (.slice none 0 0) (.bool false) (.slice none 0 0) 26
    rw [World.size_alloc, World.size_alloc] at h
    rw [hW0]; exact h
  have HW0 := Lib.hid hW0
  have hA := ha.to hbw
  have hB := hb.to hbw
  have HB := Lib.hid hbw
  have hneB : Hid (w.heap.size + 1 ≠ w.heap.size) := by show _ ≠ _; omega
  have hneR : Hid (w.heap.size + 1 + 1 ≠ w.heap.size) := by show _ ≠ _; omega
  have hneRB : Hid (w.heap.size + 1 + 1 ≠ w.heap.size + 1) := by show _ ≠ _; omega
  replace sa := Lib.hid sa
  replace sb := Lib.hid sb
  clear ha hb hb0 hb1 hneg hone hW0 hbw
  go_enter Tryz.func28, Tryz.ntmps28
  go_wp2_with fail
  rw [<- HW0.out]
  have k0 := tB.c0
  have k1 := tB.c1
  go_wp2_with fail
  refine (isOne_v hB h1.out).mono ?_
  rintro e V1 ⟨rfl, bb⟩
  clear k0 k1
  replace tA := tA.to bb
  replace tB := tB.to bb
  replace tR := tR.to bb
  replace hA := hA.to bb
  replace hB := hB.to bb
  replace HB := Lib.hid (HB.out.trans (bb.mono HB.out.size))
  clear bb
  have k0 := tA.c0
  have k1 := tA.c1
  have k2 := tB.c0
  have k3 := tB.c1
  go_wp2_with fail
  refine (gcd_v hA hB sa.out sb.out EG.out).mono ?_
  rintro e V2 ⟨xg, yg, rfl, rg, bb⟩
  clear k0 k1 k2 k3
  replace tA := tA.to bb
  replace tB := tB.to bb
  replace tR := tR.to bb
  replace hA := hA.to bb
  replace hB := hB.to bb
  replace HB := Lib.hid (HB.out.trans (bb.mono HB.out.size))
  clear bb
  have hg5w : Hid (w.heap.size <= V2.heap.size) := HB.out.size
  have rg2 := rg
  obtain ⟨Ag, cg, rfl, rfl, -⟩ := rg2
  have bb := one4_new V2 (.cells #[.bool (decide (G < 0)), .slice Ag (dig b32 G.natAbs).length cg] 24)
  have t5 := Two.new V2 (.bool (decide (G < 0))) (.slice Ag (dig b32 G.natAbs).length cg) 24
  replace rg := rg.to bb
  have hne5A := Nat.ne_of_lt tA.lt
  have hne5B := Nat.ne_of_lt tB.lt
  have hne5R := Nat.ne_of_lt tR.lt
  replace tA := tA.to bb
  replace tB := tB.to bb
  replace tR := tR.to bb
  replace hA := hA.to bb
  replace hB := hB.to bb
  replace HB := Lib.hid (HB.out.trans (bb.mono HB.out.size))
  clear bb
  have k0 := tB.c0
  have k1 := tB.c1
  go_wp2_with fail
  obtain ⟨V3, hV3⟩ : ∃ V, V = V2.alloc (.cells #[.bool (decide (G < 0)), .slice Ag (dig b32 G.natAbs).length cg] 24) := ⟨_, rfl⟩
  obtain ⟨g5, hg5⟩ : ∃ g, g = V2.heap.size := ⟨_, rfl⟩
  rw [<- hV3, <- hg5]
  rw [<- hV3] at rg tA tB tR hA hB HB
  rw [<- hV3, <- hg5] at t5
  rw [<- hg5] at hne5A hne5B hne5R hg5w
  clear k0 k1
  clear hV3 hg5
  refine (sign_v hB hs.out).mono ?_
  rintro e V4 ⟨rfl, bb⟩
  replace rg := rg.to bb
  replace tA := tA.to bb
  replace tB := tB.to bb
  replace t5 := t5.to bb
  replace tR := tR.to bb
  replace hA := hA.to bb
  replace hB := hB.to bb
  replace HB := Lib.hid (HB.out.trans (bb.mono HB.out.size))
  clear bb
  have k0 := t5.c0
  have k1 := t5.c1
  go_wp2_with fail
  refine (neg_z (rg.zs sg.out).zi).mono ?_
  rintro e V5 ⟨xn, yn, rfl, rc, bb⟩
  clear k0 k1
  replace tA := tA.to bb
  replace tB := tB.to bb
  replace t5 := t5.to bb
  replace tR := tR.to bb
  replace hA := hA.to bb
  replace hB := hB.to bb
  replace HB := Lib.hid (HB.out.trans (bb.mono HB.out.size))
  clear bb rg
  rw [hcm.out] at rc
  have rg2 := rc
  obtain ⟨Ac, cc, rfl, rfl, -⟩ := rg2
  have k0 := t5.c0
  have k1 := t5.c1
  have k2 := t5.f0
  have k3 := t5.f1
  obtain ⟨V6, eV, u5, kp, kf⟩ := pack2 t5 ⟨_, _, _, _, rfl, rfl⟩ (.bool (decide (C < 0))) (.slice Ac (dig b32 C.natAbs).length cc)
  replace tA := kp.two _ _ _ hne5A tA
  replace tB := kp.two _ _ _ hne5B tB
  replace tR := kf _ _ _ _ _ hne5R tR
  replace hA := kp.zl hA
  replace hB := kp.zl hB
  replace rc := kp.zc _ _ _ rc
  replace HB := Lib.hid (kp.bel _ _ HB.out hg5w.out)
  clear t5 kp kf
  have t5 := u5
  have k4 := tA.c0
  have k5 := tA.c1
  have k6 := t5.c0
  have k7 := t5.c1
  go_wp2_with fail
  clear k0 k1 k2 k3 k4 k5 k6 k7 eV u5
  refine (dm_z hA (rc.zs sc.out) hc0.out sa.out).mono ?_
  rintro e V7 ⟨A1, c1, A2, c2, rfl, r1, r2, l1, m1, l2, m2, bb⟩
  replace rc := rc.to bb
  replace tA := tA.to bb
  replace tB := tB.to bb
  replace t5 := t5.to bb
  replace tR := tR.to bb
  replace hA := hA.to bb
  replace hB := hB.to bb
  replace HB := Lib.hid (HB.out.trans (bb.mono HB.out.size))
  clear bb r2 l2 m2
  have rn : Zc V7 (.bool (decide (a / C < 0))) (.slice A1 (dig b32 (a / C).natAbs).length c1) (a / C) := ⟨A1, c1, rfl, rfl, r1, l1, m1⟩
  clear r1 l1 m1
  obtain ⟨V8, eV, u, kp, kf⟩ := pack2 tA hA.fs (.bool (decide (a / C < 0))) (.slice A1 (dig b32 (a / C).natAbs).length c1)
  have k0 := tA.c0
  have k1 := tA.c1
  have k2 := tA.f0
  have k3 := tA.f1
  replace tB := kp.two _ _ _ hneB.out tB
  replace t5 := kp.two _ _ _ (Ne.symm hne5A) t5
  replace tR := kf _ _ _ _ _ hneR.out tR
  replace hB := kp.zl hB
  replace rc := kp.zc _ _ _ rc
  replace rn := kp.zc _ _ _ rn
  replace HB := Lib.hid (kp.bel _ _ HB.out (Nat.le_refl _))
  clear tA hA kp kf
  have tA := u
  have k4 := tB.c0
  have k5 := tB.c1
  have k6 := t5.c0
  have k7 := t5.c1
  go_wp2_with fail
  clear k0 k1 k2 k3 k4 k5 k6 k7 eV u
  refine (dm_z hB (rc.zs sc.out) hc0.out sb.out).mono ?_
  rintro e V9 ⟨A3, c3, A4, c4, rfl, r1, r2, l1, m1, l2, m2, bb⟩
  replace rn := rn.to bb
  replace tA := tA.to bb
  replace tB := tB.to bb
  replace tR := tR.to bb
  replace hB := hB.to bb
  replace HB := Lib.hid (HB.out.trans (bb.mono HB.out.size))
  clear bb r2 l2 m2 rc t5
  have rd : Zc V9 (.bool (decide (b / C < 0))) (.slice A3 (dig b32 (b / C).natAbs).length c3) (b / C) := ⟨A3, c3, rfl, rfl, r1, l1, m1⟩
  clear r1 l1 m1
  obtain ⟨V10, eV, u, kp, kf⟩ := pack2 tB hB.fs (.bool (decide (b / C < 0))) (.slice A3 (dig b32 (b / C).natAbs).length c3)
  have k0 := tB.c0
  have k1 := tB.c1
  have k2 := tB.f0
  have k3 := tB.f1
  replace tA := kp.two _ _ _ (Ne.symm hneB.out) tA
  replace tR := kf _ _ _ _ _ hneRB.out tR
  replace rn := kp.zc _ _ _ rn
  replace rd := kp.zc _ _ _ rd
  replace HB := Lib.hid (kp.bel _ _ HB.out (Nat.le_succ _))
  clear tB hB kp kf
  have tB := u
  have k4 := tB.c0
  have k5 := tB.c1
  go_wp2_with fail
  clear k0 k1 k2 k3 k4 k5 eV u
  refine (isOne_v (rd.zs sd.out) hd1.out).mono ?_
  rintro e V11 ⟨rfl, bb⟩
  replace rn := rn.to bb
  replace rd := rd.to bb
  replace tA := tA.to bb
  replace tB := tB.to bb
  replace tR := tR.to bb
  replace HB := Lib.hid (HB.out.trans (bb.mono HB.out.size))
  clear bb
  have RN := Lib.hid rn
  have RD := Lib.hid rd
  clear rn rd
  obtain ⟨V12, eV, u, kp⟩ := pack4 tR Fq.nil (.bool (decide (a / C < 0))) (.slice A1 (dig b32 (a / C).natAbs).length c1) (.bool (decide (b / C < 0))) (.slice A3 (dig b32 (b / C).natAbs).length c3)
  have k0 := tA.c0
  have k1 := tA.c1
  have k2 := tB.c0
  have k3 := tB.c1
  obtain ⟨v0, v1, v2, v3, v4, v5, v6, v7, _⟩ := tR
  have EV := Lib.hid eV
  have KP := Lib.hid kp
  have U := Lib.hid u
  clear eV kp u tA tB
  go_wp2
  rw [EV.out]
  refine bodyPost_ret (v := .agg #[.bool (decide (a / C < 0)), .slice A1 (dig b32 (a / C).natAbs).length c1, .bool (decide (b / C < 0)), .slice A3 (dig b32 (b / C).natAbs).length c3]) (by simp [results, Tryz.f28, go_sem, U.out.c0, U.out.c1, U.out.c2, U.out.c3]) rfl ?_
  exact ⟨_, _, _, _, rfl, ⟨by rw [<- hn.out]; exact KP.out.zc _ _ _ RN.out, by rw [if_neg (by have h1 := hdd.out; have h2 := of_decide_eq_false hd1.out; omega), <- hdd.out]; exact KP.out.zc _ _ _ RD.out⟩, KP.out.bel _ _ HB.out (by omega)⟩

theorem quot_p1 {w : World} {x1 y1 x2 y2 : Value} {a b : Int} (ha : Zl w x1 y1 a) (hb : Zl w x2 y2 b) (hb0 : b ≠ 0) (hb1 : b ≠ 1) (sa : Sg a) (sb : Sg b) (hneg : 0 < b) (hone : (Rat.divInt a b).den = 1) :
    Calls Tryz.prog 28 #[.agg #[x1, y1], .agg #[x2, y2]] w (QR w (Rat.divInt a b)) := by
  have hgn : Int.gcd a b ≠ 0 := fun h => hb0 (Int.gcd_eq_zero_iff.1 h).2
  have hgl := gcd_le a b hb0
  have hn := Lib.hid (cmn_num a b hb0)
  have hdd := Lib.hid (cmn_den a b hb0)
  have hc0 := Lib.hid (cmn_ne a b hb0)
  have sc : Hid (Sg (cmn a b)) := by
    show Sg _
    unfold Sg cmn at *
    split <;> omega
  have sg : Hid (Sg (Int.gcd a b : Nat)) := by
    show Sg _
    unfold Sg at *
    omega
  have sd := Lib.hid (sb.den (a := a) hb0)
  rw [<- hdd.out] at sd
  have h1 : Hid (decide (b = 1) = false) := decide_eq_false hb1
  have hs : Hid (sgn b = 1) := by show _ = _; unfold sgn; rw [if_neg hb0, if_neg (by omega)]
  have hd1 : Hid (decide (b / cmn a b = 1) = true) := by
    show _ = _
    rw [hdd.out]
    exact decide_eq_true (by rw [hone]; rfl)
  have hcm : (Int.gcd a b : Int) = cmn a b := by unfold cmn; rw [if_neg (by omega)]
  obtain ⟨G, eG⟩ : ∃ G : Int, (Int.gcd a b : Int) = G := ⟨_, rfl⟩
  rw [eG] at sg hcm
  rw [<- hcm] at hn hdd hc0 sc sd hd1
  have EG := Lib.hid eG
  clear eG hgn hgl hcm
  obtain ⟨W0, hW0⟩ : ∃ W0, W0 = ((w.alloc (.cells #[x1, y1] 24)).alloc (.cells #[x2, y2] 24)).alloc (.cells #[.bool false, .slice none 0 0, .bool false, .slice none 0 0] 26) := ⟨_, rfl⟩
  have hbw : Below w.heap.size w W0 := by rw [hW0]; exact (((Below.refl _ _).alloc (Nat.le_refl _) _).alloc (by simp) _).alloc (by simp; omega) _
  have tA : Two W0 w.heap.size x1 y1 := by rw [hW0]; exact ((Two.new w _ _ _).alloc _).alloc _
  have tB : Two W0 (w.heap.size + 1) x2 y2 := by
    have h := Two.new (w.alloc (.cells #[x1, y1] 24)) x2 y2 24
    rw [World.size_alloc] at h
    rw [hW0]; exact h.alloc _
  have tR : Four W0 (w.heap.size + 1 + 1) (.bool false) (.slice none 0 0) (.bool false) (.slice none 0 0) := by
    have h := Four.new ((w.alloc (.cells #[x1, y1] 24)).alloc (.cells #[x2, y2] 24)) (.bool false) (.slice none 0 0) (.bool false) (.slice none 0 0) 26
    rw [World.size_alloc, World.size_alloc] at h
    rw [hW0]; exact h
  have HW0 := Lib.hid hW0
  have hA := ha.to hbw
  have hB := hb.to hbw
  have HB := Lib.hid hbw
  have hneB : Hid (w.heap.size + 1 ≠ w.heap.size) := by show _ ≠ _; omega
  have hneR : Hid (w.heap.size + 1 + 1 ≠ w.heap.size) := by show _ ≠ _; omega
  have hneRB : Hid (w.heap.size + 1 + 1 ≠ w.heap.size + 1) := by show _ ≠ _; omega
  replace sa := Lib.hid sa
  replace sb := Lib.hid sb
  clear ha hb hb0 hb1 hneg hone hW0 hbw
  go_enter Tryz.func28, Tryz.ntmps28
  go_wp2_with fail
  rw [<- HW0.out]
  have k0 := tB.c0
  have k1 := tB.c1
  go_wp2_with fail
  refine (isOne_v hB h1.out).mono ?_
  rintro e V1 ⟨rfl, bb⟩
  clear k0 k1
  replace tA := tA.to bb
  replace tB := tB.to bb
  replace tR := tR.to bb
  replace hA := hA.to bb
  replace hB := hB.to bb
  replace HB := Lib.hid (HB.out.trans (bb.mono HB.out.size))
  clear bb
  have k0 := tA.c0
  have k1 := tA.c1
  have k2 := tB.c0
  have k3 := tB.c1
  go_wp2_with fail
  refine (gcd_v hA hB sa.out sb.out EG.out).mono ?_
  rintro e V2 ⟨xg, yg, rfl, rg, bb⟩
  clear k0 k1 k2 k3
  replace tA := tA.to bb
  replace tB := tB.to bb
  replace tR := tR.to bb
  replace hA := hA.to bb
  replace hB := hB.to bb
  replace HB := Lib.hid (HB.out.trans (bb.mono HB.out.size))
  clear bb
  have hg5w : Hid (w.heap.size <= V2.heap.size) := HB.out.size
  have rg2 := rg
  obtain ⟨Ag, cg, rfl, rfl, -⟩ := rg2
  have bb := one4_new V2 (.cells #[.bool (decide (G < 0)), .slice Ag (dig b32 G.natAbs).length cg] 24)
  have t5 := Two.new V2 (.bool (decide (G < 0))) (.slice Ag (dig b32 G.natAbs).length cg) 24
  replace rg := rg.to bb
  have hne5A := Nat.ne_of_lt tA.lt
  have hne5B := Nat.ne_of_lt tB.lt
  have hne5R := Nat.ne_of_lt tR.lt
  replace tA := tA.to bb
  replace tB := tB.to bb
  replace tR := tR.to bb
  replace hA := hA.to bb
  replace hB := hB.to bb
  replace HB := Lib.hid (HB.out.trans (bb.mono HB.out.size))
  clear bb
  have k0 := tB.c0
  have k1 := tB.c1
  go_wp2_with fail
  obtain ⟨V3, hV3⟩ : ∃ V, V = V2.alloc (.cells #[.bool (decide (G < 0)), .slice Ag (dig b32 G.natAbs).length cg] 24) := ⟨_, rfl⟩
  obtain ⟨g5, hg5⟩ : ∃ g, g = V2.heap.size := ⟨_, rfl⟩
  rw [<- hV3, <- hg5]
  rw [<- hV3] at rg tA tB tR hA hB HB
  rw [<- hV3, <- hg5] at t5
  rw [<- hg5] at hne5A hne5B hne5R hg5w
  clear k0 k1
  clear hV3 hg5
  refine (sign_v hB hs.out).mono ?_
  rintro e V4 ⟨rfl, bb⟩
  replace rg := rg.to bb
  replace tA := tA.to bb
  replace tB := tB.to bb
  replace t5 := t5.to bb
  replace tR := tR.to bb
  replace hA := hA.to bb
  replace hB := hB.to bb
  replace HB := Lib.hid (HB.out.trans (bb.mono HB.out.size))
  clear bb
  have rc := rg
  clear rg
  have k4 := tA.c0
  have k5 := tA.c1
  have k6 := t5.c0
  have k7 := t5.c1
  go_wp2_with fail
  clear k4 k5 k6 k7
  refine (dm_z hA (rc.zs sc.out) hc0.out sa.out).mono ?_
  rintro e V7 ⟨A1, c1, A2, c2, rfl, r1, r2, l1, m1, l2, m2, bb⟩
  replace rc := rc.to bb
  replace tA := tA.to bb
  replace tB := tB.to bb
  replace t5 := t5.to bb
  replace tR := tR.to bb
  replace hA := hA.to bb
  replace hB := hB.to bb
  replace HB := Lib.hid (HB.out.trans (bb.mono HB.out.size))
  clear bb r2 l2 m2
  have rn : Zc V7 (.bool (decide (a / G < 0))) (.slice A1 (dig b32 (a / G).natAbs).length c1) (a / G) := ⟨A1, c1, rfl, rfl, r1, l1, m1⟩
  clear r1 l1 m1
  obtain ⟨V8, eV, u, kp, kf⟩ := pack2 tA hA.fs (.bool (decide (a / G < 0))) (.slice A1 (dig b32 (a / G).natAbs).length c1)
  have k0 := tA.c0
  have k1 := tA.c1
  have k2 := tA.f0
  have k3 := tA.f1
  replace tB := kp.two _ _ _ hneB.out tB
  replace t5 := kp.two _ _ _ (Ne.symm hne5A) t5
  replace tR := kf _ _ _ _ _ hneR.out tR
  replace hB := kp.zl hB
  replace rc := kp.zc _ _ _ rc
  replace rn := kp.zc _ _ _ rn
  replace HB := Lib.hid (kp.bel _ _ HB.out (Nat.le_refl _))
  clear tA hA kp kf
  have tA := u
  have k4 := tB.c0
  have k5 := tB.c1
  have k6 := t5.c0
  have k7 := t5.c1
  go_wp2_with fail
  clear k0 k1 k2 k3 k4 k5 k6 k7 eV u
  refine (dm_z hB (rc.zs sc.out) hc0.out sb.out).mono ?_
  rintro e V9 ⟨A3, c3, A4, c4, rfl, r1, r2, l1, m1, l2, m2, bb⟩
  replace rn := rn.to bb
  replace tA := tA.to bb
  replace tB := tB.to bb
  replace tR := tR.to bb
  replace hB := hB.to bb
  replace HB := Lib.hid (HB.out.trans (bb.mono HB.out.size))
  clear bb r2 l2 m2 rc t5
  have rd : Zc V9 (.bool (decide (b / G < 0))) (.slice A3 (dig b32 (b / G).natAbs).length c3) (b / G) := ⟨A3, c3, rfl, rfl, r1, l1, m1⟩
  clear r1 l1 m1
  obtain ⟨V10, eV, u, kp, kf⟩ := pack2 tB hB.fs (.bool (decide (b / G < 0))) (.slice A3 (dig b32 (b / G).natAbs).length c3)
  have k0 := tB.c0
  have k1 := tB.c1
  have k2 := tB.f0
  have k3 := tB.f1
  replace tA := kp.two _ _ _ (Ne.symm hneB.out) tA
  replace tR := kf _ _ _ _ _ hneRB.out tR
  replace rn := kp.zc _ _ _ rn
  replace rd := kp.zc _ _ _ rd
  replace HB := Lib.hid (kp.bel _ _ HB.out (Nat.le_succ _))
  clear tB hB kp kf
  have tB := u
  have k4 := tB.c0
  have k5 := tB.c1
  go_wp2_with fail
  clear k0 k1 k2 k3 k4 k5 eV u
  refine (isOne_v (rd.zs sd.out) hd1.out).mono ?_
  rintro e V11 ⟨rfl, bb⟩
  replace rn := rn.to bb
  replace rd := rd.to bb
  replace tA := tA.to bb
  replace tB := tB.to bb
  replace tR := tR.to bb
  replace HB := Lib.hid (HB.out.trans (bb.mono HB.out.size))
  clear bb
  have RN := Lib.hid rn
  have RD := Lib.hid rd
  clear rn rd
  obtain ⟨V12, eV, u, kp⟩ := pack4 tR Fq.nil (.bool (decide (a / G < 0))) (.slice A1 (dig b32 (a / G).natAbs).length c1) (.bool false) (.slice none 0 0)
  have k0 := tA.c0
  have k1 := tA.c1
  obtain ⟨v0, v1, v2, v3, v4, v5, v6, v7, _⟩ := tR
  have EV := Lib.hid eV
  have KP := Lib.hid kp
  have U := Lib.hid u
  clear eV kp u tA tB
  go_wp2
  rw [EV.out]
  refine bodyPost_ret (v := .agg #[.bool (decide (a / G < 0)), .slice A1 (dig b32 (a / G).natAbs).length c1, .bool false, .slice none 0 0]) (by simp [results, Tryz.f28, go_sem, U.out.c0, U.out.c1, U.out.c2, U.out.c3]) rfl ?_
  exact ⟨_, _, _, _, rfl, ⟨by rw [<- hn.out]; exact KP.out.zc _ _ _ RN.out, by rw [if_pos (by have h1 := hdd.out; have h2 := of_decide_eq_true hd1.out; omega)]; exact Zc.zero V12⟩, KP.out.bel _ _ HB.out (by omega)⟩

theorem quot_p0 {w : World} {x1 y1 x2 y2 : Value} {a b : Int} (ha : Zl w x1 y1 a) (hb : Zl w x2 y2 b) (hb0 : b ≠ 0) (hb1 : b ≠ 1) (sa : Sg a) (sb : Sg b) (hneg : 0 < b) (hone : (Rat.divInt a b).den ≠ 1) :
    Calls Tryz.prog 28 #[.agg #[x1, y1], .agg #[x2, y2]] w (QR w (Rat.divInt a b)) := by
  have hgn : Int.gcd a b ≠ 0 := fun h => hb0 (Int.gcd_eq_zero_iff.1 h).2
  have hgl := gcd_le a b hb0
  have hn := Lib.hid (cmn_num a b hb0)
  have hdd := Lib.hid (cmn_den a b hb0)
  have hc0 := Lib.hid (cmn_ne a b hb0)
  have sc : Hid (Sg (cmn a b)) := by
    show Sg _
    unfold Sg cmn at *
    split <;> omega
  have sg : Hid (Sg (Int.gcd a b : Nat)) := by
    show Sg _
    unfold Sg at *
    omega
  have sd := Lib.hid (sb.den (a := a) hb0)
  rw [<- hdd.out] at sd
  have h1 : Hid (decide (b = 1) = false) := decide_eq_false hb1
  have hs : Hid (sgn b = 1) := by show _ = _; unfold sgn; rw [if_neg hb0, if_neg (by omega)]
  have hd1 : Hid (decide (b / cmn a b = 1) = false) := by
    show _ = _
    rw [hdd.out]
    exact decide_eq_false (by omega)
  have hcm : (Int.gcd a b : Int) = cmn a b := by unfold cmn; rw [if_neg (by omega)]
  obtain ⟨G, eG⟩ : ∃ G : Int, (Int.gcd a b : Int) = G := ⟨_, rfl⟩
  rw [eG] at sg hcm
  rw [<- hcm] at hn hdd hc0 sc sd hd1
  have EG := Lib.hid eG
  clear eG hgn hgl hcm
  obtain ⟨W0, hW0⟩ : ∃ W0, W0 = ((w.alloc (.cells #[x1, y1] 24)).alloc (.cells #[x2, y2] 24)).alloc (.cells #[.bool false, .slice none 0 0, .bool false, .slice none 0 0] 26) := ⟨_, rfl⟩
  have hbw : Below w.heap.size w W0 := by rw [hW0]; exact (((Below.refl _ _).alloc (Nat.le_refl _) _).alloc (by simp) _).alloc (by simp; omega) _
  have tA : Two W0 w.heap.size x1 y1 := by rw [hW0]; exact ((Two.new w _ _ _).alloc _).alloc _
  have tB : Two W0 (w.heap.size + 1) x2 y2 := by
    have h := Two.new (w.alloc (.cells #[x1, y1] 24)) x2 y2 24
    rw [World.size_alloc] at h
    rw [hW0]; exact h.alloc _
  have tR : Four W0 (w.heap.size + 1 + 1) (.bool false) (.slice none 0 0) (.bool false) (.slice none 0 0) := by
    have h := Four.new ((w.alloc (.cells #[x1, y1] 24)).alloc (.cells #[x2, y2] 24)) (.bool false) (.slice none 0 0) (.bool false) (.slice none 0 0) 26
    rw [World.size_alloc, World.size_alloc] at h
    rw [hW0]; exact h
  have HW0 := Lib.hid hW0
  have hA := ha.to hbw
  have hB := hb.to hbw
  have HB := Lib.hid hbw
  have hneB : Hid (w.heap.size + 1 ≠ w.heap.size) := by show _ ≠ _; omega
  have hneR : Hid (w.heap.size + 1 + 1 ≠ w.heap.size) := by show _ ≠ _; omega
  have hneRB : Hid (w.heap.size + 1 + 1 ≠ w.heap.size + 1) := by show _ ≠ _; omega
  replace sa := Lib.hid sa
  replace sb := Lib.hid sb
  clear ha hb hb0 hb1 hneg hone hW0 hbw
  go_enter Tryz.func28, Tryz.ntmps28
  go_wp2_with fail
  rw [<- HW0.out]
  have k0 := tB.c0
  have k1 := tB.c1
  go_wp2_with fail
  refine (isOne_v hB h1.out).mono ?_
  rintro e V1 ⟨rfl, bb⟩
  clear k0 k1
  replace tA := tA.to bb
  replace tB := tB.to bb
  replace tR := tR.to bb
  replace hA := hA.to bb
  replace hB := hB.to bb
  replace HB := Lib.hid (HB.out.trans (bb.mono HB.out.size))
  clear bb
  have k0 := tA.c0
  have k1 := tA.c1
  have k2 := tB.c0
  have k3 := tB.c1
  go_wp2_with fail
  refine (gcd_v hA hB sa.out sb.out EG.out).mono ?_
  rintro e V2 ⟨xg, yg, rfl, rg, bb⟩
  clear k0 k1 k2 k3
  replace tA := tA.to bb
  replace tB := tB.to bb
  replace tR := tR.to bb
  replace hA := hA.to bb
  replace hB := hB.to bb
  replace HB := Lib.hid (HB.out.trans (bb.mono HB.out.size))
  clear bb
  have hg5w : Hid (w.heap.size <= V2.heap.size) := HB.out.size
  have rg2 := rg
  obtain ⟨Ag, cg, rfl, rfl, -⟩ := rg2
  have bb := one4_new V2 (.cells #[.bool (decide (G < 0)), .slice Ag (dig b32 G.natAbs).length cg] 24)
  have t5 := Two.new V2 (.bool (decide (G < 0))) (.slice Ag (dig b32 G.natAbs).length cg) 24
  replace rg := rg.to bb
  have hne5A := Nat.ne_of_lt tA.lt
  have hne5B := Nat.ne_of_lt tB.lt
  have hne5R := Nat.ne_of_lt tR.lt
  replace tA := tA.to bb
  replace tB := tB.to bb
  replace tR := tR.to bb
  replace hA := hA.to bb
  replace hB := hB.to bb
  replace HB := Lib.hid (HB.out.trans (bb.mono HB.out.size))
  clear bb
  have k0 := tB.c0
  have k1 := tB.c1
  go_wp2_with fail
  obtain ⟨V3, hV3⟩ : ∃ V, V = V2.alloc (.cells #[.bool (decide (G < 0)), .slice Ag (dig b32 G.natAbs).length cg] 24) := ⟨_, rfl⟩
  obtain ⟨g5, hg5⟩ : ∃ g, g = V2.heap.size := ⟨_, rfl⟩
  rw [<- hV3, <- hg5]
  rw [<- hV3] at rg tA tB tR hA hB HB
  rw [<- hV3, <- hg5] at t5
  rw [<- hg5] at hne5A hne5B hne5R hg5w
  clear k0 k1
  clear hV3 hg5
  refine (sign_v hB hs.out).mono ?_
  rintro e V4 ⟨rfl, bb⟩
  replace rg := rg.to bb
  replace tA := tA.to bb
  replace tB := tB.to bb
  replace t5 := t5.to bb
  replace tR := tR.to bb
  replace hA := hA.to bb
  replace hB := hB.to bb
  replace HB := Lib.hid (HB.out.trans (bb.mono HB.out.size))
  clear bb
  have rc := rg
  clear rg
  have k4 := tA.c0
  have k5 := tA.c1
  have k6 := t5.c0
  have k7 := t5.c1
  go_wp2_with fail
  clear k4 k5 k6 k7
  refine (dm_z hA (rc.zs sc.out) hc0.out sa.out).mono ?_
  rintro e V7 ⟨A1, c1, A2, c2, rfl, r1, r2, l1, m1, l2, m2, bb⟩
  replace rc := rc.to bb
  replace tA := tA.to bb
  replace tB := tB.to bb
  replace t5 := t5.to bb
  replace tR := tR.to bb
  replace hA := hA.to bb
  replace hB := hB.to bb
  replace HB := Lib.hid (HB.out.trans (bb.mono HB.out.size))
  clear bb r2 l2 m2
  have rn : Zc V7 (.bool (decide (a / G < 0))) (.slice A1 (dig b32 (a / G).natAbs).length c1) (a / G) := ⟨A1, c1, rfl, rfl, r1, l1, m1⟩
  clear r1 l1 m1
  obtain ⟨V8, eV, u, kp, kf⟩ := pack2 tA hA.fs (.bool (decide (a / G < 0))) (.slice A1 (dig b32 (a / G).natAbs).length c1)
  have k0 := tA.c0
  have k1 := tA.c1
  have k2 := tA.f0
  have k3 := tA.f1
  replace tB := kp.two _ _ _ hneB.out tB
  replace t5 := kp.two _ _ _ (Ne.symm hne5A) t5
  replace tR := kf _ _ _ _ _ hneR.out tR
  replace hB := kp.zl hB
  replace rc := kp.zc _ _ _ rc
  replace rn := kp.zc _ _ _ rn
  replace HB := Lib.hid (kp.bel _ _ HB.out (Nat.le_refl _))
  clear tA hA kp kf
  have tA := u
  have k4 := tB.c0
  have k5 := tB.c1
  have k6 := t5.c0
  have k7 := t5.c1
  go_wp2_with fail
  clear k0 k1 k2 k3 k4 k5 k6 k7 eV u
  refine (dm_z hB (rc.zs sc.out) hc0.out sb.out).mono ?_
  rintro e V9 ⟨A3, c3, A4, c4, rfl, r1, r2, l1, m1, l2, m2, bb⟩
  replace rn := rn.to bb
  replace tA := tA.to bb
  replace tB := tB.to bb
  replace tR := tR.to bb
  replace hB := hB.to bb
  replace HB := Lib.hid (HB.out.trans (bb.mono HB.out.size))
  clear bb r2 l2 m2 rc t5
  have rd : Zc V9 (.bool (decide (b / G < 0))) (.slice A3 (dig b32 (b / G).natAbs).length c3) (b / G) := ⟨A3, c3, rfl, rfl, r1, l1, m1⟩
  clear r1 l1 m1
  obtain ⟨V10, eV, u, kp, kf⟩ := pack2 tB hB.fs (.bool (decide (b / G < 0))) (.slice A3 (dig b32 (b / G).natAbs).length c3)
  have k0 := tB.c0
  have k1 := tB.c1
  have k2 := tB.f0
  have k3 := tB.f1
  replace tA := kp.two _ _ _ (Ne.symm hneB.out) tA
  replace tR := kf _ _ _ _ _ hneRB.out tR
  replace rn := kp.zc _ _ _ rn
  replace rd := kp.zc _ _ _ rd
  replace HB := Lib.hid (kp.bel _ _ HB.out (Nat.le_succ _))
  clear tB hB kp kf
  have tB := u
  have k4 := tB.c0
  have k5 := tB.c1
  go_wp2_with fail
  clear k0 k1 k2 k3 k4 k5 eV u
  refine (isOne_v (rd.zs sd.out) hd1.out).mono ?_
  rintro e V11 ⟨rfl, bb⟩
  replace rn := rn.to bb
  replace rd := rd.to bb
  replace tA := tA.to bb
  replace tB := tB.to bb
  replace tR := tR.to bb
  replace HB := Lib.hid (HB.out.trans (bb.mono HB.out.size))
  clear bb
  have RN := Lib.hid rn
  have RD := Lib.hid rd
  clear rn rd
  obtain ⟨V12, eV, u, kp⟩ := pack4 tR Fq.nil (.bool (decide (a / G < 0))) (.slice A1 (dig b32 (a / G).natAbs).length c1) (.bool (decide (b / G < 0))) (.slice A3 (dig b32 (b / G).natAbs).length c3)
  have k0 := tA.c0
  have k1 := tA.c1
  have k2 := tB.c0
  have k3 := tB.c1
  obtain ⟨v0, v1, v2, v3, v4, v5, v6, v7, _⟩ := tR
  have EV := Lib.hid eV
  have KP := Lib.hid kp
  have U := Lib.hid u
  clear eV kp u tA tB
  go_wp2
  rw [EV.out]
  refine bodyPost_ret (v := .agg #[.bool (decide (a / G < 0)), .slice A1 (dig b32 (a / G).natAbs).length c1, .bool (decide (b / G < 0)), .slice A3 (dig b32 (b / G).natAbs).length c3]) (by simp [results, Tryz.f28, go_sem, U.out.c0, U.out.c1, U.out.c2, U.out.c3]) rfl ?_
  exact ⟨_, _, _, _, rfl, ⟨by rw [<- hn.out]; exact KP.out.zc _ _ _ RN.out, by rw [if_neg (by have h1 := hdd.out; have h2 := of_decide_eq_false hd1.out; omega), <- hdd.out]; exact KP.out.zc _ _ _ RD.out⟩, KP.out.bel _ _ HB.out (by omega)⟩

end Go.Proofs.YtgkfbhdaheoecaaGreat

namespace Go.Proofs.YtgkfbhdaheoecaaGreat
open Go.RowKit Go.Shelf

theorem Qc.fq {W : World} {a b c d : Value} {r : Rat} (h : Qc W a b c d r) : Fq a b c d := ⟨h.1.fs, h.2.fs⟩
theorem Qc.k4 {g : Nat} {w V : World} {a b c d : Value} {r : Rat} (h : Qc w a b c d r) (kp : Kept4 g w V) : Qc V a b c d r := ⟨kp.zc _ _ _ h.1, kp.zc _ _ _ h.2⟩

theorem quot_one {w : World} {x1 y1 x2 y2 : Value} {a b : Int} (ha : Zl w x1 y1 a) (hb : Zl w x2 y2 b) (hb1 : b = 1) :
    Calls Tryz.prog 28 #[.agg #[x1, y1], .agg #[x2, y2]] w (QR w (Rat.divInt a b)) := by
  have h1 : Hid (decide (b = 1) = true) := decide_eq_true hb1
  rw [hb1, divInt_one]
  obtain ⟨W0, hW0⟩ : ∃ W0, W0 = ((w.alloc (.cells #[x1, y1] 24)).alloc (.cells #[x2, y2] 24)).alloc (.cells #[.bool false, .slice none 0 0, .bool false, .slice none 0 0] 26) := ⟨_, rfl⟩
  have hbw : Below w.heap.size w W0 := by rw [hW0]; exact (((Below.refl _ _).alloc (Nat.le_refl _) _).alloc (by simp) _).alloc (by simp; omega) _
  have tA : Two W0 w.heap.size x1 y1 := by rw [hW0]; exact ((Two.new w _ _ _).alloc _).alloc _
  have tB : Two W0 (w.heap.size + 1) x2 y2 := by
    have h := Two.new (w.alloc (.cells #[x1, y1] 24)) x2 y2 24
    rw [World.size_alloc] at h
    rw [hW0]; exact h.alloc _
  have tR : Four W0 (w.heap.size + 1 + 1) (.bool false) (.slice none 0 0) (.bool false) (.slice none 0 0) := by
    have h := Four.new ((w.alloc (.cells #[x1, y1] 24)).alloc (.cells #[x2, y2] 24)) (.bool false) (.slice none 0 0) (.bool false) (.slice none 0 0) 26
    rw [World.size_alloc, World.size_alloc] at h
    rw [hW0]; exact h
  have HW0 := Lib.hid hW0
  have hA := ha.to hbw
  have hB := hb.to hbw
  have HB := Lib.hid hbw
  clear ha hb hb1 hW0 hbw
  go_enter Tryz.func28, Tryz.ntmps28
  go_wp2_with fail
  rw [<- HW0.out]
  have k0 := tB.c0
  have k1 := tB.c1
  go_wp2_with fail
  refine (isOne_v hB h1.out).mono ?_
  rintro e V1 ⟨rfl, bb⟩
  replace tA := tA.to bb
  replace tR := tR.to bb
  replace hA := hA.to bb
  replace HB := Lib.hid (HB.out.trans (bb.mono HB.out.size))
  clear k0 k1 bb tB hB
  have k0 := tA.c0
  have k1 := tA.c1
  go_wp2_with fail
  refine (fromInteger_z hA.zi).mono ?_
  rintro e V2 ⟨a1, b1, c1, d1, rfl, rq, bb⟩
  replace tR := tR.to bb
  replace HB := Lib.hid (HB.out.trans (bb.mono HB.out.size))
  clear k0 k1 bb tA hA
  have RQ := Lib.hid rq
  obtain ⟨V3, eV, u, kp⟩ := pack4 tR Fq.nil a1 b1 c1 d1
  obtain ⟨⟨n1, A1, l1, m1, rfl, rfl⟩, ⟨n2, A2, l2, m2, rfl, rfl⟩⟩ := rq.fq
  obtain ⟨v0, v1, v2, v3, v4, v5, v6, v7, _⟩ := tR
  have EV := Lib.hid eV
  have KP := Lib.hid kp
  have U := Lib.hid u
  clear eV kp u rq
  go_wp2
  rw [EV.out]
  refine bodyPost_ret (v := .agg #[.bool n1, .slice A1 l1 m1, .bool n2, .slice A2 l2 m2]) (by simp [results, Tryz.f28, go_sem, U.out.c0, U.out.c1, U.out.c2, U.out.c3]) rfl ?_
  exact ⟨_, _, _, _, rfl, RQ.out.k4 KP.out, KP.out.bel _ _ HB.out (by omega)⟩

theorem quotient_z {w : World} {x1 y1 x2 y2 : Value} {a b : Int} (ha : Zl w x1 y1 a) (hb : Zl w x2 y2 b) (hb0 : b ≠ 0) (sa : Sg a) (sb : Sg b) :
    Calls Tryz.prog 28 #[.agg #[x1, y1], .agg #[x2, y2]] w (QR w (Rat.divInt a b)) := by
  by_cases h1 : b = 1
  · exact quot_one ha hb h1
  · rcases Int.lt_or_le b 0 with hn | hp
    · by_cases hd : (Rat.divInt a b).den = 1
      · exact quot_n1 ha hb hb0 h1 sa sb hn hd
      · exact quot_n0 ha hb hb0 h1 sa sb hn hd
    · by_cases hd : (Rat.divInt a b).den = 1
      · exact quot_p1 ha hb hb0 h1 sa sb (by omega) hd
      · exact quot_p0 ha hb hb0 h1 sa sb (by omega) hd

theorem Sg.i64 {v : Int} (h1 : -9223372036854775808 <= v) (h2 : v <= 9223372036854775807) : Sg v := sg_lit (by omega)

theorem new_z (n d : Int) (n1 : -9223372036854775808 <= n) (n2 : n <= 9223372036854775807) (d1 : -9223372036854775808 <= d) (d2 : d <= 9223372036854775807) (hd : d ≠ 0) (w : World) :
    Calls Tryz.prog 8 #[.int .i64 n, .int .i64 d] w fun e w' => ∃ a b c f, e = .returned (.tuple #[.agg #[a, b, c, f], .int .i64 0]) /\ Qc w' a b c f (Rat.divInt n d) /\ Below w.heap.size w w' := by
  have sn := Lib.hid (Sg.i64 n1 n2)
  have sd := Lib.hid (Sg.i64 d1 d2)
  have HD := Lib.hid hd
  have hd0 : (d == 0) = false := by simpa using hd
  obtain ⟨W0, hW0⟩ : ∃ W0, W0 = w.alloc (.cells #[.bool false, .slice none 0 0, .bool false, .slice none 0 0] 26) := ⟨_, rfl⟩
  have hbw : Below w.heap.size w W0 := by rw [hW0]; exact (Below.refl _ _).alloc (Nat.le_refl _) _
  have tR : Four W0 w.heap.size (.bool false) (.slice none 0 0) (.bool false) (.slice none 0 0) := by rw [hW0]; exact Four.new w _ _ _ _ _
  have HW0 := Lib.hid hW0
  have HB := Lib.hid hbw
  have HN := Lib.hid fun W => from_z n n1 n2 W
  have HDn := Lib.hid fun W => from_z d d1 d2 W
  clear hW0 hbw hd
  go_enter Tryz.func8, Tryz.ntmps8
  go_wp2_with fail
  rw [<- HW0.out]
  refine (HN.out _).mono ?_
  rintro e V1 ⟨xn, yn, rfl, rn, bb⟩
  replace tR := tR.to bb
  replace HB := Lib.hid (HB.out.trans (bb.mono HB.out.size))
  clear bb
  go_wp2_with fail
  refine (HDn.out _).mono ?_
  rintro e V2 ⟨xd, yd, rfl, rd, bb⟩
  replace tR := tR.to bb
  replace rn := rn.to bb
  replace HB := Lib.hid (HB.out.trans (bb.mono HB.out.size))
  clear bb
  go_wp2_with fail
  refine (quotient_z (rn.zs sn.out) (rd.zs sd.out) HD.out sn.out sd.out).mono ?_
  rintro e V3 ⟨a1, b1, c1, e1, rfl, rq, bb⟩
  replace tR := tR.to bb
  replace HB := Lib.hid (HB.out.trans (bb.mono HB.out.size))
  clear bb rn rd
  have RQ := Lib.hid rq
  obtain ⟨V4, eV, u, kp⟩ := pack4 tR Fq.nil a1 b1 c1 e1
  obtain ⟨⟨m1, A1, l1, k1, rfl, rfl⟩, ⟨m2, A2, l2, k2, rfl, rfl⟩⟩ := rq.fq
  obtain ⟨v0, v1, v2, v3, v4, v5, v6, v7, _⟩ := tR
  have EV := Lib.hid eV
  have KP := Lib.hid kp
  have U := Lib.hid u
  clear eV kp u rq
  go_wp2
  rw [EV.out]
  refine bodyPost_ret (v := .tuple #[.agg #[.bool m1, .slice A1 l1 k1, .bool m2, .slice A2 l2 k2], .int .i64 0]) (by simp [results, Tryz.f8, go_sem, U.out.c0, U.out.c1, U.out.c2, U.out.c3]) rfl ?_
  exact ⟨_, _, _, _, rfl, RQ.out.k4 KP.out, KP.out.bel _ _ HB.out (Nat.le_refl _)⟩
end Go.Proofs.YtgkfbhdaheoecaaGreat

namespace Go.Proofs.YtgkfbhdaheoecaaGreat
open Go.RowKit Go.Shelf

/-- The number that numerator p over denominator q stands for: a denominator 0 counts as 1. -/
def rv (p q : Int) : Rat := if q = 0 then (p : Rat) else Rat.divInt p q

theorem sgn_zero {q : Int} : sgn q = 0 ↔ q = 0 := by unfold sgn; split <;> (try split) <;> simp_all
theorem sgn_neg {q : Int} (h : q < 0) : sgn q = -1 := by unfold sgn; rw [if_neg (by omega), if_pos h]
theorem sgn_pos {q : Int} (h : 0 < q) : sgn q = 1 := by unfold sgn; rw [if_neg (by omega), if_neg (by omega)]

theorem canonical_z {w : World} {x1 y1 x2 y2 : Value} {p q : Int} (h1 : Zl w x1 y1 p) (h2 : Zl w x2 y2 q) (sp : Sg p) (sq : Sg q) :
    Calls Tryz.prog 11 #[.agg #[x1, y1, x2, y2]] w (QR w (rv p q)) := by
  obtain ⟨W0, hW0⟩ : ∃ W0, W0 = (w.alloc (.cells #[x1, y1, x2, y2] 26)).alloc (.cells #[.bool false, .slice none 0 0, .bool false, .slice none 0 0] 26) := ⟨_, rfl⟩
  have hbw : Below w.heap.size w W0 := by rw [hW0]; exact ((Below.refl _ _).alloc (Nat.le_refl _) _).alloc (by simp) _
  have tA : Four W0 w.heap.size x1 y1 x2 y2 := by rw [hW0]; exact (Four.new w _ _ _ _ _).alloc _
  have tR : Four W0 (w.heap.size + 1) (.bool false) (.slice none 0 0) (.bool false) (.slice none 0 0) := by
    have h := Four.new (w.alloc (.cells #[x1, y1, x2, y2] 26)) (.bool false) (.slice none 0 0) (.bool false) (.slice none 0 0) 26
    rw [World.size_alloc] at h
    rw [hW0]; exact h
  have HW0 := Lib.hid hW0
  have hA := h1.to hbw
  have hB := h2.to hbw
  have HB := Lib.hid hbw
  have HSP := Lib.hid sp
  have HSQ := Lib.hid sq
  clear h1 h2 hW0 hbw sp sq
  by_cases hq : q = 0
  · have HR : Hid (rv p q = (p : Rat)) := by show _ = _; unfold rv; rw [if_pos hq]
    rw [HR.out]
    have hs : Hid (sgn q = 0) := sgn_zero.2 hq
    clear hq
    go_enter Tryz.func11, Tryz.ntmps11
    go_wp2_with fail
    rw [<- HW0.out]
    have k0 := tA.c0
    have k1 := tA.c1
    have k2 := tA.c2
    have k3 := tA.c3
    go_wp2_with fail
    refine (sign_v hB hs.out).mono ?_
    rintro e V1 ⟨rfl, bb⟩
    replace tA := tA.to bb
    replace tR := tR.to bb
    replace hA := hA.to bb
    replace HB := Lib.hid (HB.out.trans (bb.mono HB.out.size))
    clear k0 k1 k2 k3 bb hB
    have k0 := tA.c0
    have k1 := tA.c1
    go_wp2_with fail
    refine (fromInteger_z hA.zi).mono ?_
    rintro e V2 ⟨a1, b1, c1, d1, rfl, rq, bb⟩
    replace tR := tR.to bb
    replace HB := Lib.hid (HB.out.trans (bb.mono HB.out.size))
    clear k0 k1 bb tA hA
    have RQ := Lib.hid rq
    obtain ⟨V3, eV, u, kp⟩ := pack4 tR Fq.nil a1 b1 c1 d1
    obtain ⟨⟨n1, A1, l1, m1, rfl, rfl⟩, ⟨n2, A2, l2, m2, rfl, rfl⟩⟩ := rq.fq
    obtain ⟨v0, v1, v2, v3, v4, v5, v6, v7, _⟩ := tR
    have EV := Lib.hid eV
    have KP := Lib.hid kp
    have U := Lib.hid u
    clear eV kp u rq
    go_wp2
    rw [EV.out]
    refine bodyPost_ret (v := .agg #[.bool n1, .slice A1 l1 m1, .bool n2, .slice A2 l2 m2]) (by simp [results, Tryz.f11, go_sem, U.out.c0, U.out.c1, U.out.c2, U.out.c3]) rfl ?_
    exact ⟨_, _, _, _, rfl, RQ.out.k4 KP.out, KP.out.bel _ _ HB.out (by omega)⟩
  · have HR : Hid (rv p q = Rat.divInt p q) := by show _ = _; unfold rv; rw [if_neg hq]
    rw [HR.out]
    have hs : (sgn q == 0) = false := by simpa using fun h => hq (sgn_zero.1 h)
    obtain ⟨s, es⟩ : ∃ s, sgn q = s := ⟨_, rfl⟩
    rw [es] at hs
    have ES := Lib.hid es
    have HQ := Lib.hid hq
    clear es hq
    go_enter Tryz.func11, Tryz.ntmps11
    go_wp2_with fail
    rw [<- HW0.out]
    have k0 := tA.c0
    have k1 := tA.c1
    have k2 := tA.c2
    have k3 := tA.c3
    go_wp2_with fail
    refine (sign_v hB ES.out).mono ?_
    rintro e V1 ⟨rfl, bb⟩
    replace tA := tA.to bb
    replace tR := tR.to bb
    replace hA := hA.to bb
    replace hB := hB.to bb
    replace HB := Lib.hid (HB.out.trans (bb.mono HB.out.size))
    clear k0 k1 k2 k3 bb
    have k0 := tA.c0
    have k1 := tA.c1
    have k2 := tA.c2
    have k3 := tA.c3
    go_wp2_with fail
    refine (quotient_z hA hB HQ.out HSP.out HSQ.out).mono ?_
    rintro e V2 ⟨a1, b1, c1, d1, rfl, rq, bb⟩
    replace tR := tR.to bb
    replace HB := Lib.hid (HB.out.trans (bb.mono HB.out.size))
    clear k0 k1 k2 k3 bb tA hA hB
    have RQ := Lib.hid rq
    obtain ⟨V3, eV, u, kp⟩ := pack4 tR Fq.nil a1 b1 c1 d1
    obtain ⟨⟨n1, A1, l1, m1, rfl, rfl⟩, ⟨n2, A2, l2, m2, rfl, rfl⟩⟩ := rq.fq
    obtain ⟨v0, v1, v2, v3, v4, v5, v6, v7, _⟩ := tR
    have EV := Lib.hid eV
    have KP := Lib.hid kp
    have U := Lib.hid u
    clear eV kp u rq
    go_wp2
    rw [EV.out]
    refine bodyPost_ret (v := .agg #[.bool n1, .slice A1 l1 m1, .bool n2, .slice A2 l2 m2]) (by simp [results, Tryz.f11, go_sem, U.out.c0, U.out.c1, U.out.c2, U.out.c3]) rfl ?_
    exact ⟨_, _, _, _, rfl, RQ.out.k4 KP.out, KP.out.bel _ _ HB.out (by omega)⟩
end Go.Proofs.YtgkfbhdaheoecaaGreat

namespace Go.Proofs.YtgkfbhdaheoecaaGreat
open Go.RowKit Go.Shelf

end Go.Proofs.YtgkfbhdaheoecaaGreat

namespace Go.Proofs.YtgkfbhdaheoecaaGreat
open Go.RowKit Go.Shelf

theorem multiplier_c (f c : Nat) (hc : c < 4294967296) (w : World) :
    Calls Tryz.prog 103 #[.int .u32 (f : Nat), .int .u32 (c : Nat)] w fun e w' => e = .returned (.func (.func 105) #[] #[.pointer (some ⟨w.heap.size, 0, none⟩), .pointer (some ⟨w.heap.size + 1, 0, none⟩)]) /\
      w' = (w.alloc (.cells #[.int .u32 (f : Nat)] 56)).alloc (.cells #[.int .u64 (c : Nat)] 67) := by
  have g : IntKind.u64.wrap (c : Int) = (c : Int) := by rw [IntKind.wrap_u64]; omega
  go_enter Tryz.func103, Tryz.ntmps103
  go_wp2
  go_ret
  exact ⟨rfl, rfl⟩

theorem mul_carry {W : World} {B f r : Nat} (hf : f < 4294967296) (hr : r < 4294967296) (c0 : W.cell? ⟨B, 0, none⟩ = some (.int .u32 (f : Nat))) (c1 : W.cell? ⟨B + 1, 0, none⟩ = some (.int .u64 (r : Nat))) (fr : W.frozen? ⟨B + 1, 0, none⟩ = false) :
    Calls Tryz.prog 105 #[.int .u32 0, .int .u32 0, .pointer (some ⟨B, 0, none⟩), .pointer (some ⟨B + 1, 0, none⟩)] W fun e w' => e = .returned (.int .u32 (r : Nat)) /\ w' = W.setCell ⟨B + 1, 0, none⟩ (.int .u64 0) := by
  have h := multiplier1_any f 0 0 r B (B + 1) W hf (by decide) (by decide) hr c0 c1 fr
  rw [show (f * 0 + 0 + r) % 4294967296 = r from by omega, show (f * 0 + 0 + r) / 4294967296 = 0 from by omega] at h
  exact h

theorem sa_nil (f d : Nat) (hf : f < 4294967296) (hd0 : 0 < d) (hd : d < 4294967296) (w : World) :
    Calls Tryz.prog 90 #[.slice none 0 0, .int .u32 (f : Nat), .int .u32 (d : Nat)] w fun e w' => ∃ A c, e = .returned (.slice A 1 c) /\ Rd .u32 w' w'.heap.size A [d] /\ 1 <= c /\ c <= 9223372036854775807 /\ Below w.heap.size w w' := by
  obtain ⟨i0, hi, hz0, hz1, hz2⟩ := info_parts infoWord
  have HM := Lib.hid (multiplier_c f d hd w)
  obtain ⟨W1, hW1⟩ : ∃ W1, W1 = (w.alloc (.cells #[.int .u32 (f : Nat)] 56)).alloc (.cells #[.int .u64 (d : Nat)] 67) := ⟨_, rfl⟩
  have hb1 : Below w.heap.size w W1 := by rw [hW1]; exact ((Below.refl _ _).alloc (Nat.le_refl _) _).alloc (by simp) _
  have hsz : W1.heap.size = w.heap.size + 1 + 1 := by rw [hW1]; simp
  have e0 : W1.heap[w.heap.size]? = some (.cells #[.int .u32 (f : Nat)] 56 (0, 0)) := by
    rw [hW1]
    exact (Below.heap_alloc _ _ _ (by simp)).trans (World.alloc_heap_new w _)
  have e1 : W1.heap[w.heap.size + 1]? = some (.cells #[.int .u64 (d : Nat)] 67 (0, 0)) := by
    have h := World.alloc_heap_new (w.alloc (.cells #[.int .u32 (f : Nat)] 56)) (.cells #[.int .u64 (d : Nat)] 67)
    rw [World.size_alloc, <- hW1] at h
    exact h
  have c0 : W1.cell? ⟨w.heap.size, 0, none⟩ = some (.int .u32 (f : Nat)) := by simp [World.cell?, e0]
  have c1 : W1.cell? ⟨w.heap.size + 1, 0, none⟩ = some (.int .u64 (d : Nat)) := by simp [World.cell?, e1]
  have f1 : W1.frozen? ⟨w.heap.size + 1, 0, none⟩ = false := by simp [World.frozen?, e1]
  have HN := Lib.hid (mul_carry hf hd c0 c1 f1)
  obtain ⟨W2, hW2⟩ : ∃ W2, W2 = W1.setCell ⟨w.heap.size + 1, 0, none⟩ (.int .u64 0) := ⟨_, rfl⟩
  have hb2 : Below w.heap.size w W2 := by rw [hW2]; exact hb1.setCell (p := ⟨w.heap.size + 1, 0, none⟩) (Nat.le_succ _) _
  rw [<- hW2] at HN
  rw [<- hW1] at HM
  have hs2 : w.heap.size <= W2.heap.size := hb2.size
  obtain ⟨v', w3, hrun, hown', hgrow, _, _⟩ := run_append_own_at (P := Tryz.prog) (W2.alloc (.cells #[.int .u32 (d : Nat)] 56)) w.heap.size 22 22 56 i0 (.int .u32 0) 1 4
    Tryz.underlying22 hi hz0 hz1 hz2 rfl (by decide) _ 0 _ (World.ownsRow_nil _ w.heap.size 56 1) ⟨W2.heap.size, 0, none⟩ 1 1 [.int .u32 (d : Nat)] rfl (cell_one_new _ _ _) (by simp [Value.oneCell']) (by unfold maxLen; omega) (by omega) (by simp; omega)
  obtain ⟨A2, c2, rfl⟩ := own_shape hown'
  rw [Nat.zero_add] at hrun hown'
  have hb3 : Below w.heap.size w w3 := (hb2.alloc hs2 _).grown hgrow (by simp; omega) (fun j e => by simp [Value.ownBlock] at e)
  obtain ⟨l1, m1⟩ := own_caps hown'
  have hrd : Rd .u32 w3 w3.heap.size A2 [d] := Rd.of_own (by simpa [ints] using hown') (Nat.le_refl _)
  have HT := Lib.hid (trim_any A2 c2 _ [d] w3 hrd l1 m1)
  rw [show trimN [d] = 1 from by have := trimN_snoc [] d (by omega); simpa using this] at HT
  have HRUN := Lib.hid hrun
  have HRD := Lib.hid hrd
  have HB3 := Lib.hid hb3
  clear hi hz0 hz1 hz2 hW1 hb1 hsz e0 e1 c0 c1 f1 hW2 hb2 hs2 hrun hown' hgrow hb3 hrd
  go_enter Tryz.func90, Tryz.ntmps90
  go_wp2_with fail
  refine HM.out.mono ?_
  rintro e w' ⟨rfl, rfl⟩
  go_wp2
  refine wp_loop_rounds 1 ?_
  rw [rounds_succ]
  go_wp2_with fail
  refine HN.out.mono ?_
  rintro e w' ⟨rfl, rfl⟩
  go_wp2_with (at_builtin; refine wpList_append_run rfl (.tmp 27) (.tmp 30) 22 rfl (by rfl) (by rfl) HRUN.out ?_; clear HRUN)
  refine HT.out.mono ?_
  rintro e w' ⟨rfl, rfl⟩
  go_wp2
  go_ret
  exact ⟨A2, c2, rfl, HRD.out, l1, m1, HB3.out⟩

theorem cut_1 (w : World) : Calls Tryz.prog 72 #[.string ⟨#[49]⟩, .string ⟨#[45]⟩] w fun e w' => e = .returned (.tuple #[.string ⟨#[49]⟩, .bool false]) /\ w = w' := by
  have e1 : ((({ data := #[49] } : ByteArray).extract 0 1).toList == [45]) = false := by decide +kernel
  go_enter Tryz.func72, Tryz.ntmps72
  go_wp2
  go_ret2
  exact ⟨rfl, rfl⟩
theorem isDecimal_1 (w : World) : Calls Tryz.prog 73 #[.string ⟨#[49]⟩] w fun e w' => e = .returned (.bool true) /\ w = w' := by
  have e1 : ((({ data := #[49] } : ByteArray)).toList == [48]) = false := by decide +kernel
  have e2 : ((({ data := #[49] } : ByteArray)).toList == []) = false := by decide +kernel
  have e3 : ((({ data := #[49] } : ByteArray)).toList != []) = true := by decide +kernel
  go_enter Tryz.func73, Tryz.ntmps73
  go_wp2
  refine wp_loop_rounds 2 ?_
  rw [rounds_succ]
  go_wp2
  rw [rounds_succ]
  go_wp2
  go_ret
  exact ⟨rfl, rfl⟩
theorem magnitude_1 (w : World) : Calls Tryz.prog 74 #[.string ⟨#[49]⟩] w fun e w' => ∃ A c, e = .returned (.slice A 1 c) /\ Rd .u32 w' w'.heap.size A [1] /\ 1 <= c /\ c <= 9223372036854775807 /\ Below w.heap.size w w' := by
  have HS := Lib.hid (sa_nil 10 1 (by decide) (by decide) (by decide) w)
  go_enter Tryz.func74, Tryz.ntmps74
  go_wp2
  refine wp_loop_rounds 2 ?_
  rw [rounds_succ]
  go_wp2_with fail
  refine HS.out.mono ?_
  rintro e w' ⟨A, c, rfl, h1, h2, h3, h4⟩
  have H1 := Lib.hid h1
  have H4 := Lib.hid h4
  clear h1 h4
  go_wp2
  rw [rounds_succ]
  go_wp2
  go_ret
  exact ⟨A, c, rfl, H1.out, h2, h3, H4.out⟩
theorem parse_1 (w : World) : Calls Tryz.prog 47 #[.string ⟨#[49]⟩] w fun e w' => ∃ x y, e = .returned (.tuple #[.agg #[x, y], .int .i64 0]) /\ Zc w' x y 1 /\ Below w.heap.size w w' := by
  have e1 : ((({ data := #[49] } : ByteArray)).toList == [48]) = false := by decide +kernel
  obtain ⟨W0, hW0⟩ : ∃ W0, W0 = w.alloc (.cells #[.bool false, .slice none 0 0] 24) := ⟨_, rfl⟩
  have hb : Below w.heap.size w W0 := by rw [hW0]; exact (Below.refl _ _).alloc (Nat.le_refl _) _
  have tR : Two W0 w.heap.size (.bool false) (.slice none 0 0) := by rw [hW0]; exact Two.new w _ _ _
  have HW0 := Lib.hid hW0
  have HB := Lib.hid hb
  clear hW0 hb
  go_enter Tryz.func47, Tryz.ntmps47
  go_wp2_with fail
  rw [<- HW0.out]
  refine (cut_1 _).mono ?_
  rintro e w' ⟨rfl, rfl⟩
  go_wp2_with fail
  refine (isDecimal_1 _).mono ?_
  rintro e w' ⟨rfl, rfl⟩
  go_wp2_with fail
  refine (magnitude_1 _).mono ?_
  rintro e V ⟨A, c, rfl, r1, l1, m1, bb⟩
  replace tR := tR.to bb
  replace HB := Lib.hid (HB.out.trans (bb.mono HB.out.size))
  have HI := Lib.hid (integer_l false r1 (Dg.one (by decide)) l1 m1)
  obtain ⟨z, ez⟩ : ∃ z : Int, Hid (z = 1) := ⟨_, rfl⟩
  rw [show zof false (val b32 [1]) = z from by rw [ez.out]; simp [zof, val]] at HI
  clear r1 l1 m1 bb e1
  go_wp2_with fail
  refine HI.out.mono ?_
  rintro e V2 ⟨A3, c3, rfl, s1, s2, s3, bb⟩
  replace tR := tR.to bb
  replace HB := Lib.hid (HB.out.trans (bb.mono HB.out.size))
  have RZ : Hid (Zc V2 (.bool (decide (z < 0))) (.slice A3 (dig b32 z.natAbs).length c3) z) := ⟨A3, c3, rfl, rfl, s1, s2, s3⟩
  obtain ⟨V3, eV, u, kp, _⟩ := pack2 tR Fs.nil (.bool (decide (z < 0))) (.slice A3 (dig b32 z.natAbs).length c3)
  obtain ⟨v0, v1, v2, v3, _⟩ := tR
  have EV := Lib.hid eV
  have KP := Lib.hid kp
  have U := Lib.hid u
  clear eV kp u s1 s2 s3 bb HI
  go_wp2
  rw [EV.out]
  refine bodyPost_ret (v := .tuple #[.agg #[.bool (decide (z < 0)), .slice A3 (dig b32 z.natAbs).length c3], .int .i64 0]) (by simp [results, Tryz.f47, go_sem, U.out.c0, U.out.c1]) rfl ?_
  have ez2 := ez.out
  subst ez2
  exact ⟨_, _, rfl, KP.out.zc _ _ _ RZ.out, KP.out.bel _ _ HB.out (Nat.le_refl _)⟩

theorem cut_2 (w : World) : Calls Tryz.prog 72 #[.string ⟨#[50]⟩, .string ⟨#[45]⟩] w fun e w' => e = .returned (.tuple #[.string ⟨#[50]⟩, .bool false]) /\ w = w' := by
  have e1 : ((({ data := #[50] } : ByteArray).extract 0 1).toList == [45]) = false := by decide +kernel
  go_enter Tryz.func72, Tryz.ntmps72
  go_wp2
  go_ret2
  exact ⟨rfl, rfl⟩
theorem isDecimal_2 (w : World) : Calls Tryz.prog 73 #[.string ⟨#[50]⟩] w fun e w' => e = .returned (.bool true) /\ w = w' := by
  have e1 : ((({ data := #[50] } : ByteArray)).toList == [48]) = false := by decide +kernel
  have e2 : ((({ data := #[50] } : ByteArray)).toList == []) = false := by decide +kernel
  have e3 : ((({ data := #[50] } : ByteArray)).toList != []) = true := by decide +kernel
  go_enter Tryz.func73, Tryz.ntmps73
  go_wp2
  refine wp_loop_rounds 2 ?_
  rw [rounds_succ]
  go_wp2
  rw [rounds_succ]
  go_wp2
  go_ret
  exact ⟨rfl, rfl⟩
theorem magnitude_2 (w : World) : Calls Tryz.prog 74 #[.string ⟨#[50]⟩] w fun e w' => ∃ A c, e = .returned (.slice A 1 c) /\ Rd .u32 w' w'.heap.size A [2] /\ 1 <= c /\ c <= 9223372036854775807 /\ Below w.heap.size w w' := by
  have HS := Lib.hid (sa_nil 10 2 (by decide) (by decide) (by decide) w)
  go_enter Tryz.func74, Tryz.ntmps74
  go_wp2
  refine wp_loop_rounds 2 ?_
  rw [rounds_succ]
  go_wp2_with fail
  refine HS.out.mono ?_
  rintro e w' ⟨A, c, rfl, h1, h2, h3, h4⟩
  have H1 := Lib.hid h1
  have H4 := Lib.hid h4
  clear h1 h4
  go_wp2
  rw [rounds_succ]
  go_wp2
  go_ret
  exact ⟨A, c, rfl, H1.out, h2, h3, H4.out⟩
theorem parse_2 (w : World) : Calls Tryz.prog 47 #[.string ⟨#[50]⟩] w fun e w' => ∃ x y, e = .returned (.tuple #[.agg #[x, y], .int .i64 0]) /\ Zc w' x y 2 /\ Below w.heap.size w w' := by
  have e1 : ((({ data := #[50] } : ByteArray)).toList == [48]) = false := by decide +kernel
  obtain ⟨W0, hW0⟩ : ∃ W0, W0 = w.alloc (.cells #[.bool false, .slice none 0 0] 24) := ⟨_, rfl⟩
  have hb : Below w.heap.size w W0 := by rw [hW0]; exact (Below.refl _ _).alloc (Nat.le_refl _) _
  have tR : Two W0 w.heap.size (.bool false) (.slice none 0 0) := by rw [hW0]; exact Two.new w _ _ _
  have HW0 := Lib.hid hW0
  have HB := Lib.hid hb
  clear hW0 hb
  go_enter Tryz.func47, Tryz.ntmps47
  go_wp2_with fail
  rw [<- HW0.out]
  refine (cut_2 _).mono ?_
  rintro e w' ⟨rfl, rfl⟩
  go_wp2_with fail
  refine (isDecimal_2 _).mono ?_
  rintro e w' ⟨rfl, rfl⟩
  go_wp2_with fail
  refine (magnitude_2 _).mono ?_
  rintro e V ⟨A, c, rfl, r1, l1, m1, bb⟩
  replace tR := tR.to bb
  replace HB := Lib.hid (HB.out.trans (bb.mono HB.out.size))
  have HI := Lib.hid (integer_l false r1 (Dg.one (by decide)) l1 m1)
  obtain ⟨z, ez⟩ : ∃ z : Int, Hid (z = 2) := ⟨_, rfl⟩
  rw [show zof false (val b32 [2]) = z from by rw [ez.out]; simp [zof, val]] at HI
  clear r1 l1 m1 bb e1
  go_wp2_with fail
  refine HI.out.mono ?_
  rintro e V2 ⟨A3, c3, rfl, s1, s2, s3, bb⟩
  replace tR := tR.to bb
  replace HB := Lib.hid (HB.out.trans (bb.mono HB.out.size))
  have RZ : Hid (Zc V2 (.bool (decide (z < 0))) (.slice A3 (dig b32 z.natAbs).length c3) z) := ⟨A3, c3, rfl, rfl, s1, s2, s3⟩
  obtain ⟨V3, eV, u, kp, _⟩ := pack2 tR Fs.nil (.bool (decide (z < 0))) (.slice A3 (dig b32 z.natAbs).length c3)
  obtain ⟨v0, v1, v2, v3, _⟩ := tR
  have EV := Lib.hid eV
  have KP := Lib.hid kp
  have U := Lib.hid u
  clear eV kp u s1 s2 s3 bb HI
  go_wp2
  rw [EV.out]
  refine bodyPost_ret (v := .tuple #[.agg #[.bool (decide (z < 0)), .slice A3 (dig b32 z.natAbs).length c3], .int .i64 0]) (by simp [results, Tryz.f47, go_sem, U.out.c0, U.out.c1]) rfl ?_
  have ez2 := ez.out
  subst ez2
  exact ⟨_, _, rfl, KP.out.zc _ _ _ RZ.out, KP.out.bel _ _ HB.out (Nat.le_refl _)⟩

theorem cut_3 (w : World) : Calls Tryz.prog 72 #[.string ⟨#[51]⟩, .string ⟨#[45]⟩] w fun e w' => e = .returned (.tuple #[.string ⟨#[51]⟩, .bool false]) /\ w = w' := by
  have e1 : ((({ data := #[51] } : ByteArray).extract 0 1).toList == [45]) = false := by decide +kernel
  go_enter Tryz.func72, Tryz.ntmps72
  go_wp2
  go_ret2
  exact ⟨rfl, rfl⟩
theorem isDecimal_3 (w : World) : Calls Tryz.prog 73 #[.string ⟨#[51]⟩] w fun e w' => e = .returned (.bool true) /\ w = w' := by
  have e1 : ((({ data := #[51] } : ByteArray)).toList == [48]) = false := by decide +kernel
  have e2 : ((({ data := #[51] } : ByteArray)).toList == []) = false := by decide +kernel
  have e3 : ((({ data := #[51] } : ByteArray)).toList != []) = true := by decide +kernel
  go_enter Tryz.func73, Tryz.ntmps73
  go_wp2
  refine wp_loop_rounds 2 ?_
  rw [rounds_succ]
  go_wp2
  rw [rounds_succ]
  go_wp2
  go_ret
  exact ⟨rfl, rfl⟩
theorem magnitude_3 (w : World) : Calls Tryz.prog 74 #[.string ⟨#[51]⟩] w fun e w' => ∃ A c, e = .returned (.slice A 1 c) /\ Rd .u32 w' w'.heap.size A [3] /\ 1 <= c /\ c <= 9223372036854775807 /\ Below w.heap.size w w' := by
  have HS := Lib.hid (sa_nil 10 3 (by decide) (by decide) (by decide) w)
  go_enter Tryz.func74, Tryz.ntmps74
  go_wp2
  refine wp_loop_rounds 2 ?_
  rw [rounds_succ]
  go_wp2_with fail
  refine HS.out.mono ?_
  rintro e w' ⟨A, c, rfl, h1, h2, h3, h4⟩
  have H1 := Lib.hid h1
  have H4 := Lib.hid h4
  clear h1 h4
  go_wp2
  rw [rounds_succ]
  go_wp2
  go_ret
  exact ⟨A, c, rfl, H1.out, h2, h3, H4.out⟩
theorem parse_3 (w : World) : Calls Tryz.prog 47 #[.string ⟨#[51]⟩] w fun e w' => ∃ x y, e = .returned (.tuple #[.agg #[x, y], .int .i64 0]) /\ Zc w' x y 3 /\ Below w.heap.size w w' := by
  have e1 : ((({ data := #[51] } : ByteArray)).toList == [48]) = false := by decide +kernel
  obtain ⟨W0, hW0⟩ : ∃ W0, W0 = w.alloc (.cells #[.bool false, .slice none 0 0] 24) := ⟨_, rfl⟩
  have hb : Below w.heap.size w W0 := by rw [hW0]; exact (Below.refl _ _).alloc (Nat.le_refl _) _
  have tR : Two W0 w.heap.size (.bool false) (.slice none 0 0) := by rw [hW0]; exact Two.new w _ _ _
  have HW0 := Lib.hid hW0
  have HB := Lib.hid hb
  clear hW0 hb
  go_enter Tryz.func47, Tryz.ntmps47
  go_wp2_with fail
  rw [<- HW0.out]
  refine (cut_3 _).mono ?_
  rintro e w' ⟨rfl, rfl⟩
  go_wp2_with fail
  refine (isDecimal_3 _).mono ?_
  rintro e w' ⟨rfl, rfl⟩
  go_wp2_with fail
  refine (magnitude_3 _).mono ?_
  rintro e V ⟨A, c, rfl, r1, l1, m1, bb⟩
  replace tR := tR.to bb
  replace HB := Lib.hid (HB.out.trans (bb.mono HB.out.size))
  have HI := Lib.hid (integer_l false r1 (Dg.one (by decide)) l1 m1)
  obtain ⟨z, ez⟩ : ∃ z : Int, Hid (z = 3) := ⟨_, rfl⟩
  rw [show zof false (val b32 [3]) = z from by rw [ez.out]; simp [zof, val]] at HI
  clear r1 l1 m1 bb e1
  go_wp2_with fail
  refine HI.out.mono ?_
  rintro e V2 ⟨A3, c3, rfl, s1, s2, s3, bb⟩
  replace tR := tR.to bb
  replace HB := Lib.hid (HB.out.trans (bb.mono HB.out.size))
  have RZ : Hid (Zc V2 (.bool (decide (z < 0))) (.slice A3 (dig b32 z.natAbs).length c3) z) := ⟨A3, c3, rfl, rfl, s1, s2, s3⟩
  obtain ⟨V3, eV, u, kp, _⟩ := pack2 tR Fs.nil (.bool (decide (z < 0))) (.slice A3 (dig b32 z.natAbs).length c3)
  obtain ⟨v0, v1, v2, v3, _⟩ := tR
  have EV := Lib.hid eV
  have KP := Lib.hid kp
  have U := Lib.hid u
  clear eV kp u s1 s2 s3 bb HI
  go_wp2
  rw [EV.out]
  refine bodyPost_ret (v := .tuple #[.agg #[.bool (decide (z < 0)), .slice A3 (dig b32 z.natAbs).length c3], .int .i64 0]) (by simp [results, Tryz.f47, go_sem, U.out.c0, U.out.c1]) rfl ?_
  have ez2 := ez.out
  subst ez2
  exact ⟨_, _, rfl, KP.out.zc _ _ _ RZ.out, KP.out.bel _ _ HB.out (Nat.le_refl _)⟩

theorem cut_4 (w : World) : Calls Tryz.prog 72 #[.string ⟨#[52]⟩, .string ⟨#[45]⟩] w fun e w' => e = .returned (.tuple #[.string ⟨#[52]⟩, .bool false]) /\ w = w' := by
  have e1 : ((({ data := #[52] } : ByteArray).extract 0 1).toList == [45]) = false := by decide +kernel
  go_enter Tryz.func72, Tryz.ntmps72
  go_wp2
  go_ret2
  exact ⟨rfl, rfl⟩
theorem isDecimal_4 (w : World) : Calls Tryz.prog 73 #[.string ⟨#[52]⟩] w fun e w' => e = .returned (.bool true) /\ w = w' := by
  have e1 : ((({ data := #[52] } : ByteArray)).toList == [48]) = false := by decide +kernel
  have e2 : ((({ data := #[52] } : ByteArray)).toList == []) = false := by decide +kernel
  have e3 : ((({ data := #[52] } : ByteArray)).toList != []) = true := by decide +kernel
  go_enter Tryz.func73, Tryz.ntmps73
  go_wp2
  refine wp_loop_rounds 2 ?_
  rw [rounds_succ]
  go_wp2
  rw [rounds_succ]
  go_wp2
  go_ret
  exact ⟨rfl, rfl⟩
theorem magnitude_4 (w : World) : Calls Tryz.prog 74 #[.string ⟨#[52]⟩] w fun e w' => ∃ A c, e = .returned (.slice A 1 c) /\ Rd .u32 w' w'.heap.size A [4] /\ 1 <= c /\ c <= 9223372036854775807 /\ Below w.heap.size w w' := by
  have HS := Lib.hid (sa_nil 10 4 (by decide) (by decide) (by decide) w)
  go_enter Tryz.func74, Tryz.ntmps74
  go_wp2
  refine wp_loop_rounds 2 ?_
  rw [rounds_succ]
  go_wp2_with fail
  refine HS.out.mono ?_
  rintro e w' ⟨A, c, rfl, h1, h2, h3, h4⟩
  have H1 := Lib.hid h1
  have H4 := Lib.hid h4
  clear h1 h4
  go_wp2
  rw [rounds_succ]
  go_wp2
  go_ret
  exact ⟨A, c, rfl, H1.out, h2, h3, H4.out⟩
theorem parse_4 (w : World) : Calls Tryz.prog 47 #[.string ⟨#[52]⟩] w fun e w' => ∃ x y, e = .returned (.tuple #[.agg #[x, y], .int .i64 0]) /\ Zc w' x y 4 /\ Below w.heap.size w w' := by
  have e1 : ((({ data := #[52] } : ByteArray)).toList == [48]) = false := by decide +kernel
  obtain ⟨W0, hW0⟩ : ∃ W0, W0 = w.alloc (.cells #[.bool false, .slice none 0 0] 24) := ⟨_, rfl⟩
  have hb : Below w.heap.size w W0 := by rw [hW0]; exact (Below.refl _ _).alloc (Nat.le_refl _) _
  have tR : Two W0 w.heap.size (.bool false) (.slice none 0 0) := by rw [hW0]; exact Two.new w _ _ _
  have HW0 := Lib.hid hW0
  have HB := Lib.hid hb
  clear hW0 hb
  go_enter Tryz.func47, Tryz.ntmps47
  go_wp2_with fail
  rw [<- HW0.out]
  refine (cut_4 _).mono ?_
  rintro e w' ⟨rfl, rfl⟩
  go_wp2_with fail
  refine (isDecimal_4 _).mono ?_
  rintro e w' ⟨rfl, rfl⟩
  go_wp2_with fail
  refine (magnitude_4 _).mono ?_
  rintro e V ⟨A, c, rfl, r1, l1, m1, bb⟩
  replace tR := tR.to bb
  replace HB := Lib.hid (HB.out.trans (bb.mono HB.out.size))
  have HI := Lib.hid (integer_l false r1 (Dg.one (by decide)) l1 m1)
  obtain ⟨z, ez⟩ : ∃ z : Int, Hid (z = 4) := ⟨_, rfl⟩
  rw [show zof false (val b32 [4]) = z from by rw [ez.out]; simp [zof, val]] at HI
  clear r1 l1 m1 bb e1
  go_wp2_with fail
  refine HI.out.mono ?_
  rintro e V2 ⟨A3, c3, rfl, s1, s2, s3, bb⟩
  replace tR := tR.to bb
  replace HB := Lib.hid (HB.out.trans (bb.mono HB.out.size))
  have RZ : Hid (Zc V2 (.bool (decide (z < 0))) (.slice A3 (dig b32 z.natAbs).length c3) z) := ⟨A3, c3, rfl, rfl, s1, s2, s3⟩
  obtain ⟨V3, eV, u, kp, _⟩ := pack2 tR Fs.nil (.bool (decide (z < 0))) (.slice A3 (dig b32 z.natAbs).length c3)
  obtain ⟨v0, v1, v2, v3, _⟩ := tR
  have EV := Lib.hid eV
  have KP := Lib.hid kp
  have U := Lib.hid u
  clear eV kp u s1 s2 s3 bb HI
  go_wp2
  rw [EV.out]
  refine bodyPost_ret (v := .tuple #[.agg #[.bool (decide (z < 0)), .slice A3 (dig b32 z.natAbs).length c3], .int .i64 0]) (by simp [results, Tryz.f47, go_sem, U.out.c0, U.out.c1]) rfl ?_
  have ez2 := ez.out
  subst ez2
  exact ⟨_, _, rfl, KP.out.zc _ _ _ RZ.out, KP.out.bel _ _ HB.out (Nat.le_refl _)⟩

end Go.Proofs.YtgkfbhdaheoecaaGreat
