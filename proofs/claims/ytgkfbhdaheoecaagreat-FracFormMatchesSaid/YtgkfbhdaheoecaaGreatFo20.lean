/- Parts: 4. -/
import Derived.Test.YtgkfbhdaheoecaaGreatFo13
import Derived.Test.YtgkfbhdaheoecaaGreatFo14
import Derived.Test.YtgkfbhdaheoecaaGreatFo19
set_option linter.unusedVariables false
set_option linter.unusedSimpArgs false
set_option maxRecDepth 100000
set_option maxHeartbeats 40000000

namespace Go.Proofs.YtgkfbhdaheoecaaGreat
open Go.RowKit Go.Shelf

theorem upD_abs {q : Int} (h : q ≠ 0) : upD q = (q.natAbs : Int) := by unfold upD; rw [if_neg h]; split <;> omega
theorem rgcd_v {w : World} {x y x' y' : Value} {a b : Int} (ha : Zl w x y a) (hb : Zl w x' y' b) : Calls Tryz.prog 54 #[.agg #[x, y], .agg #[x', y']] w (ZR w (Int.gcd a b : Nat)) := rgcd_z ha hb
theorem rsign_v {w : World} {x y : Value} {a v : Int} (ha : Zl w x y a) (hv : sgn a = v) : Calls Tryz.prog 57 #[.agg #[x, y]] w fun e w' => e = .returned (.int .i64 v) /\ Below w.heap.size w w' := by
  subst hv; exact rsign_z ha
theorem rcmp_v {w : World} {x y x' y' : Value} {a b v : Int} (ha : Zl w x y a) (hb : Zl w x' y' b) (hv : cmpZ a b = v) : Calls Tryz.prog 55 #[.agg #[x, y], .agg #[x', y']] w fun e w' => e = .returned (.int .i64 v) /\ Below w.heap.size w w' := by
  subst hv; exact rcmp_z ha hb
theorem rd_v {w : World} {x y x' y' : Value} {a b q : Int} (ha : Zl w x y a) (hb : Zl w x' y' b) (h0 : b ≠ 0) (hq : a / b = q) : Calls Tryz.prog 42 #[.agg #[x, y], .agg #[x', y']] w (ZE w q (a % b) 0) := by
  subst hq
  have h := rd_x ha hb
  unfold dr de at h
  rw [if_neg h0, if_neg h0] at h
  exact h


set_option maxRecDepth 100000 in
theorem rone_z {w : World} :
    Calls Tryz.prog 56 #[] w (ZR w 1) := by
  obtain ⟨W0, hW0⟩ : ∃ W0, W0 = w.alloc (.cells #[.bool false, .slice none 0 0] 24) := ⟨_, rfl⟩
  have hbw : Below w.heap.size w W0 := by rw [hW0]; exact ((Below.refl _ _).alloc (Nat.le_refl _) _)
  have tR : Two W0 (w.heap.size) (.bool false) (.slice none 0 0) := by
    have h := Two.new w (.bool false) (.slice none 0 0) 24
    rw [hW0]; exact h
  have HW0 := Lib.hid hW0
  have HB := Lib.hid hbw
  clear hW0 hbw
  go_enter Tryz.func56, Tryz.ntmps56
  go_wp2_with fail
  rw [<- HW0.out]
  clear HW0
  go_wp2_with fail
  refine (rfrom_z 1 (by decide) (by decide) _).mono ?_
  rintro e V1 ⟨x1, y1, rfl, z1, bb⟩
  replace tR := tR.to bb
  replace HB := Lib.hid (HB.out.trans (bb.mono HB.out.size))
  clear bb
  have RZ := Lib.hid z1
  obtain ⟨V99, eV, u, kp, _⟩ := pack2 tR Fs.nil x1 y1
  obtain ⟨n1, A1, j1, m1, rfl, rfl⟩ := z1.fs
  obtain ⟨v0, v1, v2, v3, _⟩ := tR
  have EV := Lib.hid eV
  have KP := Lib.hid kp
  have U := Lib.hid u
  clear eV kp u z1
  go_wp2
  rw [EV.out]
  refine bodyPost_ret (v := .agg #[.bool n1, .slice A1 j1 m1]) (by simp [results, Tryz.f56, go_sem, U.out.c0, U.out.c1]) rfl ?_
  exact ⟨_, _, rfl, KP.out.zc _ _ _ RZ.out, KP.out.bel _ _ HB.out (by omega)⟩


set_option maxRecDepth 100000 in
theorem rden_0 {w : World} {a1 a2 a3 a4 : Value} {q : Int} (h : Zl w a3 a4 q) (hq : q = 0) :
    Calls Tryz.prog 33 #[.agg #[a1, a2, a3, a4]] w (ZR w (upD q)) := by
  rw [show upD q = 1 from by unfold upD; rw [if_pos hq]]
  have hs : Hid (sgn q = 0) := sgn_zero.2 hq
  clear hq
  obtain ⟨W0, hW0⟩ : ∃ W0, W0 = (w.alloc (.cells #[a1, a2, a3, a4] 26)).alloc (.cells #[.bool false, .slice none 0 0] 24) := ⟨_, rfl⟩
  have hbw : Below w.heap.size w W0 := by rw [hW0]; exact (((Below.refl _ _).alloc (Nat.le_refl _) _).alloc (by simp) _)
  have tA : Four W0 (w.heap.size) a1 a2 a3 a4 := by
    have h := Four.new w a1 a2 a3 a4 26
    rw [hW0]; exact (h.alloc _)
  have tR : Two W0 (w.heap.size + 1) (.bool false) (.slice none 0 0) := by
    have h := Two.new (w.alloc (.cells #[a1, a2, a3, a4] 26)) (.bool false) (.slice none 0 0) 24
    rw [World.size_alloc] at h
    rw [hW0]; exact h
  replace h := h.to hbw
  have HW0 := Lib.hid hW0
  have HB := Lib.hid hbw
  clear hW0 hbw
  go_enter Tryz.func33, Tryz.ntmps33
  go_wp2_with fail
  rw [<- HW0.out]
  clear HW0
  have kktA0 := tA.c0
  have kktA1 := tA.c1
  have kktA2 := tA.c2
  have kktA3 := tA.c3
  go_wp2_with fail
  refine (rsign_v h hs.out).mono ?_
  rintro e V1 ⟨rfl, bb⟩
  clear kktA0 kktA1 kktA2 kktA3
  replace tA := tA.to bb
  replace tR := tR.to bb
  replace HB := Lib.hid (HB.out.trans (bb.mono HB.out.size))
  clear bb
  have kktA0 := tA.c0
  have kktA1 := tA.c1
  have kktA2 := tA.c2
  have kktA3 := tA.c3
  go_wp2_with fail
  refine (rone_z).mono ?_
  rintro e V2 ⟨x2, y2, rfl, z2, bb⟩
  clear kktA0 kktA1 kktA2 kktA3
  replace tA := tA.to bb
  replace tR := tR.to bb
  replace HB := Lib.hid (HB.out.trans (bb.mono HB.out.size))
  clear bb
  have RZ := Lib.hid z2
  obtain ⟨V99, eV, u, kp, _⟩ := pack2 tR Fs.nil x2 y2
  obtain ⟨n1, A1, j1, m1, rfl, rfl⟩ := z2.fs
  obtain ⟨v0, v1, v2, v3, _⟩ := tR
  have EV := Lib.hid eV
  have KP := Lib.hid kp
  have U := Lib.hid u
  clear eV kp u z2
  clear tA
  go_wp2
  rw [EV.out]
  refine bodyPost_ret (v := .agg #[.bool n1, .slice A1 j1 m1]) (by simp [results, Tryz.f33, go_sem, U.out.c0, U.out.c1]) rfl ?_
  exact ⟨_, _, rfl, KP.out.zc _ _ _ RZ.out, KP.out.bel _ _ HB.out (by omega)⟩


set_option maxRecDepth 100000 in
theorem rden_n {w : World} {a1 a2 a3 a4 : Value} {q : Int} (h : Zl w a3 a4 q) (hq : q ≠ 0) :
    Calls Tryz.prog 33 #[.agg #[a1, a2, a3, a4]] w (ZR w (upD q)) := by
  rw [upD_abs hq]
  obtain ⟨s, es⟩ : ∃ s, sgn q = s := ⟨_, rfl⟩
  have hs0 : (s == 0) = false := by rw [beq_eq_false_iff_ne, <- es]; exact fun h => hq (sgn_zero.1 h)
  have hs := Lib.hid es
  clear hq es
  obtain ⟨W0, hW0⟩ : ∃ W0, W0 = (w.alloc (.cells #[a1, a2, a3, a4] 26)).alloc (.cells #[.bool false, .slice none 0 0] 24) := ⟨_, rfl⟩
  have hbw : Below w.heap.size w W0 := by rw [hW0]; exact (((Below.refl _ _).alloc (Nat.le_refl _) _).alloc (by simp) _)
  have tA : Four W0 (w.heap.size) a1 a2 a3 a4 := by
    have h := Four.new w a1 a2 a3 a4 26
    rw [hW0]; exact (h.alloc _)
  have tR : Two W0 (w.heap.size + 1) (.bool false) (.slice none 0 0) := by
    have h := Two.new (w.alloc (.cells #[a1, a2, a3, a4] 26)) (.bool false) (.slice none 0 0) 24
    rw [World.size_alloc] at h
    rw [hW0]; exact h
  replace h := h.to hbw
  have HW0 := Lib.hid hW0
  have HB := Lib.hid hbw
  clear hW0 hbw
  go_enter Tryz.func33, Tryz.ntmps33
  go_wp2_with fail
  rw [<- HW0.out]
  clear HW0
  have kktA0 := tA.c0
  have kktA1 := tA.c1
  have kktA2 := tA.c2
  have kktA3 := tA.c3
  go_wp2_with fail
  refine (rsign_v h hs.out).mono ?_
  rintro e V1 ⟨rfl, bb⟩
  clear kktA0 kktA1 kktA2 kktA3
  replace tA := tA.to bb
  replace tR := tR.to bb
  replace h := h.to bb
  replace HB := Lib.hid (HB.out.trans (bb.mono HB.out.size))
  clear bb
  have kktA0 := tA.c0
  have kktA1 := tA.c1
  have kktA2 := tA.c2
  have kktA3 := tA.c3
  go_wp2_with fail
  refine (rabs_z h).mono ?_
  rintro e V2 ⟨x2, y2, rfl, z2, bb⟩
  clear kktA0 kktA1 kktA2 kktA3
  replace tA := tA.to bb
  replace tR := tR.to bb
  replace HB := Lib.hid (HB.out.trans (bb.mono HB.out.size))
  clear bb
  have RZ := Lib.hid z2
  obtain ⟨V99, eV, u, kp, _⟩ := pack2 tR Fs.nil x2 y2
  obtain ⟨n1, A1, j1, m1, rfl, rfl⟩ := z2.fs
  obtain ⟨v0, v1, v2, v3, _⟩ := tR
  have EV := Lib.hid eV
  have KP := Lib.hid kp
  have U := Lib.hid u
  clear eV kp u z2
  clear tA
  go_wp2
  rw [EV.out]
  refine bodyPost_ret (v := .agg #[.bool n1, .slice A1 j1 m1]) (by simp [results, Tryz.f33, go_sem, U.out.c0, U.out.c1]) rfl ?_
  exact ⟨_, _, rfl, KP.out.zc _ _ _ RZ.out, KP.out.bel _ _ HB.out (by omega)⟩

theorem rden_z {w : World} {a1 a2 a3 a4 : Value} {q : Int} (h : Zl w a3 a4 q) : Calls Tryz.prog 33 #[.agg #[a1, a2, a3, a4]] w (ZR w (upD q)) := by
  by_cases hq : q = 0
  · exact rden_0 h hq
  · exact rden_n h hq


set_option maxRecDepth 100000 in
theorem rnum_n {w : World} {a1 a2 a3 a4 : Value} {p q : Int} (h1 : Zl w a1 a2 p) (h : Zl w a3 a4 q) (hq : q < 0) :
    Calls Tryz.prog 32 #[.agg #[a1, a2, a3, a4]] w (ZR w (upN p q)) := by
  rw [show upN p q = -p from by unfold upN; rw [if_pos hq]]
  have hs : Hid (sgn q = -1) := sgn_neg hq
  clear hq
  obtain ⟨W0, hW0⟩ : ∃ W0, W0 = (w.alloc (.cells #[a1, a2, a3, a4] 26)).alloc (.cells #[.bool false, .slice none 0 0] 24) := ⟨_, rfl⟩
  have hbw : Below w.heap.size w W0 := by rw [hW0]; exact (((Below.refl _ _).alloc (Nat.le_refl _) _).alloc (by simp) _)
  have tA : Four W0 (w.heap.size) a1 a2 a3 a4 := by
    have h := Four.new w a1 a2 a3 a4 26
    rw [hW0]; exact (h.alloc _)
  have tR : Two W0 (w.heap.size + 1) (.bool false) (.slice none 0 0) := by
    have h := Two.new (w.alloc (.cells #[a1, a2, a3, a4] 26)) (.bool false) (.slice none 0 0) 24
    rw [World.size_alloc] at h
    rw [hW0]; exact h
  replace h1 := h1.to hbw
  replace h := h.to hbw
  have HW0 := Lib.hid hW0
  have HB := Lib.hid hbw
  clear hW0 hbw
  go_enter Tryz.func32, Tryz.ntmps32
  go_wp2_with fail
  rw [<- HW0.out]
  clear HW0
  have kktA0 := tA.c0
  have kktA1 := tA.c1
  have kktA2 := tA.c2
  have kktA3 := tA.c3
  go_wp2_with fail
  refine (rsign_v h hs.out).mono ?_
  rintro e V1 ⟨rfl, bb⟩
  clear kktA0 kktA1 kktA2 kktA3
  replace tA := tA.to bb
  replace tR := tR.to bb
  replace h1 := h1.to bb
  replace HB := Lib.hid (HB.out.trans (bb.mono HB.out.size))
  clear bb
  have kktA0 := tA.c0
  have kktA1 := tA.c1
  have kktA2 := tA.c2
  have kktA3 := tA.c3
  go_wp2_with fail
  refine (rneg_z h1).mono ?_
  rintro e V2 ⟨x2, y2, rfl, z2, bb⟩
  clear kktA0 kktA1 kktA2 kktA3
  replace tA := tA.to bb
  replace tR := tR.to bb
  replace HB := Lib.hid (HB.out.trans (bb.mono HB.out.size))
  clear bb
  have RZ := Lib.hid z2
  obtain ⟨V99, eV, u, kp, _⟩ := pack2 tR Fs.nil x2 y2
  obtain ⟨n1, A1, j1, m1, rfl, rfl⟩ := z2.fs
  obtain ⟨v0, v1, v2, v3, _⟩ := tR
  have EV := Lib.hid eV
  have KP := Lib.hid kp
  have U := Lib.hid u
  clear eV kp u z2
  clear tA
  go_wp2
  rw [EV.out]
  refine bodyPost_ret (v := .agg #[.bool n1, .slice A1 j1 m1]) (by simp [results, Tryz.f32, go_sem, U.out.c0, U.out.c1]) rfl ?_
  exact ⟨_, _, rfl, KP.out.zc _ _ _ RZ.out, KP.out.bel _ _ HB.out (by omega)⟩


set_option maxRecDepth 100000 in
theorem rnum_p {w : World} {a1 a2 a3 a4 : Value} {p q : Int} (h1 : Zl w a1 a2 p) (h : Zl w a3 a4 q) (hq : ¬ q < 0) :
    Calls Tryz.prog 32 #[.agg #[a1, a2, a3, a4]] w (ZR w (upN p q)) := by
  rw [show upN p q = p from by unfold upN; rw [if_neg hq]]
  obtain ⟨s, es⟩ : ∃ s, sgn q = s := ⟨_, rfl⟩
  have hs0 : ¬ s < 0 := by rw [<- es]; unfold sgn; split <;> (try split) <;> omega
  have hs := Lib.hid es
  clear hq es
  obtain ⟨W0, hW0⟩ : ∃ W0, W0 = (w.alloc (.cells #[a1, a2, a3, a4] 26)).alloc (.cells #[.bool false, .slice none 0 0] 24) := ⟨_, rfl⟩
  have hbw : Below w.heap.size w W0 := by rw [hW0]; exact (((Below.refl _ _).alloc (Nat.le_refl _) _).alloc (by simp) _)
  have tA : Four W0 (w.heap.size) a1 a2 a3 a4 := by
    have h := Four.new w a1 a2 a3 a4 26
    rw [hW0]; exact (h.alloc _)
  have tR : Two W0 (w.heap.size + 1) (.bool false) (.slice none 0 0) := by
    have h := Two.new (w.alloc (.cells #[a1, a2, a3, a4] 26)) (.bool false) (.slice none 0 0) 24
    rw [World.size_alloc] at h
    rw [hW0]; exact h
  replace h1 := h1.to hbw
  replace h := h.to hbw
  have HW0 := Lib.hid hW0
  have HB := Lib.hid hbw
  clear hW0 hbw
  go_enter Tryz.func32, Tryz.ntmps32
  go_wp2_with fail
  rw [<- HW0.out]
  clear HW0
  have kktA0 := tA.c0
  have kktA1 := tA.c1
  have kktA2 := tA.c2
  have kktA3 := tA.c3
  go_wp2_with fail
  refine (rsign_v h hs.out).mono ?_
  rintro e V1 ⟨rfl, bb⟩
  clear kktA0 kktA1 kktA2 kktA3
  replace tA := tA.to bb
  replace tR := tR.to bb
  replace h1 := h1.to bb
  replace HB := Lib.hid (HB.out.trans (bb.mono HB.out.size))
  clear bb
  have kktA0 := tA.c0
  have kktA1 := tA.c1
  have kktA2 := tA.c2
  have kktA3 := tA.c3
  go_wp2_with fail
  refine (rleast_z h1).mono ?_
  rintro e V2 ⟨x2, y2, rfl, z2, bb⟩
  clear kktA0 kktA1 kktA2 kktA3
  replace tA := tA.to bb
  replace tR := tR.to bb
  replace HB := Lib.hid (HB.out.trans (bb.mono HB.out.size))
  clear bb
  have RZ := Lib.hid z2
  obtain ⟨V99, eV, u, kp, _⟩ := pack2 tR Fs.nil x2 y2
  obtain ⟨n1, A1, j1, m1, rfl, rfl⟩ := z2.fs
  obtain ⟨v0, v1, v2, v3, _⟩ := tR
  have EV := Lib.hid eV
  have KP := Lib.hid kp
  have U := Lib.hid u
  clear eV kp u z2
  clear tA
  go_wp2
  rw [EV.out]
  refine bodyPost_ret (v := .agg #[.bool n1, .slice A1 j1 m1]) (by simp [results, Tryz.f32, go_sem, U.out.c0, U.out.c1]) rfl ?_
  exact ⟨_, _, rfl, KP.out.zc _ _ _ RZ.out, KP.out.bel _ _ HB.out (by omega)⟩

theorem rnum_z {w : World} {a1 a2 a3 a4 : Value} {p q : Int} (h1 : Zl w a1 a2 p) (h : Zl w a3 a4 q) : Calls Tryz.prog 32 #[.agg #[a1, a2, a3, a4]] w (ZR w (upN p q)) := by
  by_cases hq : q < 0
  · exact rnum_n h1 h hq
  · exact rnum_p h1 h hq


set_option maxRecDepth 100000 in
theorem over_1 {w : World} {n1 n2 d1 d2 : Value} {n d : Int} (h1 : Zl w n1 n2 n) (h2 : Zl w d1 d2 d) (hd : 0 < d) (hone : (Rat.divInt n d).den = 1) :
    Calls Tryz.prog 31 #[.agg #[n1, n2], .agg #[d1, d2]] w (QR w (Rat.divInt n d)) := by
  have hg : cmn n d = (Int.gcd n d : Int) := by unfold cmn; rw [if_neg (by omega)]
  have hd0 : d ≠ 0 := by omega
  have hG : Hid ((Int.gcd n d : Int) ≠ 0) := by show _ ≠ _; rw [<- hg]; exact cmn_ne n d hd0
  have e1 : Hid (n / (Int.gcd n d : Int) = (Rat.divInt n d).num) := by show _ = _; rw [<- hg]; exact cmn_num n d hd0
  have e2 : Hid (d / (Int.gcd n d : Int) = ((Rat.divInt n d).den : Int)) := by show _ = _; rw [<- hg]; exact cmn_den n d hd0
  have sG : Hid (Sg (Int.gcd n d : Nat)) := by
    show Sg _
    exact (h2.sg.sm.le (by have := gcd_le n d hd0; omega)).sg (Nat.le_refl _)
  have sD : Hid (Sg ((Rat.divInt n d).den : Int)) := by
    show Sg _
    rw [<- e2.out]
    exact (h2.sg.sm.le (Int.natAbs_ediv_le_natAbs _ _)).sg (Nat.le_refl _)
  obtain ⟨G, eG⟩ : ∃ G : Int, ((Int.gcd n d : Nat) : Int) = G := ⟨_, rfl⟩
  obtain ⟨R, eR⟩ : ∃ R, Rat.divInt n d = R := ⟨_, rfl⟩
  rw [eG] at hG e1 e2 sG
  rw [eR] at e1 e2 sD hone ⊢
  have EG := Lib.hid eG
  obtain ⟨c, ec⟩ : ∃ c, cmpZ (R.den : Int) 1 = c := ⟨_, rfl⟩
  have hc : (c == 0) = true := by
    rw [<- ec]; unfold cmpZ
    rw [if_neg (by omega), if_neg (by omega)]; rfl
  have EC := Lib.hid ec
  have HO := Lib.hid hone
  clear hd0 hg eG eR ec hone hd
  obtain ⟨W0, hW0⟩ : ∃ W0, W0 = ((w.alloc (.cells #[n1, n2] 24)).alloc (.cells #[d1, d2] 24)).alloc (.cells #[.bool false, .slice none 0 0, .bool false, .slice none 0 0] 26) := ⟨_, rfl⟩
  have hbw : Below w.heap.size w W0 := by rw [hW0]; exact ((((Below.refl _ _).alloc (Nat.le_refl _) _).alloc (by simp) _).alloc (by simp; omega) _)
  have tA : Two W0 (w.heap.size) n1 n2 := by
    have h := Two.new w n1 n2 24
    rw [hW0]; exact ((h.alloc _).alloc _)
  have tB : Two W0 (w.heap.size + 1) d1 d2 := by
    have h := Two.new (w.alloc (.cells #[n1, n2] 24)) d1 d2 24
    rw [World.size_alloc] at h
    rw [hW0]; exact (h.alloc _)
  have tR : Four W0 (w.heap.size + 1 + 1) (.bool false) (.slice none 0 0) (.bool false) (.slice none 0 0) := by
    have h := Four.new ((w.alloc (.cells #[n1, n2] 24)).alloc (.cells #[d1, d2] 24)) (.bool false) (.slice none 0 0) (.bool false) (.slice none 0 0) 26
    rw [World.size_alloc, World.size_alloc] at h
    rw [hW0]; exact h
  replace h1 := h1.to hbw
  replace h2 := h2.to hbw
  have HW0 := Lib.hid hW0
  have HB := Lib.hid hbw
  clear hW0 hbw
  go_enter Tryz.func31, Tryz.ntmps31
  go_wp2_with fail
  rw [<- HW0.out]
  clear HW0
  have kktA0 := tA.c0
  have kktA1 := tA.c1
  have kktB0 := tB.c0
  have kktB1 := tB.c1
  go_wp2_with fail
  refine (rgcd_v h1 h2).mono ?_
  rintro e V1 ⟨x1, y1, rfl, z1, bb⟩
  clear kktA0 kktA1 kktB0 kktB1
  replace tA := tA.to bb
  replace tB := tB.to bb
  replace tR := tR.to bb
  replace h1 := h1.to bb
  replace h2 := h2.to bb
  replace HB := Lib.hid (HB.out.trans (bb.mono HB.out.size))
  clear bb
  rw [EG.out] at z1
  obtain ⟨nntG0, AAtG0, jjtG0, mmtG0, rfl, rfl⟩ := z1.fs
  have tG := Two.new V1 (.bool nntG0) (.slice AAtG0 jjtG0 mmtG0) 24
  have bb := (Below.refl V1.heap.size V1).alloc (by simp) (.cells #[.bool nntG0, .slice AAtG0 jjtG0 mmtG0] 24)
  replace tA := tA.to bb
  replace tB := tB.to bb
  replace tR := tR.to bb
  replace h1 := h1.to bb
  replace h2 := h2.to bb
  replace z1 := z1.to bb
  replace HB := Lib.hid (HB.out.trans (bb.mono HB.out.size))
  clear bb
  have kktA0 := tA.c0
  have kktA1 := tA.c1
  have kktB0 := tB.c0
  have kktB1 := tB.c1
  have kktG0 := tG.c0
  have kktG1 := tG.c1
  go_wp2_with fail
  obtain ⟨X2, hX2⟩ : ∃ W, W = V1.alloc (.cells #[.bool nntG0, .slice AAtG0 jjtG0 mmtG0] 24) := ⟨_, rfl⟩
  obtain ⟨gtG, hgtG⟩ : ∃ g, g = V1.heap.size := ⟨_, rfl⟩
  rw [<- hX2, <- hgtG]
  rw [<- hX2, <- hgtG] at tG
  rw [<- hX2] at tA tB tR h1 h2 z1 HB
  clear hX2 hgtG
  refine (rd_v h1 (z1.zs sG.out) hG.out e1.out).mono ?_
  rintro e V3 ⟨xq3, yq3, xr3, yr3, rfl, zq3, zr3, bb⟩
  clear kktA0 kktA1 kktB0 kktB1 kktG0 kktG1
  replace tA := tA.to bb
  replace tB := tB.to bb
  replace tG := tG.to bb
  replace tR := tR.to bb
  replace h2 := h2.to bb
  replace z1 := z1.to bb
  replace HB := Lib.hid (HB.out.trans (bb.mono HB.out.size))
  clear bb
  obtain ⟨nntP0, AAtP0, jjtP0, mmtP0, rfl, rfl⟩ := zq3.fs
  have tP := Two.new V3 (.bool nntP0) (.slice AAtP0 jjtP0 mmtP0) 24
  obtain ⟨nntS0, AAtS0, jjtS0, mmtS0, rfl, rfl⟩ := zr3.fs
  have tS := Two.new (V3.alloc (.cells #[.bool nntP0, .slice AAtP0 jjtP0 mmtP0] 24)) (.bool nntS0) (.slice AAtS0 jjtS0 mmtS0) 24
  rw [World.size_alloc] at tS
  replace tP := (tP.alloc (.cells #[.bool nntS0, .slice AAtS0 jjtS0 mmtS0] 24))
  have bb := ((Below.refl V3.heap.size V3).alloc (by simp) (.cells #[.bool nntP0, .slice AAtP0 jjtP0 mmtP0] 24)).alloc (by simp) (.cells #[.bool nntS0, .slice AAtS0 jjtS0 mmtS0] 24)
  replace tA := tA.to bb
  replace tB := tB.to bb
  replace tG := tG.to bb
  replace tR := tR.to bb
  replace h2 := h2.to bb
  replace z1 := z1.to bb
  replace zq3 := zq3.to bb
  replace zr3 := zr3.to bb
  replace HB := Lib.hid (HB.out.trans (bb.mono HB.out.size))
  clear bb
  have kktA0 := tA.c0
  have kktA1 := tA.c1
  have kktB0 := tB.c0
  have kktB1 := tB.c1
  have kktG0 := tG.c0
  have kktG1 := tG.c1
  have kktP0 := tP.c0
  have kktP1 := tP.c1
  have kktS0 := tS.c0
  have kktS1 := tS.c1
  go_wp2_with fail
  obtain ⟨X4, hX4⟩ : ∃ W, W = (V3.alloc (.cells #[.bool nntP0, .slice AAtP0 jjtP0 mmtP0] 24)).alloc (.cells #[.bool nntS0, .slice AAtS0 jjtS0 mmtS0] 24) := ⟨_, rfl⟩
  obtain ⟨gtP, hgtP⟩ : ∃ g, g = V3.heap.size := ⟨_, rfl⟩
  obtain ⟨gtS, hgtS⟩ : ∃ g, g = V3.heap.size + 1 := ⟨_, rfl⟩
  rw [<- hX4, <- hgtS, <- hgtP]
  rw [<- hX4, <- hgtP] at tP
  rw [<- hX4, <- hgtS] at tS
  rw [<- hX4] at tA tB tG tR h2 z1 zq3 zr3 HB
  clear hX4 hgtP hgtS
  refine (rd_v h2 (z1.zs sG.out) hG.out e2.out).mono ?_
  rintro e V5 ⟨xq5, yq5, xr5, yr5, rfl, zq5, zr5, bb⟩
  clear kktA0 kktA1 kktB0 kktB1 kktG0 kktG1 kktP0 kktP1 kktS0 kktS1
  replace tA := tA.to bb
  replace tB := tB.to bb
  replace tG := tG.to bb
  replace tP := tP.to bb
  replace tS := tS.to bb
  replace tR := tR.to bb
  replace z1 := z1.to bb
  replace zq3 := zq3.to bb
  replace zr3 := zr3.to bb
  replace HB := Lib.hid (HB.out.trans (bb.mono HB.out.size))
  clear bb
  obtain ⟨nntQ0, AAtQ0, jjtQ0, mmtQ0, rfl, rfl⟩ := zq5.fs
  have tQ := Two.new V5 (.bool nntQ0) (.slice AAtQ0 jjtQ0 mmtQ0) 24
  obtain ⟨nntU0, AAtU0, jjtU0, mmtU0, rfl, rfl⟩ := zr5.fs
  have tU := Two.new (V5.alloc (.cells #[.bool nntQ0, .slice AAtQ0 jjtQ0 mmtQ0] 24)) (.bool nntU0) (.slice AAtU0 jjtU0 mmtU0) 24
  rw [World.size_alloc] at tU
  replace tQ := (tQ.alloc (.cells #[.bool nntU0, .slice AAtU0 jjtU0 mmtU0] 24))
  have bb := ((Below.refl V5.heap.size V5).alloc (by simp) (.cells #[.bool nntQ0, .slice AAtQ0 jjtQ0 mmtQ0] 24)).alloc (by simp) (.cells #[.bool nntU0, .slice AAtU0 jjtU0 mmtU0] 24)
  replace tA := tA.to bb
  replace tB := tB.to bb
  replace tG := tG.to bb
  replace tP := tP.to bb
  replace tS := tS.to bb
  replace tR := tR.to bb
  replace z1 := z1.to bb
  replace zq3 := zq3.to bb
  replace zr3 := zr3.to bb
  replace zq5 := zq5.to bb
  replace zr5 := zr5.to bb
  replace HB := Lib.hid (HB.out.trans (bb.mono HB.out.size))
  clear bb
  go_wp2_with fail
  obtain ⟨X6, hX6⟩ : ∃ W, W = (V5.alloc (.cells #[.bool nntQ0, .slice AAtQ0 jjtQ0 mmtQ0] 24)).alloc (.cells #[.bool nntU0, .slice AAtU0 jjtU0 mmtU0] 24) := ⟨_, rfl⟩
  obtain ⟨gtQ, hgtQ⟩ : ∃ g, g = V5.heap.size := ⟨_, rfl⟩
  obtain ⟨gtU, hgtU⟩ : ∃ g, g = V5.heap.size + 1 := ⟨_, rfl⟩
  rw [<- hX6, <- hgtU, <- hgtQ]
  rw [<- hX6, <- hgtQ] at tQ
  rw [<- hX6, <- hgtU] at tU
  rw [<- hX6] at tA tB tG tP tS tR z1 zq3 zr3 zq5 zr5 HB
  clear hX6 hgtQ hgtU
  clear tA tB tG tS tU
  refine wp_region_plan (S := fun w' => Below w.heap.size w w' /\ Two w' (gtP) (.bool nntP0) (.slice AAtP0 jjtP0 mmtP0) /\ Two w' (gtQ) (.bool nntQ0) (.slice AAtQ0 jjtQ0 mmtQ0)) [(0, true), (1, false), (2, false), (3, true)] (by kernel_rfl) (by kernel_rfl) ⟨HB.out.drew, tP.to (Below.refl _ _).drew, tQ.to (Below.refl _ _).drew⟩ ?_
  have hb := HB.out.drew
  replace tP := tP.to (Below.refl _ _).drew
  replace tQ := tQ.to (Below.refl _ _).drew
  replace tR := tR.to (Below.refl _ _).drew
  replace z1 := z1.to (Below.refl _ _).drew
  replace zq3 := zq3.to (Below.refl _ _).drew
  replace zr3 := zr3.to (Below.refl _ _).drew
  replace zq5 := zq5.to (Below.refl _ _).drew
  replace zr5 := zr5.to (Below.refl _ _).drew
  clear HB
  refine plan_take rfl (by rfl) (fun w' hS => load_two (by rfl) (hS.2.2)) ?_; simp only [Act.put, List.setIfInBounds_toArray, List.set_cons_zero, List.set_cons_succ]
  refine plan_call rfl (by rfl) (fun K hK => ?_)
  go_simp
  refine (rone_z).mono ?_
  rintro e V7 ⟨x7, y7, rfl, z7, bb⟩
  replace hb := hb.trans (bb.mono hb.size)
  replace tP := tP.to bb
  replace tQ := tQ.to bb
  replace tR := tR.to bb
  replace z1 := z1.to bb
  replace zq3 := zq3.to bb
  replace zr3 := zr3.to bb
  replace zq5 := zq5.to bb
  replace zr5 := zr5.to bb
  refine hK.out _ _ ⟨hb, tP, tQ⟩ ?_
  clear hK K bb
  refine plan_call rfl (by rfl) (fun K hK => ?_)
  go_simp
  refine (rcmp_v (zq5.zs sD.out) (z7.zs (sg_lit (by decide))) EC.out).mono ?_
  rintro e V8 ⟨rfl, bb⟩
  replace hb := hb.trans (bb.mono hb.size)
  replace tP := tP.to bb
  replace tQ := tQ.to bb
  replace tR := tR.to bb
  replace z1 := z1.to bb
  replace zq3 := zq3.to bb
  replace zr3 := zr3.to bb
  replace zq5 := zq5.to bb
  replace zr5 := zr5.to bb
  replace z7 := z7.to bb
  refine hK.out _ _ ⟨hb, tP, tQ⟩ ?_
  clear hK K bb
  refine plan_take (v := ?_) rfl (by rfl) ?_ ?_; rotate_left; (focus (intro w' hS; go_simp; try with_reducible rfl)); simp only [Act.put, List.setIfInBounds_toArray, List.set_cons_zero, List.set_cons_succ]
  refine plan_done ?_
  have HB := Lib.hid hb
  clear hb
  have kktP0 := tP.c0
  have kktP1 := tP.c1
  have kktQ0 := tQ.c0
  have kktQ1 := tQ.c1
  have rq : Qc _ (.bool nntP0) (.slice AAtP0 jjtP0 mmtP0) (.bool false) (.slice none 0 0) R := ⟨zq3, by rw [if_pos HO.out]; exact zc_nil _⟩
  have RZ := Lib.hid rq
  obtain ⟨V99, eV, u, kp⟩ := pack4 tR Fq.nil (.bool nntP0) (.slice AAtP0 jjtP0 mmtP0) (.bool false) (.slice none 0 0)
  obtain ⟨v0, v1, v2, v3, v4, v5, v6, v7, _⟩ := tR
  have EV := Lib.hid eV
  have KP := Lib.hid kp
  have U := Lib.hid u
  clear eV kp u rq
  go_wp2
  rw [EV.out]
  refine bodyPost_ret (v := .agg #[.bool nntP0, .slice AAtP0 jjtP0 mmtP0, .bool false, .slice none 0 0]) (by simp [results, Tryz.f31, go_sem, U.out.c0, U.out.c1, U.out.c2, U.out.c3]) rfl ?_
  exact ⟨_, _, _, _, rfl, RZ.out.k4 KP.out, KP.out.bel _ _ HB.out (by omega)⟩


set_option maxRecDepth 100000 in
theorem over_n {w : World} {n1 n2 d1 d2 : Value} {n d : Int} (h1 : Zl w n1 n2 n) (h2 : Zl w d1 d2 d) (hd : 0 < d) (hone : (Rat.divInt n d).den ≠ 1) :
    Calls Tryz.prog 31 #[.agg #[n1, n2], .agg #[d1, d2]] w (QR w (Rat.divInt n d)) := by
  have hg : cmn n d = (Int.gcd n d : Int) := by unfold cmn; rw [if_neg (by omega)]
  have hd0 : d ≠ 0 := by omega
  have hG : Hid ((Int.gcd n d : Int) ≠ 0) := by show _ ≠ _; rw [<- hg]; exact cmn_ne n d hd0
  have e1 : Hid (n / (Int.gcd n d : Int) = (Rat.divInt n d).num) := by show _ = _; rw [<- hg]; exact cmn_num n d hd0
  have e2 : Hid (d / (Int.gcd n d : Int) = ((Rat.divInt n d).den : Int)) := by show _ = _; rw [<- hg]; exact cmn_den n d hd0
  have sG : Hid (Sg (Int.gcd n d : Nat)) := by
    show Sg _
    exact (h2.sg.sm.le (by have := gcd_le n d hd0; omega)).sg (Nat.le_refl _)
  have sD : Hid (Sg ((Rat.divInt n d).den : Int)) := by
    show Sg _
    rw [<- e2.out]
    exact (h2.sg.sm.le (Int.natAbs_ediv_le_natAbs _ _)).sg (Nat.le_refl _)
  obtain ⟨G, eG⟩ : ∃ G : Int, ((Int.gcd n d : Nat) : Int) = G := ⟨_, rfl⟩
  obtain ⟨R, eR⟩ : ∃ R, Rat.divInt n d = R := ⟨_, rfl⟩
  rw [eG] at hG e1 e2 sG
  rw [eR] at e1 e2 sD hone ⊢
  have EG := Lib.hid eG
  obtain ⟨c, ec⟩ : ∃ c, cmpZ (R.den : Int) 1 = c := ⟨_, rfl⟩
  have hc : (c == 0) = false := by
    rw [<- ec]; unfold cmpZ
    have := R.den_pos
    rw [if_neg (by omega), if_pos (by omega)]; rfl
  have EC := Lib.hid ec
  have HO := Lib.hid hone
  clear hd0 hg eG eR ec hone hd
  obtain ⟨W0, hW0⟩ : ∃ W0, W0 = ((w.alloc (.cells #[n1, n2] 24)).alloc (.cells #[d1, d2] 24)).alloc (.cells #[.bool false, .slice none 0 0, .bool false, .slice none 0 0] 26) := ⟨_, rfl⟩
  have hbw : Below w.heap.size w W0 := by rw [hW0]; exact ((((Below.refl _ _).alloc (Nat.le_refl _) _).alloc (by simp) _).alloc (by simp; omega) _)
  have tA : Two W0 (w.heap.size) n1 n2 := by
    have h := Two.new w n1 n2 24
    rw [hW0]; exact ((h.alloc _).alloc _)
  have tB : Two W0 (w.heap.size + 1) d1 d2 := by
    have h := Two.new (w.alloc (.cells #[n1, n2] 24)) d1 d2 24
    rw [World.size_alloc] at h
    rw [hW0]; exact (h.alloc _)
  have tR : Four W0 (w.heap.size + 1 + 1) (.bool false) (.slice none 0 0) (.bool false) (.slice none 0 0) := by
    have h := Four.new ((w.alloc (.cells #[n1, n2] 24)).alloc (.cells #[d1, d2] 24)) (.bool false) (.slice none 0 0) (.bool false) (.slice none 0 0) 26
    rw [World.size_alloc, World.size_alloc] at h
    rw [hW0]; exact h
  replace h1 := h1.to hbw
  replace h2 := h2.to hbw
  have HW0 := Lib.hid hW0
  have HB := Lib.hid hbw
  clear hW0 hbw
  go_enter Tryz.func31, Tryz.ntmps31
  go_wp2_with fail
  rw [<- HW0.out]
  clear HW0
  have kktA0 := tA.c0
  have kktA1 := tA.c1
  have kktB0 := tB.c0
  have kktB1 := tB.c1
  go_wp2_with fail
  refine (rgcd_v h1 h2).mono ?_
  rintro e V1 ⟨x1, y1, rfl, z1, bb⟩
  clear kktA0 kktA1 kktB0 kktB1
  replace tA := tA.to bb
  replace tB := tB.to bb
  replace tR := tR.to bb
  replace h1 := h1.to bb
  replace h2 := h2.to bb
  replace HB := Lib.hid (HB.out.trans (bb.mono HB.out.size))
  clear bb
  rw [EG.out] at z1
  obtain ⟨nntG0, AAtG0, jjtG0, mmtG0, rfl, rfl⟩ := z1.fs
  have tG := Two.new V1 (.bool nntG0) (.slice AAtG0 jjtG0 mmtG0) 24
  have bb := (Below.refl V1.heap.size V1).alloc (by simp) (.cells #[.bool nntG0, .slice AAtG0 jjtG0 mmtG0] 24)
  replace tA := tA.to bb
  replace tB := tB.to bb
  replace tR := tR.to bb
  replace h1 := h1.to bb
  replace h2 := h2.to bb
  replace z1 := z1.to bb
  replace HB := Lib.hid (HB.out.trans (bb.mono HB.out.size))
  clear bb
  have kktA0 := tA.c0
  have kktA1 := tA.c1
  have kktB0 := tB.c0
  have kktB1 := tB.c1
  have kktG0 := tG.c0
  have kktG1 := tG.c1
  go_wp2_with fail
  obtain ⟨X2, hX2⟩ : ∃ W, W = V1.alloc (.cells #[.bool nntG0, .slice AAtG0 jjtG0 mmtG0] 24) := ⟨_, rfl⟩
  obtain ⟨gtG, hgtG⟩ : ∃ g, g = V1.heap.size := ⟨_, rfl⟩
  rw [<- hX2, <- hgtG]
  rw [<- hX2, <- hgtG] at tG
  rw [<- hX2] at tA tB tR h1 h2 z1 HB
  clear hX2 hgtG
  refine (rd_v h1 (z1.zs sG.out) hG.out e1.out).mono ?_
  rintro e V3 ⟨xq3, yq3, xr3, yr3, rfl, zq3, zr3, bb⟩
  clear kktA0 kktA1 kktB0 kktB1 kktG0 kktG1
  replace tA := tA.to bb
  replace tB := tB.to bb
  replace tG := tG.to bb
  replace tR := tR.to bb
  replace h2 := h2.to bb
  replace z1 := z1.to bb
  replace HB := Lib.hid (HB.out.trans (bb.mono HB.out.size))
  clear bb
  obtain ⟨nntP0, AAtP0, jjtP0, mmtP0, rfl, rfl⟩ := zq3.fs
  have tP := Two.new V3 (.bool nntP0) (.slice AAtP0 jjtP0 mmtP0) 24
  obtain ⟨nntS0, AAtS0, jjtS0, mmtS0, rfl, rfl⟩ := zr3.fs
  have tS := Two.new (V3.alloc (.cells #[.bool nntP0, .slice AAtP0 jjtP0 mmtP0] 24)) (.bool nntS0) (.slice AAtS0 jjtS0 mmtS0) 24
  rw [World.size_alloc] at tS
  replace tP := (tP.alloc (.cells #[.bool nntS0, .slice AAtS0 jjtS0 mmtS0] 24))
  have bb := ((Below.refl V3.heap.size V3).alloc (by simp) (.cells #[.bool nntP0, .slice AAtP0 jjtP0 mmtP0] 24)).alloc (by simp) (.cells #[.bool nntS0, .slice AAtS0 jjtS0 mmtS0] 24)
  replace tA := tA.to bb
  replace tB := tB.to bb
  replace tG := tG.to bb
  replace tR := tR.to bb
  replace h2 := h2.to bb
  replace z1 := z1.to bb
  replace zq3 := zq3.to bb
  replace zr3 := zr3.to bb
  replace HB := Lib.hid (HB.out.trans (bb.mono HB.out.size))
  clear bb
  have kktA0 := tA.c0
  have kktA1 := tA.c1
  have kktB0 := tB.c0
  have kktB1 := tB.c1
  have kktG0 := tG.c0
  have kktG1 := tG.c1
  have kktP0 := tP.c0
  have kktP1 := tP.c1
  have kktS0 := tS.c0
  have kktS1 := tS.c1
  go_wp2_with fail
  obtain ⟨X4, hX4⟩ : ∃ W, W = (V3.alloc (.cells #[.bool nntP0, .slice AAtP0 jjtP0 mmtP0] 24)).alloc (.cells #[.bool nntS0, .slice AAtS0 jjtS0 mmtS0] 24) := ⟨_, rfl⟩
  obtain ⟨gtP, hgtP⟩ : ∃ g, g = V3.heap.size := ⟨_, rfl⟩
  obtain ⟨gtS, hgtS⟩ : ∃ g, g = V3.heap.size + 1 := ⟨_, rfl⟩
  rw [<- hX4, <- hgtS, <- hgtP]
  rw [<- hX4, <- hgtP] at tP
  rw [<- hX4, <- hgtS] at tS
  rw [<- hX4] at tA tB tG tR h2 z1 zq3 zr3 HB
  clear hX4 hgtP hgtS
  refine (rd_v h2 (z1.zs sG.out) hG.out e2.out).mono ?_
  rintro e V5 ⟨xq5, yq5, xr5, yr5, rfl, zq5, zr5, bb⟩
  clear kktA0 kktA1 kktB0 kktB1 kktG0 kktG1 kktP0 kktP1 kktS0 kktS1
  replace tA := tA.to bb
  replace tB := tB.to bb
  replace tG := tG.to bb
  replace tP := tP.to bb
  replace tS := tS.to bb
  replace tR := tR.to bb
  replace z1 := z1.to bb
  replace zq3 := zq3.to bb
  replace zr3 := zr3.to bb
  replace HB := Lib.hid (HB.out.trans (bb.mono HB.out.size))
  clear bb
  obtain ⟨nntQ0, AAtQ0, jjtQ0, mmtQ0, rfl, rfl⟩ := zq5.fs
  have tQ := Two.new V5 (.bool nntQ0) (.slice AAtQ0 jjtQ0 mmtQ0) 24
  obtain ⟨nntU0, AAtU0, jjtU0, mmtU0, rfl, rfl⟩ := zr5.fs
  have tU := Two.new (V5.alloc (.cells #[.bool nntQ0, .slice AAtQ0 jjtQ0 mmtQ0] 24)) (.bool nntU0) (.slice AAtU0 jjtU0 mmtU0) 24
  rw [World.size_alloc] at tU
  replace tQ := (tQ.alloc (.cells #[.bool nntU0, .slice AAtU0 jjtU0 mmtU0] 24))
  have bb := ((Below.refl V5.heap.size V5).alloc (by simp) (.cells #[.bool nntQ0, .slice AAtQ0 jjtQ0 mmtQ0] 24)).alloc (by simp) (.cells #[.bool nntU0, .slice AAtU0 jjtU0 mmtU0] 24)
  replace tA := tA.to bb
  replace tB := tB.to bb
  replace tG := tG.to bb
  replace tP := tP.to bb
  replace tS := tS.to bb
  replace tR := tR.to bb
  replace z1 := z1.to bb
  replace zq3 := zq3.to bb
  replace zr3 := zr3.to bb
  replace zq5 := zq5.to bb
  replace zr5 := zr5.to bb
  replace HB := Lib.hid (HB.out.trans (bb.mono HB.out.size))
  clear bb
  go_wp2_with fail
  obtain ⟨X6, hX6⟩ : ∃ W, W = (V5.alloc (.cells #[.bool nntQ0, .slice AAtQ0 jjtQ0 mmtQ0] 24)).alloc (.cells #[.bool nntU0, .slice AAtU0 jjtU0 mmtU0] 24) := ⟨_, rfl⟩
  obtain ⟨gtQ, hgtQ⟩ : ∃ g, g = V5.heap.size := ⟨_, rfl⟩
  obtain ⟨gtU, hgtU⟩ : ∃ g, g = V5.heap.size + 1 := ⟨_, rfl⟩
  rw [<- hX6, <- hgtU, <- hgtQ]
  rw [<- hX6, <- hgtQ] at tQ
  rw [<- hX6, <- hgtU] at tU
  rw [<- hX6] at tA tB tG tP tS tR z1 zq3 zr3 zq5 zr5 HB
  clear hX6 hgtQ hgtU
  clear tA tB tG tS tU
  refine wp_region_plan (S := fun w' => Below w.heap.size w w' /\ Two w' (gtP) (.bool nntP0) (.slice AAtP0 jjtP0 mmtP0) /\ Two w' (gtQ) (.bool nntQ0) (.slice AAtQ0 jjtQ0 mmtQ0)) [(0, true), (1, false), (2, false), (3, true)] (by kernel_rfl) (by kernel_rfl) ⟨HB.out.drew, tP.to (Below.refl _ _).drew, tQ.to (Below.refl _ _).drew⟩ ?_
  have hb := HB.out.drew
  replace tP := tP.to (Below.refl _ _).drew
  replace tQ := tQ.to (Below.refl _ _).drew
  replace tR := tR.to (Below.refl _ _).drew
  replace z1 := z1.to (Below.refl _ _).drew
  replace zq3 := zq3.to (Below.refl _ _).drew
  replace zr3 := zr3.to (Below.refl _ _).drew
  replace zq5 := zq5.to (Below.refl _ _).drew
  replace zr5 := zr5.to (Below.refl _ _).drew
  clear HB
  refine plan_take rfl (by rfl) (fun w' hS => load_two (by rfl) (hS.2.2)) ?_; simp only [Act.put, List.setIfInBounds_toArray, List.set_cons_zero, List.set_cons_succ]
  refine plan_call rfl (by rfl) (fun K hK => ?_)
  go_simp
  refine (rone_z).mono ?_
  rintro e V7 ⟨x7, y7, rfl, z7, bb⟩
  replace hb := hb.trans (bb.mono hb.size)
  replace tP := tP.to bb
  replace tQ := tQ.to bb
  replace tR := tR.to bb
  replace z1 := z1.to bb
  replace zq3 := zq3.to bb
  replace zr3 := zr3.to bb
  replace zq5 := zq5.to bb
  replace zr5 := zr5.to bb
  refine hK.out _ _ ⟨hb, tP, tQ⟩ ?_
  clear hK K bb
  refine plan_call rfl (by rfl) (fun K hK => ?_)
  go_simp
  refine (rcmp_v (zq5.zs sD.out) (z7.zs (sg_lit (by decide))) EC.out).mono ?_
  rintro e V8 ⟨rfl, bb⟩
  replace hb := hb.trans (bb.mono hb.size)
  replace tP := tP.to bb
  replace tQ := tQ.to bb
  replace tR := tR.to bb
  replace z1 := z1.to bb
  replace zq3 := zq3.to bb
  replace zr3 := zr3.to bb
  replace zq5 := zq5.to bb
  replace zr5 := zr5.to bb
  replace z7 := z7.to bb
  refine hK.out _ _ ⟨hb, tP, tQ⟩ ?_
  clear hK K bb
  refine plan_take (v := ?_) rfl (by rfl) ?_ ?_; rotate_left; (focus (intro w' hS; go_simp; try with_reducible rfl)); simp only [Act.put, List.setIfInBounds_toArray, List.set_cons_zero, List.set_cons_succ]
  refine plan_done ?_
  have HB := Lib.hid hb
  clear hb
  have kktP0 := tP.c0
  have kktP1 := tP.c1
  have kktQ0 := tQ.c0
  have kktQ1 := tQ.c1
  have rq : Qc _ (.bool nntP0) (.slice AAtP0 jjtP0 mmtP0) (.bool nntQ0) (.slice AAtQ0 jjtQ0 mmtQ0) R := ⟨zq3, by rw [if_neg HO.out]; exact zq5⟩
  have RZ := Lib.hid rq
  obtain ⟨V99, eV, u, kp⟩ := pack4 tR Fq.nil (.bool nntP0) (.slice AAtP0 jjtP0 mmtP0) (.bool nntQ0) (.slice AAtQ0 jjtQ0 mmtQ0)
  obtain ⟨v0, v1, v2, v3, v4, v5, v6, v7, _⟩ := tR
  have EV := Lib.hid eV
  have KP := Lib.hid kp
  have U := Lib.hid u
  clear eV kp u rq
  go_wp2
  rw [EV.out]
  refine bodyPost_ret (v := .agg #[.bool nntP0, .slice AAtP0 jjtP0 mmtP0, .bool nntQ0, .slice AAtQ0 jjtQ0 mmtQ0]) (by simp [results, Tryz.f31, go_sem, U.out.c0, U.out.c1, U.out.c2, U.out.c3]) rfl ?_
  exact ⟨_, _, _, _, rfl, RZ.out.k4 KP.out, KP.out.bel _ _ HB.out (by omega)⟩

theorem over_z {w : World} {n1 n2 d1 d2 : Value} {n d : Int} (h1 : Zl w n1 n2 n) (h2 : Zl w d1 d2 d) (hd : 0 < d) : Calls Tryz.prog 31 #[.agg #[n1, n2], .agg #[d1, d2]] w (QR w (Rat.divInt n d)) := by
  by_cases h : (Rat.divInt n d).den = 1
  · exact over_1 h1 h2 hd h
  · exact over_n h1 h2 hd h

end Go.Proofs.YtgkfbhdaheoecaaGreat

namespace Go.Proofs.YtgkfbhdaheoecaaGreat
open Go.RowKit Go.Shelf

set_option maxRecDepth 100000 in
theorem rleast_q {w : World} {a1 a2 a3 a4 : Value} {r : Rat} {k : Nat} (hA : Qi w a1 a2 a3 a4 r k) (hk : 0 < k) (hk2 : k <= 10000) :
    Calls Tryz.prog 12 #[.agg #[a1, a2, a3, a4]] w (QR w r) := by
  obtain ⟨p, q, h1, h2, rfl, s1, s2⟩ := hA
  have sN : Hid (Sg (upN p q)) := (s1.upN q).sg hk2
  have sD : Hid (Sg (upD q)) := (s2.upD hk).sg hk2
  have pD : Hid (0 < upD q) := upD_pos q
  rw [rv_up]
  clear s1 s2 hk hk2
  obtain ⟨W0, hW0⟩ : ∃ W0, W0 = (w.alloc (.cells #[a1, a2, a3, a4] 26)).alloc (.cells #[.bool false, .slice none 0 0, .bool false, .slice none 0 0] 26) := ⟨_, rfl⟩
  have hbw : Below w.heap.size w W0 := by rw [hW0]; exact (((Below.refl _ _).alloc (Nat.le_refl _) _).alloc (by simp) _)
  have tA : Four W0 (w.heap.size) a1 a2 a3 a4 := by
    have h := Four.new w a1 a2 a3 a4 26
    rw [hW0]; exact (h.alloc _)
  have tR : Four W0 (w.heap.size + 1) (.bool false) (.slice none 0 0) (.bool false) (.slice none 0 0) := by
    have h := Four.new (w.alloc (.cells #[a1, a2, a3, a4] 26)) (.bool false) (.slice none 0 0) (.bool false) (.slice none 0 0) 26
    rw [World.size_alloc] at h
    rw [hW0]; exact h
  replace h1 := h1.to hbw
  replace h2 := h2.to hbw
  have HW0 := Lib.hid hW0
  have HB := Lib.hid hbw
  clear hW0 hbw
  go_enter Tryz.func12, Tryz.ntmps12
  go_wp2_with fail
  rw [<- HW0.out]
  clear HW0
  refine wp_region_plan (S := fun w' => Below w.heap.size w w' /\ Four w' (w.heap.size) a1 a2 a3 a4) [(0, true), (2, true), (1, false), (3, false), (4, false), (5, false)] (by kernel_rfl) (by kernel_rfl) ⟨HB.out.drew, tA.to (Below.refl _ _).drew⟩ ?_
  have hb := HB.out.drew
  replace tA := tA.to (Below.refl _ _).drew
  replace tR := tR.to (Below.refl _ _).drew
  replace h1 := h1.to (Below.refl _ _).drew
  replace h2 := h2.to (Below.refl _ _).drew
  clear HB
  refine plan_take rfl (by rfl) (fun w' hS => load_four (by rfl) (hS.2)) ?_; simp only [Act.put, List.setIfInBounds_toArray, List.set_cons_zero, List.set_cons_succ]
  refine plan_take rfl (by rfl) (fun w' hS => load_four (by rfl) (hS.2)) ?_; simp only [Act.put, List.setIfInBounds_toArray, List.set_cons_zero, List.set_cons_succ]
  refine plan_call rfl (by rfl) (fun K hK => ?_)
  go_simp
  refine (rnum_z h1 h2).mono ?_
  rintro e V1 ⟨x1, y1, rfl, z1, bb⟩
  replace hb := hb.trans (bb.mono hb.size)
  replace tA := tA.to bb
  replace tR := tR.to bb
  replace h1 := h1.to bb
  replace h2 := h2.to bb
  refine hK.out _ _ ⟨hb, tA⟩ ?_
  clear hK K bb
  refine plan_call rfl (by rfl) (fun K hK => ?_)
  go_simp
  refine (rden_z h2).mono ?_
  rintro e V2 ⟨x2, y2, rfl, z2, bb⟩
  replace hb := hb.trans (bb.mono hb.size)
  replace tA := tA.to bb
  replace tR := tR.to bb
  replace z1 := z1.to bb
  refine hK.out _ _ ⟨hb, tA⟩ ?_
  clear hK K bb
  refine plan_call rfl (by rfl) (fun K hK => ?_)
  go_simp
  refine (over_z (z1.zs sN.out) (z2.zs sD.out) pD.out).mono ?_
  rintro e V3 ⟨x3, y3, u3, v3, rfl, q3, bb⟩
  replace hb := hb.trans (bb.mono hb.size)
  replace tA := tA.to bb
  replace tR := tR.to bb
  refine hK.out _ _ ⟨hb, tA⟩ ?_
  clear hK K bb
  refine plan_call rfl (by rfl) (fun K hK => ?_)
  refine wp_store_q (by rfl) (by rfl) tR Fq.nil q3.fq (fun V u kp => ?_)
  replace tA := kp.four (by omega) tA
  replace hb := kp.bel _ _ hb (by omega)
  replace q3 := kp.qc q3
  refine hK.out _ _ ⟨hb, tA⟩ ?_
  clear hK K kp tR tA
  simp only [Act.put, List.setIfInBounds_toArray, List.set_cons_zero, List.set_cons_succ]
  refine plan_done ?_
  have U0 := u.c0
  have U1 := u.c1
  have U2 := u.c2
  have U3 := u.c3
  have RZ := Lib.hid q3
  have HE := Lib.hid hb
  obtain ⟨⟨n1, A1, j1, m1, rfl, rfl⟩, ⟨n2, A2, j2, m2, rfl, rfl⟩⟩ := q3.fq
  clear q3 hb u
  go_wp2
  refine bodyPost_ret (v := .agg #[.bool n1, .slice A1 j1 m1, .bool n2, .slice A2 j2 m2]) (by simp [results, Tryz.f12, go_sem, U0, U1, U2, U3]) rfl ?_
  exact ⟨_, _, _, _, rfl, RZ.out, HE.out⟩


set_option maxRecDepth 100000 in
theorem rneg_q {w : World} {a1 a2 a3 a4 : Value} {r : Rat} {k : Nat} (hA : Qi w a1 a2 a3 a4 r k) (hk : 0 < k) (hk2 : k <= 10000) :
    Calls Tryz.prog 45 #[.agg #[a1, a2, a3, a4]] w (QR w (-r)) := by
  obtain ⟨p, q, h1, h2, rfl, s1, s2⟩ := hA
  have sN : Hid (Sg (upN p q)) := (s1.upN q).sg hk2
  have sD : Hid (Sg (upD q)) := (s2.upD hk).sg hk2
  have pD : Hid (0 < upD q) := upD_pos q
  have sM : Hid (Sg (-(upN p q))) := (s1.upN q).neg.sg hk2
  rw [rv_up, Rat.neg_divInt]
  clear s1 s2 hk hk2
  obtain ⟨W0, hW0⟩ : ∃ W0, W0 = (w.alloc (.cells #[a1, a2, a3, a4] 26)).alloc (.cells #[.bool false, .slice none 0 0, .bool false, .slice none 0 0] 26) := ⟨_, rfl⟩
  have hbw : Below w.heap.size w W0 := by rw [hW0]; exact (((Below.refl _ _).alloc (Nat.le_refl _) _).alloc (by simp) _)
  have tA : Four W0 (w.heap.size) a1 a2 a3 a4 := by
    have h := Four.new w a1 a2 a3 a4 26
    rw [hW0]; exact (h.alloc _)
  have tR : Four W0 (w.heap.size + 1) (.bool false) (.slice none 0 0) (.bool false) (.slice none 0 0) := by
    have h := Four.new (w.alloc (.cells #[a1, a2, a3, a4] 26)) (.bool false) (.slice none 0 0) (.bool false) (.slice none 0 0) 26
    rw [World.size_alloc] at h
    rw [hW0]; exact h
  replace h1 := h1.to hbw
  replace h2 := h2.to hbw
  have HW0 := Lib.hid hW0
  have HB := Lib.hid hbw
  clear hW0 hbw
  go_enter Tryz.func45, Tryz.ntmps45
  go_wp2_with fail
  rw [<- HW0.out]
  clear HW0
  refine wp_region_plan (S := fun w' => Below w.heap.size w w' /\ Four w' (w.heap.size) a1 a2 a3 a4) [(0, true), (3, true), (1, false), (2, false), (4, false), (5, false), (6, false)] (by kernel_rfl) (by kernel_rfl) ⟨HB.out.drew, tA.to (Below.refl _ _).drew⟩ ?_
  have hb := HB.out.drew
  replace tA := tA.to (Below.refl _ _).drew
  replace tR := tR.to (Below.refl _ _).drew
  replace h1 := h1.to (Below.refl _ _).drew
  replace h2 := h2.to (Below.refl _ _).drew
  clear HB
  refine plan_take rfl (by rfl) (fun w' hS => load_four (by rfl) (hS.2)) ?_; simp only [Act.put, List.setIfInBounds_toArray, List.set_cons_zero, List.set_cons_succ]
  refine plan_take rfl (by rfl) (fun w' hS => load_four (by rfl) (hS.2)) ?_; simp only [Act.put, List.setIfInBounds_toArray, List.set_cons_zero, List.set_cons_succ]
  refine plan_call rfl (by rfl) (fun K hK => ?_)
  go_simp
  refine (rnum_z h1 h2).mono ?_
  rintro e V1 ⟨x1, y1, rfl, z1, bb⟩
  replace hb := hb.trans (bb.mono hb.size)
  replace tA := tA.to bb
  replace tR := tR.to bb
  replace h2 := h2.to bb
  refine hK.out _ _ ⟨hb, tA⟩ ?_
  clear hK K bb
  refine plan_call rfl (by rfl) (fun K hK => ?_)
  go_simp
  refine (rneg_z (z1.zs sN.out)).mono ?_
  rintro e V2 ⟨x2, y2, rfl, z2, bb⟩
  replace hb := hb.trans (bb.mono hb.size)
  replace tA := tA.to bb
  replace tR := tR.to bb
  replace h2 := h2.to bb
  refine hK.out _ _ ⟨hb, tA⟩ ?_
  clear hK K bb
  refine plan_call rfl (by rfl) (fun K hK => ?_)
  go_simp
  refine (rden_z h2).mono ?_
  rintro e V3 ⟨x3, y3, rfl, z3, bb⟩
  replace hb := hb.trans (bb.mono hb.size)
  replace tA := tA.to bb
  replace tR := tR.to bb
  replace z2 := z2.to bb
  refine hK.out _ _ ⟨hb, tA⟩ ?_
  clear hK K bb
  refine plan_call rfl (by rfl) (fun K hK => ?_)
  go_simp
  refine (over_z (z2.zs sM.out) (z3.zs sD.out) pD.out).mono ?_
  rintro e V4 ⟨x4, y4, u4, v4, rfl, q4, bb⟩
  replace hb := hb.trans (bb.mono hb.size)
  replace tA := tA.to bb
  replace tR := tR.to bb
  refine hK.out _ _ ⟨hb, tA⟩ ?_
  clear hK K bb
  refine plan_call rfl (by rfl) (fun K hK => ?_)
  refine wp_store_q (by rfl) (by rfl) tR Fq.nil q4.fq (fun V u kp => ?_)
  replace tA := kp.four (by omega) tA
  replace hb := kp.bel _ _ hb (by omega)
  replace q4 := kp.qc q4
  refine hK.out _ _ ⟨hb, tA⟩ ?_
  clear hK K kp tR tA
  simp only [Act.put, List.setIfInBounds_toArray, List.set_cons_zero, List.set_cons_succ]
  refine plan_done ?_
  have U0 := u.c0
  have U1 := u.c1
  have U2 := u.c2
  have U3 := u.c3
  have RZ := Lib.hid q4
  have HE := Lib.hid hb
  obtain ⟨⟨n1, A1, j1, m1, rfl, rfl⟩, ⟨n2, A2, j2, m2, rfl, rfl⟩⟩ := q4.fq
  clear q4 hb u
  go_wp2
  refine bodyPost_ret (v := .agg #[.bool n1, .slice A1 j1 m1, .bool n2, .slice A2 j2 m2]) (by simp [results, Tryz.f45, go_sem, U0, U1, U2, U3]) rfl ?_
  exact ⟨_, _, _, _, rfl, RZ.out, HE.out⟩


end Go.Proofs.YtgkfbhdaheoecaaGreat

namespace Go.Proofs.YtgkfbhdaheoecaaGreat
open Go.RowKit Go.Shelf

set_option maxRecDepth 100000 in
theorem rint_q (n : Int) (n1 : -9223372036854775808 <= n) (n2 : n <= 9223372036854775807) (w : World) :
    Calls Tryz.prog 15 #[.int .i64 n] w (QR w (n : Rat)) := by
  have HN := Lib.hid fun W => rfrom_z n n1 n2 W
  clear n1 n2
  obtain ⟨W0, hW0⟩ : ∃ W0, W0 = w.alloc (.cells #[.bool false, .slice none 0 0, .bool false, .slice none 0 0] 26) := ⟨_, rfl⟩
  have hbw : Below w.heap.size w W0 := by rw [hW0]; exact ((Below.refl _ _).alloc (Nat.le_refl _) _)
  have tR : Four W0 (w.heap.size) (.bool false) (.slice none 0 0) (.bool false) (.slice none 0 0) := by
    have h := Four.new w (.bool false) (.slice none 0 0) (.bool false) (.slice none 0 0) 26
    rw [hW0]; exact h
  have HW0 := Lib.hid hW0
  have HB := Lib.hid hbw
  clear hW0 hbw
  go_enter Tryz.func15, Tryz.ntmps15
  go_wp2_with fail
  rw [<- HW0.out]
  clear HW0
  go_wp2_with fail
  refine (HN.out _).mono ?_
  rintro e V1 ⟨x1, y1, rfl, z1, bb⟩
  replace tR := tR.to bb
  replace HB := Lib.hid (HB.out.trans (bb.mono HB.out.size))
  clear bb
  have rq : Qc _ x1 y1 (.bool false) (.slice none 0 0) (n : Rat) := ⟨z1, zc_nil _⟩
  have RZ := Lib.hid rq
  obtain ⟨V99, eV, u, kp⟩ := pack4 tR Fq.nil x1 y1 (.bool false) (.slice none 0 0)
  obtain ⟨n1, A1, j1, m1, rfl, rfl⟩ := rq.fq.1
  obtain ⟨v0, v1, v2, v3, v4, v5, v6, v7, _⟩ := tR
  have EV := Lib.hid eV
  have KP := Lib.hid kp
  have U := Lib.hid u
  clear eV kp u rq
  go_wp2
  rw [EV.out]
  refine bodyPost_ret (v := .agg #[.bool n1, .slice A1 j1 m1, .bool false, .slice none 0 0]) (by simp [results, Tryz.f15, go_sem, U.out.c0, U.out.c1, U.out.c2, U.out.c3]) rfl ?_
  exact ⟨_, _, _, _, rfl, RZ.out.k4 KP.out, KP.out.bel _ _ HB.out (by omega)⟩


set_option maxRecDepth 100000 in
theorem rof_q (n d : Int) (n1 : -9223372036854775808 <= n) (n2 : n <= 9223372036854775807) (d1 : -9223372036854775808 <= d) (d2 : d <= 9223372036854775807) (w : World) :
    Calls Tryz.prog 10 #[.int .i64 n, .int .i64 d] w (QR w (rv n d)) := by
  have HN := Lib.hid fun W => rfrom_z n n1 n2 W
  have HD := Lib.hid fun W => rfrom_z d d1 d2 W
  have s2 : ∀ v : Int, -9223372036854775808 <= v -> v <= 9223372036854775807 -> Sm 2 v := fun v h1 h2 => by
    unfold Sm
    rw [show b32 ^ 2 = 18446744073709551616 from by decide]
    omega
  have mn : Hid (Sm 2 n) := s2 n n1 n2
  have md : Hid (Sm 2 d) := s2 d d1 d2
  clear n1 n2 d1 d2 s2
  obtain ⟨W0, hW0⟩ : ∃ W0, W0 = w.alloc (.cells #[.bool false, .slice none 0 0, .bool false, .slice none 0 0] 26) := ⟨_, rfl⟩
  have hbw : Below w.heap.size w W0 := by rw [hW0]; exact ((Below.refl _ _).alloc (Nat.le_refl _) _)
  have tR : Four W0 (w.heap.size) (.bool false) (.slice none 0 0) (.bool false) (.slice none 0 0) := by
    have h := Four.new w (.bool false) (.slice none 0 0) (.bool false) (.slice none 0 0) 26
    rw [hW0]; exact h
  have HW0 := Lib.hid hW0
  have HB := Lib.hid hbw
  clear hW0 hbw
  go_enter Tryz.func10, Tryz.ntmps10
  go_wp2_with fail
  rw [<- HW0.out]
  clear HW0
  go_wp2_with fail
  refine (HN.out _).mono ?_
  rintro e V1 ⟨x1, y1, rfl, z1, bb⟩
  replace tR := tR.to bb
  replace HB := Lib.hid (HB.out.trans (bb.mono HB.out.size))
  clear bb
  go_wp2_with fail
  refine (HD.out _).mono ?_
  rintro e V2 ⟨x2, y2, rfl, z2, bb⟩
  replace tR := tR.to bb
  replace z1 := z1.to bb
  replace HB := Lib.hid (HB.out.trans (bb.mono HB.out.size))
  clear bb
  go_wp2_with fail
  refine (rleast_q (k := 2) ⟨_, _, z1.zl mn.out (by decide), z2.zl md.out (by decide), rfl, mn.out, md.out⟩ (by decide) (by decide)).mono ?_
  rintro e V3 ⟨x3, y3, u3, v3, rfl, q3, bb⟩
  replace tR := tR.to bb
  replace HB := Lib.hid (HB.out.trans (bb.mono HB.out.size))
  clear bb
  have RZ := Lib.hid q3
  obtain ⟨V99, eV, u, kp⟩ := pack4 tR Fq.nil x3 y3 u3 v3
  obtain ⟨⟨n1, A1, j1, m1, rfl, rfl⟩, ⟨n2, A2, j2, m2, rfl, rfl⟩⟩ := q3.fq
  obtain ⟨v0, v1, v2, v3, v4, v5, v6, v7, _⟩ := tR
  have EV := Lib.hid eV
  have KP := Lib.hid kp
  have U := Lib.hid u
  clear eV kp u q3
  go_wp2
  rw [EV.out]
  refine bodyPost_ret (v := .agg #[.bool n1, .slice A1 j1 m1, .bool n2, .slice A2 j2 m2]) (by simp [results, Tryz.f10, go_sem, U.out.c0, U.out.c1, U.out.c2, U.out.c3]) rfl ?_
  exact ⟨_, _, _, _, rfl, RZ.out.k4 KP.out, KP.out.bel _ _ HB.out (by omega)⟩


/-- Two lists of words that stand for what they stand for. -/
theorem Zc.same {w : World} {x y x' y' : Value} {a b : Int} (ha : Zc w x y a) (hb : Zc w x' y' b) {v : Bool} (hv : decide (a = b) = v) : Calls Tryz.prog 18 #[.agg #[x, y], .agg #[x', y']] w fun e w' => e = .returned (.bool v) /\ Below w.heap.size w w' := by
  subst hv; exact same_c ha hb
theorem den_cell {r s : Rat} (h : r ≠ s) (hn : r.num = s.num) : (if r.den = 1 then 0 else (r.den : Int)) ≠ (if s.den = 1 then 0 else (s.den : Int)) := by
  intro h2
  apply h
  refine Rat.ext hn ?_
  have h3 := r.den_pos
  have h4 := s.den_pos
  split at h2 <;> split at h2 <;> omega


set_option maxRecDepth 100000 in
theorem is_t {w : World} {a1 a2 a3 a4 b1 b2 b3 b4 : Value} {r s : Rat} (hA : Qc w a1 a2 a3 a4 r) (hB : Qc w b1 b2 b3 b4 s) (h : r = s) :
    Calls Tryz.prog 9 #[.agg #[a1, a2, a3, a4], .agg #[b1, b2, b3, b4]] w (fun e w' => e = .returned (.bool true) /\ Below w.heap.size w w') := by
  have e1 : Hid (decide (r.num = s.num) = true) := decide_eq_true (by rw [h])
  have e2 : Hid (decide ((if r.den = 1 then 0 else (r.den : Int)) = (if s.den = 1 then 0 else (s.den : Int))) = true) := decide_eq_true (by rw [h])
  clear h
  obtain ⟨W0, hW0⟩ : ∃ W0, W0 = (w.alloc (.cells #[a1, a2, a3, a4] 26)).alloc (.cells #[b1, b2, b3, b4] 26) := ⟨_, rfl⟩
  have hbw : Below w.heap.size w W0 := by rw [hW0]; exact (((Below.refl _ _).alloc (Nat.le_refl _) _).alloc (by simp) _)
  have tA : Four W0 (w.heap.size) a1 a2 a3 a4 := by
    have h := Four.new w a1 a2 a3 a4 26
    rw [hW0]; exact (h.alloc _)
  have tB : Four W0 (w.heap.size + 1) b1 b2 b3 b4 := by
    have h := Four.new (w.alloc (.cells #[a1, a2, a3, a4] 26)) b1 b2 b3 b4 26
    rw [World.size_alloc] at h
    rw [hW0]; exact h
  replace hA := hA.to hbw
  replace hB := hB.to hbw
  have HW0 := Lib.hid hW0
  have HB := Lib.hid hbw
  clear hW0 hbw
  go_enter Tryz.func9, Tryz.ntmps9
  go_wp2_with fail
  rw [<- HW0.out]
  clear HW0
  have kktA0 := tA.c0
  have kktA1 := tA.c1
  have kktA2 := tA.c2
  have kktA3 := tA.c3
  have kktB0 := tB.c0
  have kktB1 := tB.c1
  have kktB2 := tB.c2
  have kktB3 := tB.c3
  go_wp2_with fail
  refine (hA.1.same hB.1 e1.out).mono ?_
  rintro e V1 ⟨rfl, bb⟩
  clear kktA0 kktA1 kktA2 kktA3 kktB0 kktB1 kktB2 kktB3
  replace tA := tA.to bb
  replace tB := tB.to bb
  replace hA := hA.to bb
  replace hB := hB.to bb
  replace HB := Lib.hid (HB.out.trans (bb.mono HB.out.size))
  clear bb
  have kktA0 := tA.c0
  have kktA1 := tA.c1
  have kktA2 := tA.c2
  have kktA3 := tA.c3
  have kktB0 := tB.c0
  have kktB1 := tB.c1
  have kktB2 := tB.c2
  have kktB3 := tB.c3
  go_wp2_with fail
  refine (hA.2.same hB.2 e2.out).mono ?_
  rintro e V2 ⟨rfl, bb⟩
  clear kktA0 kktA1 kktA2 kktA3 kktB0 kktB1 kktB2 kktB3
  replace tA := tA.to bb
  replace tB := tB.to bb
  replace HB := Lib.hid (HB.out.trans (bb.mono HB.out.size))
  clear bb
  clear tA tB
  go_wp2
  go_ret
  exact ⟨rfl, HB.out⟩


set_option maxRecDepth 100000 in
theorem is_n {w : World} {a1 a2 a3 a4 b1 b2 b3 b4 : Value} {r s : Rat} (hA : Qc w a1 a2 a3 a4 r) (hB : Qc w b1 b2 b3 b4 s) (h : r.num ≠ s.num) :
    Calls Tryz.prog 9 #[.agg #[a1, a2, a3, a4], .agg #[b1, b2, b3, b4]] w (fun e w' => e = .returned (.bool false) /\ Below w.heap.size w w') := by
  have e1 : Hid (decide (r.num = s.num) = false) := decide_eq_false h
  clear h
  obtain ⟨W0, hW0⟩ : ∃ W0, W0 = (w.alloc (.cells #[a1, a2, a3, a4] 26)).alloc (.cells #[b1, b2, b3, b4] 26) := ⟨_, rfl⟩
  have hbw : Below w.heap.size w W0 := by rw [hW0]; exact (((Below.refl _ _).alloc (Nat.le_refl _) _).alloc (by simp) _)
  have tA : Four W0 (w.heap.size) a1 a2 a3 a4 := by
    have h := Four.new w a1 a2 a3 a4 26
    rw [hW0]; exact (h.alloc _)
  have tB : Four W0 (w.heap.size + 1) b1 b2 b3 b4 := by
    have h := Four.new (w.alloc (.cells #[a1, a2, a3, a4] 26)) b1 b2 b3 b4 26
    rw [World.size_alloc] at h
    rw [hW0]; exact h
  replace hA := hA.to hbw
  replace hB := hB.to hbw
  have HW0 := Lib.hid hW0
  have HB := Lib.hid hbw
  clear hW0 hbw
  go_enter Tryz.func9, Tryz.ntmps9
  go_wp2_with fail
  rw [<- HW0.out]
  clear HW0
  have kktA0 := tA.c0
  have kktA1 := tA.c1
  have kktA2 := tA.c2
  have kktA3 := tA.c3
  have kktB0 := tB.c0
  have kktB1 := tB.c1
  have kktB2 := tB.c2
  have kktB3 := tB.c3
  go_wp2_with fail
  refine (hA.1.same hB.1 e1.out).mono ?_
  rintro e V1 ⟨rfl, bb⟩
  clear kktA0 kktA1 kktA2 kktA3 kktB0 kktB1 kktB2 kktB3
  replace tA := tA.to bb
  replace tB := tB.to bb
  replace hA := hA.to bb
  replace hB := hB.to bb
  replace HB := Lib.hid (HB.out.trans (bb.mono HB.out.size))
  clear bb
  clear tA tB
  go_wp2
  go_ret
  exact ⟨rfl, HB.out⟩


set_option maxRecDepth 100000 in
theorem is_d {w : World} {a1 a2 a3 a4 b1 b2 b3 b4 : Value} {r s : Rat} (hA : Qc w a1 a2 a3 a4 r) (hB : Qc w b1 b2 b3 b4 s) (h : r ≠ s) (hn : r.num = s.num) :
    Calls Tryz.prog 9 #[.agg #[a1, a2, a3, a4], .agg #[b1, b2, b3, b4]] w (fun e w' => e = .returned (.bool false) /\ Below w.heap.size w w') := by
  have e1 : Hid (decide (r.num = s.num) = true) := decide_eq_true hn
  have e2 : Hid (decide ((if r.den = 1 then 0 else (r.den : Int)) = (if s.den = 1 then 0 else (s.den : Int))) = false) := decide_eq_false (den_cell h hn)
  clear h hn
  obtain ⟨W0, hW0⟩ : ∃ W0, W0 = (w.alloc (.cells #[a1, a2, a3, a4] 26)).alloc (.cells #[b1, b2, b3, b4] 26) := ⟨_, rfl⟩
  have hbw : Below w.heap.size w W0 := by rw [hW0]; exact (((Below.refl _ _).alloc (Nat.le_refl _) _).alloc (by simp) _)
  have tA : Four W0 (w.heap.size) a1 a2 a3 a4 := by
    have h := Four.new w a1 a2 a3 a4 26
    rw [hW0]; exact (h.alloc _)
  have tB : Four W0 (w.heap.size + 1) b1 b2 b3 b4 := by
    have h := Four.new (w.alloc (.cells #[a1, a2, a3, a4] 26)) b1 b2 b3 b4 26
    rw [World.size_alloc] at h
    rw [hW0]; exact h
  replace hA := hA.to hbw
  replace hB := hB.to hbw
  have HW0 := Lib.hid hW0
  have HB := Lib.hid hbw
  clear hW0 hbw
  go_enter Tryz.func9, Tryz.ntmps9
  go_wp2_with fail
  rw [<- HW0.out]
  clear HW0
  have kktA0 := tA.c0
  have kktA1 := tA.c1
  have kktA2 := tA.c2
  have kktA3 := tA.c3
  have kktB0 := tB.c0
  have kktB1 := tB.c1
  have kktB2 := tB.c2
  have kktB3 := tB.c3
  go_wp2_with fail
  refine (hA.1.same hB.1 e1.out).mono ?_
  rintro e V1 ⟨rfl, bb⟩
  clear kktA0 kktA1 kktA2 kktA3 kktB0 kktB1 kktB2 kktB3
  replace tA := tA.to bb
  replace tB := tB.to bb
  replace hA := hA.to bb
  replace hB := hB.to bb
  replace HB := Lib.hid (HB.out.trans (bb.mono HB.out.size))
  clear bb
  have kktA0 := tA.c0
  have kktA1 := tA.c1
  have kktA2 := tA.c2
  have kktA3 := tA.c3
  have kktB0 := tB.c0
  have kktB1 := tB.c1
  have kktB2 := tB.c2
  have kktB3 := tB.c3
  go_wp2_with fail
  refine (hA.2.same hB.2 e2.out).mono ?_
  rintro e V2 ⟨rfl, bb⟩
  clear kktA0 kktA1 kktA2 kktA3 kktB0 kktB1 kktB2 kktB3
  replace tA := tA.to bb
  replace tB := tB.to bb
  replace HB := Lib.hid (HB.out.trans (bb.mono HB.out.size))
  clear bb
  clear tA tB
  go_wp2
  go_ret
  exact ⟨rfl, HB.out⟩

theorem is_q {w : World} {a1 a2 a3 a4 b1 b2 b3 b4 : Value} {r s : Rat} (hA : Qc w a1 a2 a3 a4 r) (hB : Qc w b1 b2 b3 b4 s) {v : Bool} (hv : decide (r = s) = v) : Calls Tryz.prog 9 #[.agg #[a1, a2, a3, a4], .agg #[b1, b2, b3, b4]] w fun e w' => e = .returned (.bool v) /\ Below w.heap.size w w' := by
  subst hv
  by_cases h : r = s
  · rw [decide_eq_true h]; exact is_t hA hB h
  · rw [decide_eq_false h]
    by_cases hn : r.num = s.num
    · exact is_d hA hB h hn
    · exact is_n hA hB hn


end Go.Proofs.YtgkfbhdaheoecaaGreat

namespace Go.Proofs.YtgkfbhdaheoecaaGreat
open Go.RowKit Go.Shelf

theorem wp_append_out {P : Program} {w w' : World} {a : Act} {K : Act -> World -> Prop} {Q : Exit -> Act -> World -> Prop} {v u v' : Value} {d : Option Tmp} {s x : Operand} {t ty : TypeId} {pos : String} {after : Array Edge}
    (hs : a.eval s = v) (hx : a.eval x = u) (hrun : (Builtin.append_ #[t, t] ty #[v, u]).run P w = .ok v' w') (h : K (a.put d v') w') :
    Oper.wp P ⟨d, .call { callee := .builtin .append, args := #[s, x], argTypes := #[t, t] }, ty, pos, after, none⟩ a w K Q := by
  have h1 := step_append_out (ops := #[]) (E := True) (Q := Q) (o := ⟨d, .call { callee := .builtin .append, args := #[s, x], argTypes := #[t, t] }, ty, pos, after, none⟩) rfl s x t rfl hs hx hrun h
  rwa [if_pos (by simp [Region.wanted])] at h1

/-- A copy of a row behind nothing: in new memory. -/
theorem append_copy {w : World} {A : Option Addr} {c : Nat} {xs : List Nat} (h : Rd .u32 w w.heap.size A xs) (hs : xs.length <= 4294967295) {i : TypeInfo} (hi : Tryz.prog.info? 56 = some i) (hz0 : i.zero = some (.int .u32 0)) (hz1 : i.size = 1) (hz2 : i.bytes = 4) :
    ∃ A2 c2 w1, (Builtin.append_ #[22, 22] 22 #[.slice none 0 0, .slice A xs.length c]).run Tryz.prog w = .ok (.slice A2 xs.length c2) w1 /\
      Rd .u32 w1 w1.heap.size A2 xs /\ xs.length <= c2 /\ c2 <= 9223372036854775807 /\ Below w.heap.size w w1 := by
  cases A with
  | none =>
    have hO : xs = [] := by
      cases xs with
      | nil => rfl
      | cons d r => obtain ⟨b, o, e, _⟩ := h 0 (by simp); cases e
    subst hO
    exact ⟨none, 0, _, run_append_nothing _ 22 22 22 56 i Tryz.underlying22 hi _ 0 0 (Nat.le_refl _) _ (Src.ofNil _ Tryz.underlying22 c), Rd.nil, by simp, by decide, Below.refl _ _⟩
  | some a =>
    obtain ⟨v', w1, hrun, hown', hgrow, _, _⟩ := run_append_own_at (P := Tryz.prog) w w.heap.size 22 22 56 i (.int .u32 0) 1 4
      Tryz.underlying22 hi hz0 hz1 hz2 rfl (by decide) _ 0 _ (World.ownsRow_nil w w.heap.size 56 1) a xs.length c (ints .u32 xs) (by simp [ints]) (Rd.news h (Below.refl _ _)) (by
        intro u hu
        obtain ⟨d, _, rfl⟩ := List.mem_map.1 hu
        rfl) (by unfold maxLen; omega) (by omega) (by simp)
    obtain ⟨A2, c2, rfl⟩ := own_shape hown'
    rw [Nat.zero_add] at hrun hown'
    obtain ⟨hc1, hc2⟩ := own_caps hown'
    exact ⟨A2, c2, w1, hrun, Rd.of_own (by simpa [ints] using hown') (Nat.le_refl _), hc1, hc2, (Below.refl _ _).grown hgrow (Nat.le_refl _) (fun j e => by simp [Value.ownBlock] at e)⟩

/-- Two cells that hold this flag and these words. -/
def Zx (W : World) (x y : Value) (n : Bool) (xs : List Nat) : Prop := ∃ A c, x = .bool n /\ y = .slice A xs.length c /\ Arg W A c xs

theorem Zx.to {W V : World} {x y : Value} {n : Bool} {xs : List Nat} (h : Zx W x y n xs) (hb : Below W.heap.size W V) : Zx V x y n xs := by
  obtain ⟨A, c, h1, h2, h3⟩ := h
  exact ⟨A, c, h1, h2, h3.to hb⟩
theorem Zx.fs {W : World} {x y : Value} {n : Bool} {xs : List Nat} (h : Zx W x y n xs) : Fs x y := by
  obtain ⟨A, c, rfl, rfl, _⟩ := h
  exact ⟨_, _, _, _, rfl, rfl⟩
theorem Zx.zl {W : World} {x y : Value} {n : Bool} {xs : List Nat} (h : Zx W x y n xs) (hl : xs.length <= 10000) : Zl W x y (zof n (val b32 xs)) := by
  obtain ⟨A, c, rfl, rfl, h3⟩ := h
  exact ⟨n, A, c, xs, rfl, rfl, h3, hl, rfl⟩
theorem Zx.kept {g : Nat} {w V : World} (kp : Kept g w V) {x y : Value} {n : Bool} {xs : List Nat} (h : Zx w x y n xs) (hr : ∀ A, Rd .u32 w w.heap.size A xs -> Rd .u32 V V.heap.size A xs) : Zx V x y n xs := by
  obtain ⟨A, c, rfl, rfl, ⟨r1, r2, r3, r4, r5⟩⟩ := h
  exact ⟨A, c, rfl, rfl, ⟨hr A r1, r2, r3, r4, r5⟩⟩
theorem same_x {w : World} {x y x' y' : Value} {n : Bool} {xs : List Nat} (h : Zx w x y n xs) (h' : Zx w x' y' n xs) : Calls Tryz.prog 18 #[.agg #[x, y], .agg #[x', y']] w fun e w' => e = .returned (.bool true) /\ Below w.heap.size w w' := by
  obtain ⟨A, c, rfl, rfl, r⟩ := h
  obtain ⟨A', c', rfl, rfl, r'⟩ := h'
  have h := same_any n n r.rd r'.rd r.le r.cap r'.le r'.cap
  rw [decide_eq_true ⟨rfl, rfl⟩] at h
  exact h

theorem val_inj {b : Nat} (hb : 0 < b) : ∀ {xs ys : List Nat}, Dg b xs -> Dg b ys -> xs.length = ys.length -> val b xs = val b ys -> xs = ys
  | [], [], _, _, _, _ => rfl
  | [], _ :: _, _, _, h, _ => by simp at h
  | _ :: _, [], _, _, h, _ => by simp at h
  | d :: r, e :: s, hx, hy, hl, hv => by
    have h1 := hx d (by simp)
    have h2 := hy e (by simp)
    simp only [val] at hv
    have hd : d = e := by
      have := congrArg (· % b) hv
      simpa [Nat.add_mul_mod_self_left, Nat.mod_eq_of_lt h1, Nat.mod_eq_of_lt h2] using this
    subst hd
    have hv2 : b * val b r = b * val b s := by omega
    rw [val_inj hb (fun q hq => hx q (by simp [hq])) (fun q hq => hy q (by simp [hq])) (by simpa using hl) (Nat.eq_of_mul_eq_mul_left hb hv2)]

theorem Kept.arg {g : Nat} {w V : World} (kp : Kept g w V) {A : Option Addr} {c : Nat} {xs : List Nat} (h : Arg w A c xs) : Arg V A c xs := by
  obtain ⟨n, A', c', xs', e1, e2, h3, h4⟩ := kp.zi _ _ _ ⟨false, A, c, xs, rfl, rfl, h, rfl⟩
  injection e1 with e1
  injection e2 with e2 e3 e4
  subst e1 e2 e4
  have : xs = xs' := val_inj (by decide) h.dg h3.dg e3 (by have h5 := h4.symm; simp only [zof, Bool.false_eq_true, if_false] at h5; omega)
  subst this
  exact h3

theorem own_any (n : Bool) {A : Option Addr} {c : Nat} {xs : List Nat} {w : World} (hx : Arg w A c xs) (sx : xs.length <= 10000) :
    Calls Tryz.prog 27 #[.agg #[.bool n, .slice A xs.length c]] w fun e w' => ∃ x y, e = .returned (.agg #[x, y]) /\ Zx w' x y n xs /\ Below w.heap.size w w' := by
  obtain ⟨W0, hW0⟩ : ∃ W0, W0 = ((w.alloc (.cells #[.bool n, .slice A xs.length c] 24)).alloc (.cells #[.bool false, .slice none 0 0] 24)) := ⟨_, rfl⟩
  have hb : Below w.heap.size w W0 := by rw [hW0]; exact ((Below.refl _ _).alloc (Nat.le_refl _) _).alloc (by simp) _
  have tX : Two W0 (w.heap.size) (.bool n) (.slice A xs.length c) := by
    have h := Two.new w (.bool n) (.slice A xs.length c) 24
    rw [hW0]; exact h.alloc _
  have tR : Two W0 (w.heap.size + 1) (.bool false) (.slice none 0 0) := by
    have h := Two.new (w.alloc (.cells #[.bool n, .slice A xs.length c] 24)) (.bool false) (.slice none 0 0) 24
    rw [World.size_alloc] at h
    rw [hW0]; exact h
  have HW0 := Lib.hid hW0
  have HB0 := Lib.hid hb
  have HX := Lib.hid hx
  have hBW : w.heap.size + 1 <= W0.heap.size := by rw [hW0]; simp
  have Dsx : val b32 xs < b16 ^ (2 * xs.length) := by rw [<- pow_2k]; exact val_lt hx.dg
  clear hW0 hb hx
  obtain ⟨i0, hi, hz0, hz1, hz2⟩ := info_parts infoWord
  go_enter Tryz.func27, Tryz.ntmps27
  go_wp2_with fail
  rw [<- HW0.out]
  refine wp_region_plan (S := fun w' => Below (w.heap.size + 1) W0 w') [(0, true), (1, true), (2, true), (3, true), (4, false), (5, true), (6, false)] (by kernel_rfl) (by kernel_rfl) (Below.refl _ _).drew ?_
  have HB := (Below.refl W0.heap.size W0).drew
  repeat (refine plan_take (v := ?_) rfl (by rfl) ?_ ?_; rotate_left; (focus (intro w' hS; have k0 := (tX.toB hS (by omega)).c0; have k1 := (tX.toB hS (by omega)).c1; go_simp; try with_reducible rfl)); simp only [Act.put, List.setIfInBounds_toArray, List.set_cons_zero, List.set_cons_succ])
  have AC := append_copy (c := c) (HX.out.to (HB0.out.trans (HB.mono HB0.out.size))).rd HX.out.small hi hz0 hz1 hz2
  obtain ⟨A2, c2, w1, hrun, r1, l1, m1, bb⟩ := AC
  refine plan_call rfl (by rfl) (fun K hK => ?_)
  refine wp_append_out (by rfl) (by rfl) hrun ?_
  have hx1 : Arg w1 A2 c2 xs := ⟨r1, HX.out.dg, l1, m1, HX.out.small⟩
  replace HB := HB.trans (bb.mono HB.size)
  refine hK.out _ _ (HB.mono hBW) ?_
  clear hK K hrun r1 l1 m1 bb
  simp only [Act.put, List.setIfInBounds_toArray, List.set_cons_zero, List.set_cons_succ]
  repeat (refine plan_take (v := ?_) rfl (by rfl) ?_ ?_; rotate_left; (focus (intro w' hS; have k0 := (tX.toB hS (by omega)).c0; have k1 := (tX.toB hS (by omega)).c1; go_simp; try with_reducible rfl)); simp only [Act.put, List.setIfInBounds_toArray, List.set_cons_zero, List.set_cons_succ])
  refine plan_call rfl (by rfl) (fun K hK => ?_)
  refine wp_store_two (by rfl) (by rfl) (tR.to HB) Fs.nil ⟨_, _, _, _, rfl, rfl⟩ (fun V u kp => ?_)
  have HF : Arg V A2 c2 xs := kp.arg hx1
  have HE := kp.bel _ _ (HB0.out.trans (HB.mono HB0.out.size)) (by omega)
  refine hK.out _ _ (kp.bel _ _ (HB.mono hBW) (Nat.le_refl _)) ?_
  clear hK K kp
  simp only [Act.put, List.setIfInBounds_toArray, List.set_cons_zero, List.set_cons_succ]
  refine plan_done ?_
  have HF2 := Lib.hid HF
  have HE2 := Lib.hid HE
  clear HF HE
  go_wp2
  exact bodyPost_ret (v := .agg #[.bool n, .slice A2 xs.length c2]) (by simp [results, Tryz.f27, go_sem, u.c0, u.c1]) rfl ⟨_, _, rfl, ⟨A2, c2, rfl, rfl, HF2.out⟩, HE2.out⟩
end Go.Proofs.YtgkfbhdaheoecaaGreat
