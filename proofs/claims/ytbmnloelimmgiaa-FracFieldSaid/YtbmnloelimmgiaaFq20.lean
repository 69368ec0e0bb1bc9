/- Parts: Q3. -/
import Derived.Test.YtbmnloelimmgiaaFq18
import Derived.Test.YtbmnloelimmgiaaFq19
set_option linter.unusedVariables false
set_option linter.unusedSimpArgs false

namespace Go.Proofs.Ytbmnloelimmgiaa
set_option maxRecDepth 100000
open Go.RowKit Go.Shelf

theorem sgn_num (r : Rat) : sgn r.num = if r = 0 then 0 else if r < 0 then -1 else 1 := by
  have h1 : r.num = 0 ↔ r = 0 := Rat.num_eq_zero
  have h2 : 0 ≤ r.num ↔ 0 ≤ r := Rat.num_nonneg
  have h3 : r < 0 ↔ ¬ 0 ≤ r := Rat.not_le.symm
  unfold sgn
  simp only [h1, h3, ← h2]
  repeat' split
  all_goals omega
/-- The sign of a rational. -/
def sgnQ (r : Rat) : Int := sgn r.num
theorem sgnQ_zero {r : Rat} : sgnQ r = 0 ↔ r = 0 := by
  unfold sgnQ
  rw [sgn_zero, Rat.num_eq_zero]
theorem sgn_divInt {n d : Int} (hd : 0 < d) : sgn (Rat.divInt n d).num = sgn n := by
  have h1 : (Rat.divInt n d).num = 0 ↔ n = 0 := by
    rw [Rat.num_eq_zero]
    constructor
    · intro h
      have := (Rat.divInt_eq_divInt_iff (n₁ := n) (n₂ := 0) (d₁ := d) (d₂ := 1) (by omega) (by decide)).1 (by rw [h]; rfl)
      omega
    · rintro rfl; exact Rat.zero_divInt _
  have h2 : 0 ≤ (Rat.divInt n d).num ↔ 0 ≤ n := by rw [Rat.num_nonneg, Rat.divInt_nonneg_iff_of_pos_right hd]
  unfold sgn
  simp only [h1]
  repeat' split
  all_goals omega
theorem sgn_up (p q : Int) : sgnQ (rv p q) = sgn (upN p q) := by
  unfold sgnQ
  rw [rv_up, sgn_divInt (upD_pos q)]
theorem sgn_neg_wrap (p : Int) : IntKind.i64.wrap (-(sgn p)) = sgn (-p) := by
  unfold sgn
  by_cases h0 : p = 0
  · subst h0; decide
  · by_cases h1 : p < 0
    · rw [if_neg h0, if_pos h1, if_neg (by omega), if_neg (by omega)]; decide
    · rw [if_neg h0, if_neg h1, if_neg (by omega), if_pos (by omega)]; decide


set_option maxHeartbeats 8000000 in
theorem add_q {w : World} {a1 a2 a3 a4 b1 b2 b3 b4 : Value} {r s : Rat} {k l : Nat} (h1 : Qi w a1 a2 a3 a4 r k) (h2 : Qi w b1 b2 b3 b4 s l) (hk : 0 < k) (hl : 0 < l) (hkl : k + l + 1 ≤ 10000) : Calls Try.prog 9 #[.agg #[a1, a2, a3, a4], .agg #[b1, b2, b3, b4]] w (QR w (r + s)) := by
  obtain ⟨W0, hW0⟩ : ∃ W0, W0 = ((w.alloc (.cells #[a1, a2, a3, a4] 26)).alloc (.cells #[b1, b2, b3, b4] 26)).alloc (.cells #[.bool false, .slice none 0 0, .bool false, .slice none 0 0] 26) := ⟨_, rfl⟩
  have hbw : Below w.heap.size w W0 := by rw [hW0]; exact (((Below.refl _ _).alloc (Nat.le_refl _) _).alloc (by simp) _).alloc (by simp; omega) _
  have tA : Four W0 w.heap.size a1 a2 a3 a4 := by rw [hW0]; exact ((Four.new w _ _ _ _ _).alloc _).alloc _
  have tB : Four W0 (w.heap.size + 1) b1 b2 b3 b4 := by
    have h := Four.new (w.alloc (.cells #[a1, a2, a3, a4] 26)) b1 b2 b3 b4 26
    rw [World.size_alloc] at h
    rw [hW0]; exact h.alloc _
  have tR : Four W0 (w.heap.size + 1 + 1) (.bool false) (.slice none 0 0) (.bool false) (.slice none 0 0) := by
    have h := Four.new ((w.alloc (.cells #[a1, a2, a3, a4] 26)).alloc (.cells #[b1, b2, b3, b4] 26)) (.bool false) (.slice none 0 0) (.bool false) (.slice none 0 0) 26
    rw [World.size_alloc, World.size_alloc] at h
    rw [hW0]; exact h
  have HW0 := Lib.hid hW0
  have HC := Lib.hid (operate_add (h1.to hbw) (h2.to hbw) hk hl hkl)
  have HB := Lib.hid hbw
  clear h1 h2 hk hl hkl hW0 hbw
  go_enter Try.func9, Try.ntmps9
  go_wp2_with fail
  rw [← HW0.out]
  have k0 := tA.c0
  have k1 := tA.c1
  have k2 := tA.c2
  have k3 := tA.c3
  have l0 := tB.c0
  have l1 := tB.c1
  have l2 := tB.c2
  have l3 := tB.c3
  go_wp2_with fail
  refine HC.out.mono ?_
  rintro e V1 ⟨x1, x2, x3, x4, rfl, rq, bb⟩
  replace tR := tR.to bb
  replace HB := Lib.hid (HB.out.trans (bb.mono HB.out.size))
  clear k0 k1 k2 k3 l0 l1 l2 l3 bb tA tB HC HW0
  have RQ := Lib.hid rq
  obtain ⟨V9, eV, u, kp⟩ := pack4 tR Fq.nil x1 x2 x3 x4
  obtain ⟨⟨n1, A1, l1, m1, rfl, rfl⟩, ⟨n2, A2, l2, m2, rfl, rfl⟩⟩ := rq.fq
  obtain ⟨v0, v1, v2, v3, v4, v5, v6, v7, _⟩ := tR
  have EV := Lib.hid eV
  have KP := Lib.hid kp
  have U := Lib.hid u
  clear eV kp u rq
  go_wp2
  rw [EV.out]
  refine bodyPost_ret (v := .agg #[.bool n1, .slice A1 l1 m1, .bool n2, .slice A2 l2 m2]) (by simp [results, Try.f9, go_sem, U.out.c0, U.out.c1, U.out.c2, U.out.c3]) rfl ?_
  exact ⟨_, _, _, _, rfl, RQ.out.k4 KP.out, KP.out.bel _ _ HB.out (by omega)⟩


set_option maxHeartbeats 8000000 in
theorem sub_q {w : World} {a1 a2 a3 a4 b1 b2 b3 b4 : Value} {r s : Rat} {k l : Nat} (h1 : Qi w a1 a2 a3 a4 r k) (h2 : Qi w b1 b2 b3 b4 s l) (hk : 0 < k) (hl : 0 < l) (hkl : k + l + 1 ≤ 10000) : Calls Try.prog 13 #[.agg #[a1, a2, a3, a4], .agg #[b1, b2, b3, b4]] w (QR w (r - s)) := by
  obtain ⟨W0, hW0⟩ : ∃ W0, W0 = ((w.alloc (.cells #[a1, a2, a3, a4] 26)).alloc (.cells #[b1, b2, b3, b4] 26)).alloc (.cells #[.bool false, .slice none 0 0, .bool false, .slice none 0 0] 26) := ⟨_, rfl⟩
  have hbw : Below w.heap.size w W0 := by rw [hW0]; exact (((Below.refl _ _).alloc (Nat.le_refl _) _).alloc (by simp) _).alloc (by simp; omega) _
  have tA : Four W0 w.heap.size a1 a2 a3 a4 := by rw [hW0]; exact ((Four.new w _ _ _ _ _).alloc _).alloc _
  have tB : Four W0 (w.heap.size + 1) b1 b2 b3 b4 := by
    have h := Four.new (w.alloc (.cells #[a1, a2, a3, a4] 26)) b1 b2 b3 b4 26
    rw [World.size_alloc] at h
    rw [hW0]; exact h.alloc _
  have tR : Four W0 (w.heap.size + 1 + 1) (.bool false) (.slice none 0 0) (.bool false) (.slice none 0 0) := by
    have h := Four.new ((w.alloc (.cells #[a1, a2, a3, a4] 26)).alloc (.cells #[b1, b2, b3, b4] 26)) (.bool false) (.slice none 0 0) (.bool false) (.slice none 0 0) 26
    rw [World.size_alloc, World.size_alloc] at h
    rw [hW0]; exact h
  have HW0 := Lib.hid hW0
  have HC := Lib.hid (operate_sub (h1.to hbw) (h2.to hbw) hk hl hkl)
  have HB := Lib.hid hbw
  clear h1 h2 hk hl hkl hW0 hbw
  go_enter Try.func13, Try.ntmps13
  go_wp2_with fail
  rw [← HW0.out]
  have k0 := tA.c0
  have k1 := tA.c1
  have k2 := tA.c2
  have k3 := tA.c3
  have l0 := tB.c0
  have l1 := tB.c1
  have l2 := tB.c2
  have l3 := tB.c3
  go_wp2_with fail
  refine HC.out.mono ?_
  rintro e V1 ⟨x1, x2, x3, x4, rfl, rq, bb⟩
  replace tR := tR.to bb
  replace HB := Lib.hid (HB.out.trans (bb.mono HB.out.size))
  clear k0 k1 k2 k3 l0 l1 l2 l3 bb tA tB HC HW0
  have RQ := Lib.hid rq
  obtain ⟨V9, eV, u, kp⟩ := pack4 tR Fq.nil x1 x2 x3 x4
  obtain ⟨⟨n1, A1, l1, m1, rfl, rfl⟩, ⟨n2, A2, l2, m2, rfl, rfl⟩⟩ := rq.fq
  obtain ⟨v0, v1, v2, v3, v4, v5, v6, v7, _⟩ := tR
  have EV := Lib.hid eV
  have KP := Lib.hid kp
  have U := Lib.hid u
  clear eV kp u rq
  go_wp2
  rw [EV.out]
  refine bodyPost_ret (v := .agg #[.bool n1, .slice A1 l1 m1, .bool n2, .slice A2 l2 m2]) (by simp [results, Try.f13, go_sem, U.out.c0, U.out.c1, U.out.c2, U.out.c3]) rfl ?_
  exact ⟨_, _, _, _, rfl, RQ.out.k4 KP.out, KP.out.bel _ _ HB.out (by omega)⟩


set_option maxHeartbeats 8000000 in
theorem mul_q {w : World} {a1 a2 a3 a4 b1 b2 b3 b4 : Value} {r s : Rat} {k l : Nat} (h1 : Qi w a1 a2 a3 a4 r k) (h2 : Qi w b1 b2 b3 b4 s l) (hk : 0 < k) (hl : 0 < l) (hkl : k + l + 1 ≤ 10000) : Calls Try.prog 10 #[.agg #[a1, a2, a3, a4], .agg #[b1, b2, b3, b4]] w (QR w (r * s)) := by
  obtain ⟨W0, hW0⟩ : ∃ W0, W0 = ((w.alloc (.cells #[a1, a2, a3, a4] 26)).alloc (.cells #[b1, b2, b3, b4] 26)).alloc (.cells #[.bool false, .slice none 0 0, .bool false, .slice none 0 0] 26) := ⟨_, rfl⟩
  have hbw : Below w.heap.size w W0 := by rw [hW0]; exact (((Below.refl _ _).alloc (Nat.le_refl _) _).alloc (by simp) _).alloc (by simp; omega) _
  have tA : Four W0 w.heap.size a1 a2 a3 a4 := by rw [hW0]; exact ((Four.new w _ _ _ _ _).alloc _).alloc _
  have tB : Four W0 (w.heap.size + 1) b1 b2 b3 b4 := by
    have h := Four.new (w.alloc (.cells #[a1, a2, a3, a4] 26)) b1 b2 b3 b4 26
    rw [World.size_alloc] at h
    rw [hW0]; exact h.alloc _
  have tR : Four W0 (w.heap.size + 1 + 1) (.bool false) (.slice none 0 0) (.bool false) (.slice none 0 0) := by
    have h := Four.new ((w.alloc (.cells #[a1, a2, a3, a4] 26)).alloc (.cells #[b1, b2, b3, b4] 26)) (.bool false) (.slice none 0 0) (.bool false) (.slice none 0 0) 26
    rw [World.size_alloc, World.size_alloc] at h
    rw [hW0]; exact h
  have HW0 := Lib.hid hW0
  have HC := Lib.hid (operate_mul (h1.to hbw) (h2.to hbw) hk hl hkl)
  have HB := Lib.hid hbw
  clear h1 h2 hk hl hkl hW0 hbw
  go_enter Try.func10, Try.ntmps10
  go_wp2_with fail
  rw [← HW0.out]
  have k0 := tA.c0
  have k1 := tA.c1
  have k2 := tA.c2
  have k3 := tA.c3
  have l0 := tB.c0
  have l1 := tB.c1
  have l2 := tB.c2
  have l3 := tB.c3
  go_wp2_with fail
  refine HC.out.mono ?_
  rintro e V1 ⟨x1, x2, x3, x4, rfl, rq, bb⟩
  replace tR := tR.to bb
  replace HB := Lib.hid (HB.out.trans (bb.mono HB.out.size))
  clear k0 k1 k2 k3 l0 l1 l2 l3 bb tA tB HC HW0
  have RQ := Lib.hid rq
  obtain ⟨V9, eV, u, kp⟩ := pack4 tR Fq.nil x1 x2 x3 x4
  obtain ⟨⟨n1, A1, l1, m1, rfl, rfl⟩, ⟨n2, A2, l2, m2, rfl, rfl⟩⟩ := rq.fq
  obtain ⟨v0, v1, v2, v3, v4, v5, v6, v7, _⟩ := tR
  have EV := Lib.hid eV
  have KP := Lib.hid kp
  have U := Lib.hid u
  clear eV kp u rq
  go_wp2
  rw [EV.out]
  refine bodyPost_ret (v := .agg #[.bool n1, .slice A1 l1 m1, .bool n2, .slice A2 l2 m2]) (by simp [results, Try.f10, go_sem, U.out.c0, U.out.c1, U.out.c2, U.out.c3]) rfl ?_
  exact ⟨_, _, _, _, rfl, RQ.out.k4 KP.out, KP.out.bel _ _ HB.out (by omega)⟩


set_option maxHeartbeats 8000000 in
theorem sign_q {w : World} {a1 a2 a3 a4 : Value} {r : Rat} {k : Nat} (h1 : Qi w a1 a2 a3 a4 r k) {v : Int} (hv : sgnQ r = v) : Calls Try.prog 12 #[.agg #[a1, a2, a3, a4]] w fun e w' => e = .returned (.int .i64 v) ∧ Below w.heap.size w w' := by
  obtain ⟨p, q, z1, z2, rfl, -, -⟩ := h1
  rw [sgn_up] at hv
  obtain ⟨W0, hW0⟩ : ∃ W0, W0 = w.alloc (.cells #[a1, a2, a3, a4] 26) := ⟨_, rfl⟩
  have hbw : Below w.heap.size w W0 := by rw [hW0]; exact (Below.refl _ _).alloc (Nat.le_refl _) _
  have tA : Four W0 w.heap.size a1 a2 a3 a4 := by rw [hW0]; exact Four.new w _ _ _ _ _
  have HW0 := Lib.hid hW0
  have hA := z1.to hbw
  have hB := z2.to hbw
  have HB := Lib.hid hbw
  clear z1 z2 hW0 hbw
  obtain ⟨sq, esq⟩ : ∃ sq, sgn q = sq := ⟨_, rfl⟩
  obtain ⟨sp, esp⟩ : ∃ sp, sgn p = sp := ⟨_, rfl⟩
  have ESQ := Lib.hid esq
  have ESP := Lib.hid esp
  by_cases hq : q < 0
  · have hlt : sq < 0 := by rw [← esq, sgn_neg hq]; decide
    have hw : IntKind.i64.wrap (-sp) = v := by rw [← hv, ← esp, sgn_neg_wrap]; unfold upN; rw [if_pos hq]
    clear hv esq esp hq
    go_enter Try.func12, Try.ntmps12
    go_wp2_with fail
    rw [← HW0.out]
    have k0 := tA.c0
    have k1 := tA.c1
    have k2 := tA.c2
    have k3 := tA.c3
    go_wp2_with fail
    refine (sign_v hB ESQ.out).mono ?_
    rintro e V1 ⟨rfl, bb⟩
    replace tA := tA.to bb
    replace hA := hA.to bb
    replace HB := Lib.hid (HB.out.trans (bb.mono HB.out.size))
    clear k0 k1 k2 k3 bb hB HW0
    have k0 := tA.c0
    have k1 := tA.c1
    have k2 := tA.c2
    have k3 := tA.c3
    go_wp2_with fail
    refine (sign_v hA ESP.out).mono ?_
    rintro e V2 ⟨rfl, bb⟩
    replace HB := Lib.hid (HB.out.trans (bb.mono HB.out.size))
    clear k0 k1 k2 k3 bb hA tA
    go_wp2
    go_ret
    exact ⟨rfl, HB.out⟩

  · have hlt : ¬ sq < 0 := by
      rw [← esq]; unfold sgn
      repeat' split
      all_goals omega
    have hw : sp = v := by rw [← hv, ← esp]; unfold upN; rw [if_neg hq]
    clear hv esq esp hq
    go_enter Try.func12, Try.ntmps12
    go_wp2_with fail
    rw [← HW0.out]
    have k0 := tA.c0
    have k1 := tA.c1
    have k2 := tA.c2
    have k3 := tA.c3
    go_wp2_with fail
    refine (sign_v hB ESQ.out).mono ?_
    rintro e V1 ⟨rfl, bb⟩
    replace tA := tA.to bb
    replace hA := hA.to bb
    replace HB := Lib.hid (HB.out.trans (bb.mono HB.out.size))
    clear k0 k1 k2 k3 bb hB HW0
    have k0 := tA.c0
    have k1 := tA.c1
    have k2 := tA.c2
    have k3 := tA.c3
    go_wp2_with fail
    refine (sign_v hA ESP.out).mono ?_
    rintro e V2 ⟨rfl, bb⟩
    replace HB := Lib.hid (HB.out.trans (bb.mono HB.out.size))
    clear k0 k1 k2 k3 bb hA tA
    go_wp2
    go_ret
    exact ⟨rfl, HB.out⟩


set_option maxHeartbeats 8000000 in
theorem div_q {w : World} {a1 a2 a3 a4 b1 b2 b3 b4 : Value} {r s : Rat} {k l : Nat} (h1 : Qi w a1 a2 a3 a4 r k) (h2 : Qi w b1 b2 b3 b4 s l) (hk : 0 < k) (hl : 0 < l) (hkl : k + l + 1 ≤ 10000) (hs : s ≠ 0) : Calls Try.prog 11 #[.agg #[a1, a2, a3, a4], .agg #[b1, b2, b3, b4]] w fun e w' => ∃ x1 x2 x3 x4, e = .returned (.tuple #[.agg #[x1, x2, x3, x4], .int .i64 0]) ∧ Qc w' x1 x2 x3 x4 (r / s) ∧ Below w.heap.size w w' := by
  obtain ⟨W0, hW0⟩ : ∃ W0, W0 = ((w.alloc (.cells #[a1, a2, a3, a4] 26)).alloc (.cells #[b1, b2, b3, b4] 26)).alloc (.cells #[.bool false, .slice none 0 0, .bool false, .slice none 0 0] 26) := ⟨_, rfl⟩
  have hbw : Below w.heap.size w W0 := by rw [hW0]; exact (((Below.refl _ _).alloc (Nat.le_refl _) _).alloc (by simp) _).alloc (by simp; omega) _
  have tA : Four W0 w.heap.size a1 a2 a3 a4 := by rw [hW0]; exact ((Four.new w _ _ _ _ _).alloc _).alloc _
  have tB : Four W0 (w.heap.size + 1) b1 b2 b3 b4 := by
    have h := Four.new (w.alloc (.cells #[a1, a2, a3, a4] 26)) b1 b2 b3 b4 26
    rw [World.size_alloc] at h
    rw [hW0]; exact h.alloc _
  have tR : Four W0 (w.heap.size + 1 + 1) (.bool false) (.slice none 0 0) (.bool false) (.slice none 0 0) := by
    have h := Four.new ((w.alloc (.cells #[a1, a2, a3, a4] 26)).alloc (.cells #[b1, b2, b3, b4] 26)) (.bool false) (.slice none 0 0) (.bool false) (.slice none 0 0) 26
    rw [World.size_alloc, World.size_alloc] at h
    rw [hW0]; exact h
  have HW0 := Lib.hid hW0
  have hA := h1.to hbw
  have hB := h2.to hbw
  have HB := Lib.hid hbw
  obtain ⟨v, ev⟩ : ∃ v, sgnQ s = v := ⟨_, rfl⟩
  have hv : (v == 0) = false := by rw [beq_eq_false_iff_ne, ← ev]; exact fun h => hs (sgnQ_zero.1 h)
  have HC : Hid (∀ V, Below W0.heap.size W0 V → Calls Try.prog 28 #[.int .i32 47, .agg #[a1, a2, a3, a4], .agg #[b1, b2, b3, b4]] V (QR V (r / s))) := fun V hb => operate_div (hA.to hb) (hB.to hb) hk hl hkl hs
  have HS := Lib.hid (sign_q hB ev)
  clear h1 h2 hk hl hkl hW0 hbw ev hs hA hB
  go_enter Try.func11, Try.ntmps11
  go_wp2_with fail
  rw [← HW0.out]
  have k0 := tA.c0
  have k1 := tA.c1
  have k2 := tA.c2
  have k3 := tA.c3
  have l0 := tB.c0
  have l1 := tB.c1
  have l2 := tB.c2
  have l3 := tB.c3
  go_wp2_with fail
  refine HS.out.mono ?_
  rintro e V1 ⟨rfl, bb⟩
  replace HC := Lib.hid (HC.out V1 bb)
  replace tA := tA.to bb
  replace tB := tB.to bb
  replace tR := tR.to bb
  replace HB := Lib.hid (HB.out.trans (bb.mono HB.out.size))
  clear k0 k1 k2 k3 l0 l1 l2 l3 bb HS HW0
  have k0 := tA.c0
  have k1 := tA.c1
  have k2 := tA.c2
  have k3 := tA.c3
  have l0 := tB.c0
  have l1 := tB.c1
  have l2 := tB.c2
  have l3 := tB.c3
  go_wp2_with fail
  refine HC.out.mono ?_
  rintro e V2 ⟨x1, x2, x3, x4, rfl, rq, bb⟩
  replace tR := tR.to bb
  replace HB := Lib.hid (HB.out.trans (bb.mono HB.out.size))
  clear k0 k1 k2 k3 l0 l1 l2 l3 bb tA tB HC
  have RQ := Lib.hid rq
  obtain ⟨V9, eV, u, kp⟩ := pack4 tR Fq.nil x1 x2 x3 x4
  obtain ⟨⟨n1, A1, l1, m1, rfl, rfl⟩, ⟨n2, A2, l2, m2, rfl, rfl⟩⟩ := rq.fq
  obtain ⟨v0, v1, v2, v3, v4, v5, v6, v7, _⟩ := tR
  have EV := Lib.hid eV
  have KP := Lib.hid kp
  have U := Lib.hid u
  clear eV kp u rq
  go_wp2
  rw [EV.out]
  refine bodyPost_ret (v := .tuple #[.agg #[.bool n1, .slice A1 l1 m1, .bool n2, .slice A2 l2 m2], .int .i64 0]) (by simp [results, Try.f11, go_sem, U.out.c0, U.out.c1, U.out.c2, U.out.c3]) rfl ?_
  exact ⟨_, _, _, _, rfl, RQ.out.k4 KP.out, KP.out.bel _ _ HB.out (by omega)⟩


set_option maxHeartbeats 8000000 in
theorem div_0 {w : World} {a1 a2 a3 a4 b1 b2 b3 b4 : Value} {s : Rat} {l : Nat} (h2 : Qi w b1 b2 b3 b4 s l) (hs : s = 0) : Calls Try.prog 11 #[.agg #[a1, a2, a3, a4], .agg #[b1, b2, b3, b4]] w fun e w' => e = .returned (.tuple #[.agg #[.bool false, .slice none 0 0, .bool false, .slice none 0 0], .int .i64 7]) ∧ Below w.heap.size w w' := by
  obtain ⟨W0, hW0⟩ : ∃ W0, W0 = ((w.alloc (.cells #[a1, a2, a3, a4] 26)).alloc (.cells #[b1, b2, b3, b4] 26)).alloc (.cells #[.bool false, .slice none 0 0, .bool false, .slice none 0 0] 26) := ⟨_, rfl⟩
  have hbw : Below w.heap.size w W0 := by rw [hW0]; exact (((Below.refl _ _).alloc (Nat.le_refl _) _).alloc (by simp) _).alloc (by simp; omega) _
  have tA : Four W0 w.heap.size a1 a2 a3 a4 := by rw [hW0]; exact ((Four.new w _ _ _ _ _).alloc _).alloc _
  have tB : Four W0 (w.heap.size + 1) b1 b2 b3 b4 := by
    have h := Four.new (w.alloc (.cells #[a1, a2, a3, a4] 26)) b1 b2 b3 b4 26
    rw [World.size_alloc] at h
    rw [hW0]; exact h.alloc _
  have tR : Four W0 (w.heap.size + 1 + 1) (.bool false) (.slice none 0 0) (.bool false) (.slice none 0 0) := by
    have h := Four.new ((w.alloc (.cells #[a1, a2, a3, a4] 26)).alloc (.cells #[b1, b2, b3, b4] 26)) (.bool false) (.slice none 0 0) (.bool false) (.slice none 0 0) 26
    rw [World.size_alloc, World.size_alloc] at h
    rw [hW0]; exact h
  have HW0 := Lib.hid hW0
  have HS := Lib.hid (sign_q (h2.to hbw) (sgnQ_zero.2 hs))
  have HB := Lib.hid hbw
  clear h2 hW0 hbw hs
  go_enter Try.func11, Try.ntmps11
  go_wp2_with fail
  rw [← HW0.out]
  have k0 := tA.c0
  have k1 := tA.c1
  have k2 := tA.c2
  have k3 := tA.c3
  have l0 := tB.c0
  have l1 := tB.c1
  have l2 := tB.c2
  have l3 := tB.c3
  go_wp2_with fail
  refine HS.out.mono ?_
  rintro e V1 ⟨rfl, bb⟩
  replace tR := tR.to bb
  replace HB := Lib.hid (HB.out.trans (bb.mono HB.out.size))
  clear k0 k1 k2 k3 l0 l1 l2 l3 bb HS HW0 tA tB
  obtain ⟨V9, eV, u, kp⟩ := pack4 tR Fq.nil (.bool false) (.slice none 0 0) (.bool false) (.slice none 0 0)
  obtain ⟨v0, v1, v2, v3, v4, v5, v6, v7, _⟩ := tR
  have EV := Lib.hid eV
  have KP := Lib.hid kp
  have U := Lib.hid u
  clear eV kp u
  go_wp2
  rw [EV.out]
  refine bodyPost_ret (v := .tuple #[.agg #[.bool false, .slice none 0 0, .bool false, .slice none 0 0], .int .i64 7]) (by simp [results, Try.f11, go_sem, U.out.c0, U.out.c1, U.out.c2, U.out.c3]) rfl ?_
  exact ⟨rfl, KP.out.bel _ _ HB.out (by omega)⟩


set_option maxHeartbeats 8000000 in
theorem cmp_q {w : World} {a1 a2 a3 a4 b1 b2 b3 b4 : Value} {r s : Rat} {k l : Nat} (h1 : Qi w a1 a2 a3 a4 r k) (h2 : Qi w b1 b2 b3 b4 s l) (hk : 0 < k) (hl : 0 < l) (hkl : k + l ≤ 10000) {v : Int} (hv : cmpQ r s = v) : Calls Try.prog 15 #[.agg #[a1, a2, a3, a4], .agg #[b1, b2, b3, b4]] w fun e w' => e = .returned (.int .i64 v) ∧ Below w.heap.size w w' := by
  obtain ⟨W0, hW0⟩ : ∃ W0, W0 = (w.alloc (.cells #[a1, a2, a3, a4] 26)).alloc (.cells #[b1, b2, b3, b4] 26) := ⟨_, rfl⟩
  have hbw : Below w.heap.size w W0 := by rw [hW0]; exact ((Below.refl _ _).alloc (Nat.le_refl _) _).alloc (by simp) _
  have tA : Four W0 w.heap.size a1 a2 a3 a4 := by rw [hW0]; exact (Four.new w _ _ _ _ _).alloc _
  have tB : Four W0 (w.heap.size + 1) b1 b2 b3 b4 := by
    have h := Four.new (w.alloc (.cells #[a1, a2, a3, a4] 26)) b1 b2 b3 b4 26
    rw [World.size_alloc] at h
    rw [hW0]; exact h
  have HW0 := Lib.hid hW0
  have HU1 : Hid (∀ V, Below W0.heap.size W0 V → Calls Try.prog 33 #[.agg #[a1, a2, a3, a4]] V (UpR V r k)) := fun V hb => upright_q ((h1.to hbw).to hb) hk (by omega)
  have HU2 : Hid (∀ V, Below W0.heap.size W0 V → Calls Try.prog 33 #[.agg #[b1, b2, b3, b4]] V (UpR V s l)) := fun V hb => upright_q ((h2.to hbw).to hb) hl (by omega)
  have HB0 := Lib.hid hbw
  have HKL := Lib.hid hkl
  have HV := Lib.hid hv
  clear h1 h2 hk hl hW0 hbw hkl hv
  go_enter Try.func15, Try.ntmps15
  go_wp2_with fail
  rw [← HW0.out]
  clear HW0
  refine wp_cut (fun a' v' w' => ∃ (x1 x2 : Value) (g1 g2 : Nat) (u10 u11 u12 u13 u20 u21 u22 u23 y1 y2 : Value) (N1 D1 N2 D2 : Int), v' = ((((((a'.put (some 7) x1).put (some 9) x2).put (some 8) y1).put (some 10) y2).put (some 5) (.pointer (some ⟨g1, 0, none⟩))).put (some 6) (.pointer (some ⟨g2, 0, none⟩))) ∧ Four w' g1 u10 u11 u12 u13 ∧ Four w' g2 u20 u21 u22 u23 ∧ Up w' u10 u11 u12 u13 r k N1 D1 ∧ Up w' u20 u21 u22 u23 s l N2 D2 ∧ (W0.heap.size ≤ g1 ∧ W0.heap.size ≤ g2) ∧ Below W0.heap.size W0 w') ?_ ?_
  · refine wp_region_planTo (S := fun w' => Below W0.heap.size W0 w') [(0, true), (2, true)] #[true, false, true, false, false, false, false, false] 6 (by kernel_rfl) (by kernel_rfl) (Below.refl _ _).drew ?_
    refine plan_take rfl (by rfl) (fun w' hS => load_four (by rfl) (tA.to hS)) ?_; simp only [Act.put, List.setIfInBounds_toArray, List.set_cons_zero, List.set_cons_succ]
    refine plan_take rfl (by rfl) (fun w' hS => load_four (by rfl) (tB.to hS)) ?_; simp only [Act.put, List.setIfInBounds_toArray, List.set_cons_zero, List.set_cons_succ]
    intro HB
    refine wpAnyH_ready (rs := [1, 4, 5]) (by kernel_rfl) (by simp) (ready_cons rfl (by rfl) (fun K hK => ?_) (ready_cons rfl (by rfl) (fun K hK => ?_) (ready_cons rfl (by rfl) (fun K hK => ?_) AllReadyH.nil)))
    · go_simp
      refine (HU1 _ HB).mono ?_
      rintro e V ⟨u10, u11, u12, u13, N1, D1, rfl, r1, bb⟩
      replace HB := HB.trans (bb.mono HB.size)
      refine hK.out _ _ HB ?_
      clear hK K bb
      refine wpAnyH_ready (rs := [3, 4, 5]) (by kernel_rfl) (by simp) (ready_cons rfl (by rfl) (fun K hK => ?_) (ready_cons rfl (by rfl) (fun K hK => ?_) (ready_cons rfl (by rfl) (fun K hK => ?_) AllReadyH.nil)))
      · go_simp
        refine (HU2 _ HB).mono ?_
        rintro e V ⟨u20, u21, u22, u23, N2, D2, rfl, r2, bb⟩
        replace HB := HB.trans (bb.mono HB.size)
        replace r1 := r1.to bb
        refine hK.out _ _ HB ?_
        clear hK K bb
        refine wpAnyH_ready (rs := [4, 5]) (by kernel_rfl) (by simp) (ready_cons rfl (by rfl) (fun K hK => ?_) (ready_cons rfl (by rfl) (fun K hK => ?_) AllReadyH.nil))
        · refine wp_alloc_four (fun g1 V t1 bb hg => ?_)
          have b1 := Nat.le_trans HB.size hg
          replace HB := HB.trans (bb.mono HB.size)
          replace r1 := r1.to bb
          replace r2 := r2.to bb
          refine hK.out _ _ HB ?_
          clear hK K bb hg
          simp only [Act.put, List.setIfInBounds_toArray, List.set_cons_zero, List.set_cons_succ]
          refine wpAnyH_ready (rs := [5]) (by kernel_rfl) (by simp) (ready_cons rfl (by rfl) (fun K hK => ?_) AllReadyH.nil)
          · refine wp_alloc_four (fun g2 V t2 bb hg => ?_)
            have b2 := Nat.le_trans HB.size hg
            replace HB := HB.trans (bb.mono HB.size)
            have ne : g1 ≠ g2 := Nat.ne_of_lt (Nat.lt_of_lt_of_le t1.lt hg)
            replace t1 := t1.to bb
            replace r1 := r1.to bb
            replace r2 := r2.to bb
            refine hK.out _ _ HB ?_
            clear hK K bb hg
            simp only [Act.put, List.setIfInBounds_toArray, List.set_cons_zero, List.set_cons_succ]
            refine wpAnyH_ready (rs := [6]) (by kernel_rfl) (by simp) (ready_cons rfl (by rfl) (fun K hK => ?_) AllReadyH.nil)
            · refine wp_store_q (by rfl) (by rfl) t1 Fq.nil r1.fq (fun V u kp => ?_)
              replace t2 := kp.four (Ne.symm ne) t2
              replace r1 := kp.up r1
              replace r2 := kp.up r2
              replace HB := kp.bel _ _ HB b1
              clear t1
              have t1 := u
              refine hK.out _ _ HB ?_
              clear hK K kp u
              simp only [Act.put, List.setIfInBounds_toArray, List.set_cons_zero, List.set_cons_succ]
              refine wpAnyH_ready (rs := [7]) (by kernel_rfl) (by simp) (ready_cons rfl (by rfl) (fun K hK => ?_) AllReadyH.nil)
              · refine wp_store_q (by rfl) (by rfl) t2 Fq.nil r2.fq (fun V u kp => ?_)
                replace t1 := kp.four ne t1
                replace r1 := kp.up r1
                replace r2 := kp.up r2
                replace HB := kp.bel _ _ HB b2
                clear t2
                have t2 := u
                refine hK.out _ _ HB ?_
                clear hK K kp u
                simp only [Act.put, List.setIfInBounds_toArray, List.set_cons_zero, List.set_cons_succ]
                exact wpAnyH_done (by kernel_rfl) ⟨rfl, _, _, g1, g2, _, _, _, _, _, _, _, _, _, _, _, _, _, _, by rfl, t1, t2, r1, r2, ⟨b1, b2⟩, HB⟩ _
        · refine wp_alloc_four (fun g2 V t2 bb hg => ?_)
          have b2 := Nat.le_trans HB.size hg
          replace HB := HB.trans (bb.mono HB.size)
          replace r1 := r1.to bb
          replace r2 := r2.to bb
          refine hK.out _ _ HB ?_
          clear hK K bb hg
          simp only [Act.put, List.setIfInBounds_toArray, List.set_cons_zero, List.set_cons_succ]
          refine wpAnyH_ready (rs := [4]) (by kernel_rfl) (by simp) (ready_cons rfl (by rfl) (fun K hK => ?_) AllReadyH.nil)
          · refine wp_alloc_four (fun g1 V t1 bb hg => ?_)
            have b1 := Nat.le_trans HB.size hg
            replace HB := HB.trans (bb.mono HB.size)
            have ne : g1 ≠ g2 := Nat.ne_of_gt (Nat.lt_of_lt_of_le t2.lt hg)
            replace t2 := t2.to bb
            replace r1 := r1.to bb
            replace r2 := r2.to bb
            refine hK.out _ _ HB ?_
            clear hK K bb hg
            simp only [Act.put, List.setIfInBounds_toArray, List.set_cons_zero, List.set_cons_succ]
            refine wpAnyH_ready (rs := [6]) (by kernel_rfl) (by simp) (ready_cons rfl (by rfl) (fun K hK => ?_) AllReadyH.nil)
            · refine wp_store_q (by rfl) (by rfl) t1 Fq.nil r1.fq (fun V u kp => ?_)
              replace t2 := kp.four (Ne.symm ne) t2
              replace r1 := kp.up r1
              replace r2 := kp.up r2
              replace HB := kp.bel _ _ HB b1
              clear t1
              have t1 := u
              refine hK.out _ _ HB ?_
              clear hK K kp u
              simp only [Act.put, List.setIfInBounds_toArray, List.set_cons_zero, List.set_cons_succ]
              refine wpAnyH_ready (rs := [7]) (by kernel_rfl) (by simp) (ready_cons rfl (by rfl) (fun K hK => ?_) AllReadyH.nil)
              · refine wp_store_q (by rfl) (by rfl) t2 Fq.nil r2.fq (fun V u kp => ?_)
                replace t1 := kp.four ne t1
                replace r1 := kp.up r1
                replace r2 := kp.up r2
                replace HB := kp.bel _ _ HB b2
                clear t2
                have t2 := u
                refine hK.out _ _ HB ?_
                clear hK K kp u
                simp only [Act.put, List.setIfInBounds_toArray, List.set_cons_zero, List.set_cons_succ]
                exact wpAnyH_done (by kernel_rfl) ⟨rfl, _, _, g1, g2, _, _, _, _, _, _, _, _, _, _, _, _, _, _, by rfl, t1, t2, r1, r2, ⟨b1, b2⟩, HB⟩ _
      · refine wp_alloc_four (fun g1 V t1 bb hg => ?_)
        have b1 := Nat.le_trans HB.size hg
        replace HB := HB.trans (bb.mono HB.size)
        replace r1 := r1.to bb
        refine hK.out _ _ HB ?_
        clear hK K bb hg
        simp only [Act.put, List.setIfInBounds_toArray, List.set_cons_zero, List.set_cons_succ]
        refine wpAnyH_ready (rs := [3, 5]) (by kernel_rfl) (by simp) (ready_cons rfl (by rfl) (fun K hK => ?_) (ready_cons rfl (by rfl) (fun K hK => ?_) AllReadyH.nil))
        · go_simp
          refine (HU2 _ HB).mono ?_
          rintro e V ⟨u20, u21, u22, u23, N2, D2, rfl, r2, bb⟩
          replace HB := HB.trans (bb.mono HB.size)
          replace t1 := t1.to bb
          replace r1 := r1.to bb
          refine hK.out _ _ HB ?_
          clear hK K bb
          refine wpAnyH_ready (rs := [5]) (by kernel_rfl) (by simp) (ready_cons rfl (by rfl) (fun K hK => ?_) AllReadyH.nil)
          · refine wp_alloc_four (fun g2 V t2 bb hg => ?_)
            have b2 := Nat.le_trans HB.size hg
            replace HB := HB.trans (bb.mono HB.size)
            have ne : g1 ≠ g2 := Nat.ne_of_lt (Nat.lt_of_lt_of_le t1.lt hg)
            replace t1 := t1.to bb
            replace r1 := r1.to bb
            replace r2 := r2.to bb
            refine hK.out _ _ HB ?_
            clear hK K bb hg
            simp only [Act.put, List.setIfInBounds_toArray, List.set_cons_zero, List.set_cons_succ]
            refine wpAnyH_ready (rs := [6]) (by kernel_rfl) (by simp) (ready_cons rfl (by rfl) (fun K hK => ?_) AllReadyH.nil)
            · refine wp_store_q (by rfl) (by rfl) t1 Fq.nil r1.fq (fun V u kp => ?_)
              replace t2 := kp.four (Ne.symm ne) t2
              replace r1 := kp.up r1
              replace r2 := kp.up r2
              replace HB := kp.bel _ _ HB b1
              clear t1
              have t1 := u
              refine hK.out _ _ HB ?_
              clear hK K kp u
              simp only [Act.put, List.setIfInBounds_toArray, List.set_cons_zero, List.set_cons_succ]
              refine wpAnyH_ready (rs := [7]) (by kernel_rfl) (by simp) (ready_cons rfl (by rfl) (fun K hK => ?_) AllReadyH.nil)
              · refine wp_store_q (by rfl) (by rfl) t2 Fq.nil r2.fq (fun V u kp => ?_)
                replace t1 := kp.four ne t1
                replace r1 := kp.up r1
                replace r2 := kp.up r2
                replace HB := kp.bel _ _ HB b2
                clear t2
                have t2 := u
                refine hK.out _ _ HB ?_
                clear hK K kp u
                simp only [Act.put, List.setIfInBounds_toArray, List.set_cons_zero, List.set_cons_succ]
                exact wpAnyH_done (by kernel_rfl) ⟨rfl, _, _, g1, g2, _, _, _, _, _, _, _, _, _, _, _, _, _, _, by rfl, t1, t2, r1, r2, ⟨b1, b2⟩, HB⟩ _
        · refine wp_alloc_four (fun g2 V t2 bb hg => ?_)
          have b2 := Nat.le_trans HB.size hg
          replace HB := HB.trans (bb.mono HB.size)
          have ne : g1 ≠ g2 := Nat.ne_of_lt (Nat.lt_of_lt_of_le t1.lt hg)
          replace t1 := t1.to bb
          replace r1 := r1.to bb
          refine hK.out _ _ HB ?_
          clear hK K bb hg
          simp only [Act.put, List.setIfInBounds_toArray, List.set_cons_zero, List.set_cons_succ]
          refine wpAnyH_ready (rs := [3]) (by kernel_rfl) (by simp) (ready_cons rfl (by rfl) (fun K hK => ?_) AllReadyH.nil)
          · go_simp
            refine (HU2 _ HB).mono ?_
            rintro e V ⟨u20, u21, u22, u23, N2, D2, rfl, r2, bb⟩
            replace HB := HB.trans (bb.mono HB.size)
            replace t1 := t1.to bb
            replace t2 := t2.to bb
            replace r1 := r1.to bb
            refine hK.out _ _ HB ?_
            clear hK K bb
            refine wpAnyH_ready (rs := [6]) (by kernel_rfl) (by simp) (ready_cons rfl (by rfl) (fun K hK => ?_) AllReadyH.nil)
            · refine wp_store_q (by rfl) (by rfl) t1 Fq.nil r1.fq (fun V u kp => ?_)
              replace t2 := kp.four (Ne.symm ne) t2
              replace r1 := kp.up r1
              replace r2 := kp.up r2
              replace HB := kp.bel _ _ HB b1
              clear t1
              have t1 := u
              refine hK.out _ _ HB ?_
              clear hK K kp u
              simp only [Act.put, List.setIfInBounds_toArray, List.set_cons_zero, List.set_cons_succ]
              refine wpAnyH_ready (rs := [7]) (by kernel_rfl) (by simp) (ready_cons rfl (by rfl) (fun K hK => ?_) AllReadyH.nil)
              · refine wp_store_q (by rfl) (by rfl) t2 Fq.nil r2.fq (fun V u kp => ?_)
                replace t1 := kp.four ne t1
                replace r1 := kp.up r1
                replace r2 := kp.up r2
                replace HB := kp.bel _ _ HB b2
                clear t2
                have t2 := u
                refine hK.out _ _ HB ?_
                clear hK K kp u
                simp only [Act.put, List.setIfInBounds_toArray, List.set_cons_zero, List.set_cons_succ]
                exact wpAnyH_done (by kernel_rfl) ⟨rfl, _, _, g1, g2, _, _, _, _, _, _, _, _, _, _, _, _, _, _, by rfl, t1, t2, r1, r2, ⟨b1, b2⟩, HB⟩ _
      · refine wp_alloc_four (fun g2 V t2 bb hg => ?_)
        have b2 := Nat.le_trans HB.size hg
        replace HB := HB.trans (bb.mono HB.size)
        replace r1 := r1.to bb
        refine hK.out _ _ HB ?_
        clear hK K bb hg
        simp only [Act.put, List.setIfInBounds_toArray, List.set_cons_zero, List.set_cons_succ]
        refine wpAnyH_ready (rs := [3, 4]) (by kernel_rfl) (by simp) (ready_cons rfl (by rfl) (fun K hK => ?_) (ready_cons rfl (by rfl) (fun K hK => ?_) AllReadyH.nil))
        · go_simp
          refine (HU2 _ HB).mono ?_
          rintro e V ⟨u20, u21, u22, u23, N2, D2, rfl, r2, bb⟩
          replace HB := HB.trans (bb.mono HB.size)
          replace t2 := t2.to bb
          replace r1 := r1.to bb
          refine hK.out _ _ HB ?_
          clear hK K bb
          refine wpAnyH_ready (rs := [4]) (by kernel_rfl) (by simp) (ready_cons rfl (by rfl) (fun K hK => ?_) AllReadyH.nil)
          · refine wp_alloc_four (fun g1 V t1 bb hg => ?_)
            have b1 := Nat.le_trans HB.size hg
            replace HB := HB.trans (bb.mono HB.size)
            have ne : g1 ≠ g2 := Nat.ne_of_gt (Nat.lt_of_lt_of_le t2.lt hg)
            replace t2 := t2.to bb
            replace r1 := r1.to bb
            replace r2 := r2.to bb
            refine hK.out _ _ HB ?_
            clear hK K bb hg
            simp only [Act.put, List.setIfInBounds_toArray, List.set_cons_zero, List.set_cons_succ]
            refine wpAnyH_ready (rs := [6]) (by kernel_rfl) (by simp) (ready_cons rfl (by rfl) (fun K hK => ?_) AllReadyH.nil)
            · refine wp_store_q (by rfl) (by rfl) t1 Fq.nil r1.fq (fun V u kp => ?_)
              replace t2 := kp.four (Ne.symm ne) t2
              replace r1 := kp.up r1
              replace r2 := kp.up r2
              replace HB := kp.bel _ _ HB b1
              clear t1
              have t1 := u
              refine hK.out _ _ HB ?_
              clear hK K kp u
              simp only [Act.put, List.setIfInBounds_toArray, List.set_cons_zero, List.set_cons_succ]
              refine wpAnyH_ready (rs := [7]) (by kernel_rfl) (by simp) (ready_cons rfl (by rfl) (fun K hK => ?_) AllReadyH.nil)
              · refine wp_store_q (by rfl) (by rfl) t2 Fq.nil r2.fq (fun V u kp => ?_)
                replace t1 := kp.four ne t1
                replace r1 := kp.up r1
                replace r2 := kp.up r2
                replace HB := kp.bel _ _ HB b2
                clear t2
                have t2 := u
                refine hK.out _ _ HB ?_
                clear hK K kp u
                simp only [Act.put, List.setIfInBounds_toArray, List.set_cons_zero, List.set_cons_succ]
                exact wpAnyH_done (by kernel_rfl) ⟨rfl, _, _, g1, g2, _, _, _, _, _, _, _, _, _, _, _, _, _, _, by rfl, t1, t2, r1, r2, ⟨b1, b2⟩, HB⟩ _
        · refine wp_alloc_four (fun g1 V t1 bb hg => ?_)
          have b1 := Nat.le_trans HB.size hg
          replace HB := HB.trans (bb.mono HB.size)
          have ne : g1 ≠ g2 := Nat.ne_of_gt (Nat.lt_of_lt_of_le t2.lt hg)
          replace t2 := t2.to bb
          replace r1 := r1.to bb
          refine hK.out _ _ HB ?_
          clear hK K bb hg
          simp only [Act.put, List.setIfInBounds_toArray, List.set_cons_zero, List.set_cons_succ]
          refine wpAnyH_ready (rs := [3]) (by kernel_rfl) (by simp) (ready_cons rfl (by rfl) (fun K hK => ?_) AllReadyH.nil)
          · go_simp
            refine (HU2 _ HB).mono ?_
            rintro e V ⟨u20, u21, u22, u23, N2, D2, rfl, r2, bb⟩
            replace HB := HB.trans (bb.mono HB.size)
            replace t1 := t1.to bb
            replace t2 := t2.to bb
            replace r1 := r1.to bb
            refine hK.out _ _ HB ?_
            clear hK K bb
            refine wpAnyH_ready (rs := [6]) (by kernel_rfl) (by simp) (ready_cons rfl (by rfl) (fun K hK => ?_) AllReadyH.nil)
            · refine wp_store_q (by rfl) (by rfl) t1 Fq.nil r1.fq (fun V u kp => ?_)
              replace t2 := kp.four (Ne.symm ne) t2
              replace r1 := kp.up r1
              replace r2 := kp.up r2
              replace HB := kp.bel _ _ HB b1
              clear t1
              have t1 := u
              refine hK.out _ _ HB ?_
              clear hK K kp u
              simp only [Act.put, List.setIfInBounds_toArray, List.set_cons_zero, List.set_cons_succ]
              refine wpAnyH_ready (rs := [7]) (by kernel_rfl) (by simp) (ready_cons rfl (by rfl) (fun K hK => ?_) AllReadyH.nil)
              · refine wp_store_q (by rfl) (by rfl) t2 Fq.nil r2.fq (fun V u kp => ?_)
                replace t1 := kp.four ne t1
                replace r1 := kp.up r1
                replace r2 := kp.up r2
                replace HB := kp.bel _ _ HB b2
                clear t2
                have t2 := u
                refine hK.out _ _ HB ?_
                clear hK K kp u
                simp only [Act.put, List.setIfInBounds_toArray, List.set_cons_zero, List.set_cons_succ]
                exact wpAnyH_done (by kernel_rfl) ⟨rfl, _, _, g1, g2, _, _, _, _, _, _, _, _, _, _, _, _, _, _, by rfl, t1, t2, r1, r2, ⟨b1, b2⟩, HB⟩ _
    · refine wp_alloc_four (fun g1 V t1 bb hg => ?_)
      have b1 := Nat.le_trans HB.size hg
      replace HB := HB.trans (bb.mono HB.size)
      refine hK.out _ _ HB ?_
      clear hK K bb hg
      simp only [Act.put, List.setIfInBounds_toArray, List.set_cons_zero, List.set_cons_succ]
      refine wpAnyH_ready (rs := [1, 5]) (by kernel_rfl) (by simp) (ready_cons rfl (by rfl) (fun K hK => ?_) (ready_cons rfl (by rfl) (fun K hK => ?_) AllReadyH.nil))
      · go_simp
        refine (HU1 _ HB).mono ?_
        rintro e V ⟨u10, u11, u12, u13, N1, D1, rfl, r1, bb⟩
        replace HB := HB.trans (bb.mono HB.size)
        replace t1 := t1.to bb
        refine hK.out _ _ HB ?_
        clear hK K bb
        refine wpAnyH_ready (rs := [3, 5]) (by kernel_rfl) (by simp) (ready_cons rfl (by rfl) (fun K hK => ?_) (ready_cons rfl (by rfl) (fun K hK => ?_) AllReadyH.nil))
        · go_simp
          refine (HU2 _ HB).mono ?_
          rintro e V ⟨u20, u21, u22, u23, N2, D2, rfl, r2, bb⟩
          replace HB := HB.trans (bb.mono HB.size)
          replace t1 := t1.to bb
          replace r1 := r1.to bb
          refine hK.out _ _ HB ?_
          clear hK K bb
          refine wpAnyH_ready (rs := [5]) (by kernel_rfl) (by simp) (ready_cons rfl (by rfl) (fun K hK => ?_) AllReadyH.nil)
          · refine wp_alloc_four (fun g2 V t2 bb hg => ?_)
            have b2 := Nat.le_trans HB.size hg
            replace HB := HB.trans (bb.mono HB.size)
            have ne : g1 ≠ g2 := Nat.ne_of_lt (Nat.lt_of_lt_of_le t1.lt hg)
            replace t1 := t1.to bb
            replace r1 := r1.to bb
            replace r2 := r2.to bb
            refine hK.out _ _ HB ?_
            clear hK K bb hg
            simp only [Act.put, List.setIfInBounds_toArray, List.set_cons_zero, List.set_cons_succ]
            refine wpAnyH_ready (rs := [6]) (by kernel_rfl) (by simp) (ready_cons rfl (by rfl) (fun K hK => ?_) AllReadyH.nil)
            · refine wp_store_q (by rfl) (by rfl) t1 Fq.nil r1.fq (fun V u kp => ?_)
              replace t2 := kp.four (Ne.symm ne) t2
              replace r1 := kp.up r1
              replace r2 := kp.up r2
              replace HB := kp.bel _ _ HB b1
              clear t1
              have t1 := u
              refine hK.out _ _ HB ?_
              clear hK K kp u
              simp only [Act.put, List.setIfInBounds_toArray, List.set_cons_zero, List.set_cons_succ]
              refine wpAnyH_ready (rs := [7]) (by kernel_rfl) (by simp) (ready_cons rfl (by rfl) (fun K hK => ?_) AllReadyH.nil)
              · refine wp_store_q (by rfl) (by rfl) t2 Fq.nil r2.fq (fun V u kp => ?_)
                replace t1 := kp.four ne t1
                replace r1 := kp.up r1
                replace r2 := kp.up r2
                replace HB := kp.bel _ _ HB b2
                clear t2
                have t2 := u
                refine hK.out _ _ HB ?_
                clear hK K kp u
                simp only [Act.put, List.setIfInBounds_toArray, List.set_cons_zero, List.set_cons_succ]
                exact wpAnyH_done (by kernel_rfl) ⟨rfl, _, _, g1, g2, _, _, _, _, _, _, _, _, _, _, _, _, _, _, by rfl, t1, t2, r1, r2, ⟨b1, b2⟩, HB⟩ _
        · refine wp_alloc_four (fun g2 V t2 bb hg => ?_)
          have b2 := Nat.le_trans HB.size hg
          replace HB := HB.trans (bb.mono HB.size)
          have ne : g1 ≠ g2 := Nat.ne_of_lt (Nat.lt_of_lt_of_le t1.lt hg)
          replace t1 := t1.to bb
          replace r1 := r1.to bb
          refine hK.out _ _ HB ?_
          clear hK K bb hg
          simp only [Act.put, List.setIfInBounds_toArray, List.set_cons_zero, List.set_cons_succ]
          refine wpAnyH_ready (rs := [3]) (by kernel_rfl) (by simp) (ready_cons rfl (by rfl) (fun K hK => ?_) AllReadyH.nil)
          · go_simp
            refine (HU2 _ HB).mono ?_
            rintro e V ⟨u20, u21, u22, u23, N2, D2, rfl, r2, bb⟩
            replace HB := HB.trans (bb.mono HB.size)
            replace t1 := t1.to bb
            replace t2 := t2.to bb
            replace r1 := r1.to bb
            refine hK.out _ _ HB ?_
            clear hK K bb
            refine wpAnyH_ready (rs := [6]) (by kernel_rfl) (by simp) (ready_cons rfl (by rfl) (fun K hK => ?_) AllReadyH.nil)
            · refine wp_store_q (by rfl) (by rfl) t1 Fq.nil r1.fq (fun V u kp => ?_)
              replace t2 := kp.four (Ne.symm ne) t2
              replace r1 := kp.up r1
              replace r2 := kp.up r2
              replace HB := kp.bel _ _ HB b1
              clear t1
              have t1 := u
              refine hK.out _ _ HB ?_
              clear hK K kp u
              simp only [Act.put, List.setIfInBounds_toArray, List.set_cons_zero, List.set_cons_succ]
              refine wpAnyH_ready (rs := [7]) (by kernel_rfl) (by simp) (ready_cons rfl (by rfl) (fun K hK => ?_) AllReadyH.nil)
              · refine wp_store_q (by rfl) (by rfl) t2 Fq.nil r2.fq (fun V u kp => ?_)
                replace t1 := kp.four ne t1
                replace r1 := kp.up r1
                replace r2 := kp.up r2
                replace HB := kp.bel _ _ HB b2
                clear t2
                have t2 := u
                refine hK.out _ _ HB ?_
                clear hK K kp u
                simp only [Act.put, List.setIfInBounds_toArray, List.set_cons_zero, List.set_cons_succ]
                exact wpAnyH_done (by kernel_rfl) ⟨rfl, _, _, g1, g2, _, _, _, _, _, _, _, _, _, _, _, _, _, _, by rfl, t1, t2, r1, r2, ⟨b1, b2⟩, HB⟩ _
      · refine wp_alloc_four (fun g2 V t2 bb hg => ?_)
        have b2 := Nat.le_trans HB.size hg
        replace HB := HB.trans (bb.mono HB.size)
        have ne : g1 ≠ g2 := Nat.ne_of_lt (Nat.lt_of_lt_of_le t1.lt hg)
        replace t1 := t1.to bb
        refine hK.out _ _ HB ?_
        clear hK K bb hg
        simp only [Act.put, List.setIfInBounds_toArray, List.set_cons_zero, List.set_cons_succ]
        refine wpAnyH_ready (rs := [1]) (by kernel_rfl) (by simp) (ready_cons rfl (by rfl) (fun K hK => ?_) AllReadyH.nil)
        · go_simp
          refine (HU1 _ HB).mono ?_
          rintro e V ⟨u10, u11, u12, u13, N1, D1, rfl, r1, bb⟩
          replace HB := HB.trans (bb.mono HB.size)
          replace t1 := t1.to bb
          replace t2 := t2.to bb
          refine hK.out _ _ HB ?_
          clear hK K bb
          refine wpAnyH_ready (rs := [3]) (by kernel_rfl) (by simp) (ready_cons rfl (by rfl) (fun K hK => ?_) AllReadyH.nil)
          · go_simp
            refine (HU2 _ HB).mono ?_
            rintro e V ⟨u20, u21, u22, u23, N2, D2, rfl, r2, bb⟩
            replace HB := HB.trans (bb.mono HB.size)
            replace t1 := t1.to bb
            replace t2 := t2.to bb
            replace r1 := r1.to bb
            refine hK.out _ _ HB ?_
            clear hK K bb
            refine wpAnyH_ready (rs := [6]) (by kernel_rfl) (by simp) (ready_cons rfl (by rfl) (fun K hK => ?_) AllReadyH.nil)
            · refine wp_store_q (by rfl) (by rfl) t1 Fq.nil r1.fq (fun V u kp => ?_)
              replace t2 := kp.four (Ne.symm ne) t2
              replace r1 := kp.up r1
              replace r2 := kp.up r2
              replace HB := kp.bel _ _ HB b1
              clear t1
              have t1 := u
              refine hK.out _ _ HB ?_
              clear hK K kp u
              simp only [Act.put, List.setIfInBounds_toArray, List.set_cons_zero, List.set_cons_succ]
              refine wpAnyH_ready (rs := [7]) (by kernel_rfl) (by simp) (ready_cons rfl (by rfl) (fun K hK => ?_) AllReadyH.nil)
              · refine wp_store_q (by rfl) (by rfl) t2 Fq.nil r2.fq (fun V u kp => ?_)
                replace t1 := kp.four ne t1
                replace r1 := kp.up r1
                replace r2 := kp.up r2
                replace HB := kp.bel _ _ HB b2
                clear t2
                have t2 := u
                refine hK.out _ _ HB ?_
                clear hK K kp u
                simp only [Act.put, List.setIfInBounds_toArray, List.set_cons_zero, List.set_cons_succ]
                exact wpAnyH_done (by kernel_rfl) ⟨rfl, _, _, g1, g2, _, _, _, _, _, _, _, _, _, _, _, _, _, _, by rfl, t1, t2, r1, r2, ⟨b1, b2⟩, HB⟩ _
    · refine wp_alloc_four (fun g2 V t2 bb hg => ?_)
      have b2 := Nat.le_trans HB.size hg
      replace HB := HB.trans (bb.mono HB.size)
      refine hK.out _ _ HB ?_
      clear hK K bb hg
      simp only [Act.put, List.setIfInBounds_toArray, List.set_cons_zero, List.set_cons_succ]
      refine wpAnyH_ready (rs := [1, 4]) (by kernel_rfl) (by simp) (ready_cons rfl (by rfl) (fun K hK => ?_) (ready_cons rfl (by rfl) (fun K hK => ?_) AllReadyH.nil))
      · go_simp
        refine (HU1 _ HB).mono ?_
        rintro e V ⟨u10, u11, u12, u13, N1, D1, rfl, r1, bb⟩
        replace HB := HB.trans (bb.mono HB.size)
        replace t2 := t2.to bb
        refine hK.out _ _ HB ?_
        clear hK K bb
        refine wpAnyH_ready (rs := [3, 4]) (by kernel_rfl) (by simp) (ready_cons rfl (by rfl) (fun K hK => ?_) (ready_cons rfl (by rfl) (fun K hK => ?_) AllReadyH.nil))
        · go_simp
          refine (HU2 _ HB).mono ?_
          rintro e V ⟨u20, u21, u22, u23, N2, D2, rfl, r2, bb⟩
          replace HB := HB.trans (bb.mono HB.size)
          replace t2 := t2.to bb
          replace r1 := r1.to bb
          refine hK.out _ _ HB ?_
          clear hK K bb
          refine wpAnyH_ready (rs := [4]) (by kernel_rfl) (by simp) (ready_cons rfl (by rfl) (fun K hK => ?_) AllReadyH.nil)
          · refine wp_alloc_four (fun g1 V t1 bb hg => ?_)
            have b1 := Nat.le_trans HB.size hg
            replace HB := HB.trans (bb.mono HB.size)
            have ne : g1 ≠ g2 := Nat.ne_of_gt (Nat.lt_of_lt_of_le t2.lt hg)
            replace t2 := t2.to bb
            replace r1 := r1.to bb
            replace r2 := r2.to bb
            refine hK.out _ _ HB ?_
            clear hK K bb hg
            simp only [Act.put, List.setIfInBounds_toArray, List.set_cons_zero, List.set_cons_succ]
            refine wpAnyH_ready (rs := [6]) (by kernel_rfl) (by simp) (ready_cons rfl (by rfl) (fun K hK => ?_) AllReadyH.nil)
            · refine wp_store_q (by rfl) (by rfl) t1 Fq.nil r1.fq (fun V u kp => ?_)
              replace t2 := kp.four (Ne.symm ne) t2
              replace r1 := kp.up r1
              replace r2 := kp.up r2
              replace HB := kp.bel _ _ HB b1
              clear t1
              have t1 := u
              refine hK.out _ _ HB ?_
              clear hK K kp u
              simp only [Act.put, List.setIfInBounds_toArray, List.set_cons_zero, List.set_cons_succ]
              refine wpAnyH_ready (rs := [7]) (by kernel_rfl) (by simp) (ready_cons rfl (by rfl) (fun K hK => ?_) AllReadyH.nil)
              · refine wp_store_q (by rfl) (by rfl) t2 Fq.nil r2.fq (fun V u kp => ?_)
                replace t1 := kp.four ne t1
                replace r1 := kp.up r1
                replace r2 := kp.up r2
                replace HB := kp.bel _ _ HB b2
                clear t2
                have t2 := u
                refine hK.out _ _ HB ?_
                clear hK K kp u
                simp only [Act.put, List.setIfInBounds_toArray, List.set_cons_zero, List.set_cons_succ]
                exact wpAnyH_done (by kernel_rfl) ⟨rfl, _, _, g1, g2, _, _, _, _, _, _, _, _, _, _, _, _, _, _, by rfl, t1, t2, r1, r2, ⟨b1, b2⟩, HB⟩ _
        · refine wp_alloc_four (fun g1 V t1 bb hg => ?_)
          have b1 := Nat.le_trans HB.size hg
          replace HB := HB.trans (bb.mono HB.size)
          have ne : g1 ≠ g2 := Nat.ne_of_gt (Nat.lt_of_lt_of_le t2.lt hg)
          replace t2 := t2.to bb
          replace r1 := r1.to bb
          refine hK.out _ _ HB ?_
          clear hK K bb hg
          simp only [Act.put, List.setIfInBounds_toArray, List.set_cons_zero, List.set_cons_succ]
          refine wpAnyH_ready (rs := [3]) (by kernel_rfl) (by simp) (ready_cons rfl (by rfl) (fun K hK => ?_) AllReadyH.nil)
          · go_simp
            refine (HU2 _ HB).mono ?_
            rintro e V ⟨u20, u21, u22, u23, N2, D2, rfl, r2, bb⟩
            replace HB := HB.trans (bb.mono HB.size)
            replace t1 := t1.to bb
            replace t2 := t2.to bb
            replace r1 := r1.to bb
            refine hK.out _ _ HB ?_
            clear hK K bb
            refine wpAnyH_ready (rs := [6]) (by kernel_rfl) (by simp) (ready_cons rfl (by rfl) (fun K hK => ?_) AllReadyH.nil)
            · refine wp_store_q (by rfl) (by rfl) t1 Fq.nil r1.fq (fun V u kp => ?_)
              replace t2 := kp.four (Ne.symm ne) t2
              replace r1 := kp.up r1
              replace r2 := kp.up r2
              replace HB := kp.bel _ _ HB b1
              clear t1
              have t1 := u
              refine hK.out _ _ HB ?_
              clear hK K kp u
              simp only [Act.put, List.setIfInBounds_toArray, List.set_cons_zero, List.set_cons_succ]
              refine wpAnyH_ready (rs := [7]) (by kernel_rfl) (by simp) (ready_cons rfl (by rfl) (fun K hK => ?_) AllReadyH.nil)
              · refine wp_store_q (by rfl) (by rfl) t2 Fq.nil r2.fq (fun V u kp => ?_)
                replace t1 := kp.four ne t1
                replace r1 := kp.up r1
                replace r2 := kp.up r2
                replace HB := kp.bel _ _ HB b2
                clear t2
                have t2 := u
                refine hK.out _ _ HB ?_
                clear hK K kp u
                simp only [Act.put, List.setIfInBounds_toArray, List.set_cons_zero, List.set_cons_succ]
                exact wpAnyH_done (by kernel_rfl) ⟨rfl, _, _, g1, g2, _, _, _, _, _, _, _, _, _, _, _, _, _, _, by rfl, t1, t2, r1, r2, ⟨b1, b2⟩, HB⟩ _
      · refine wp_alloc_four (fun g1 V t1 bb hg => ?_)
        have b1 := Nat.le_trans HB.size hg
        replace HB := HB.trans (bb.mono HB.size)
        have ne : g1 ≠ g2 := Nat.ne_of_gt (Nat.lt_of_lt_of_le t2.lt hg)
        replace t2 := t2.to bb
        refine hK.out _ _ HB ?_
        clear hK K bb hg
        simp only [Act.put, List.setIfInBounds_toArray, List.set_cons_zero, List.set_cons_succ]
        refine wpAnyH_ready (rs := [1]) (by kernel_rfl) (by simp) (ready_cons rfl (by rfl) (fun K hK => ?_) AllReadyH.nil)
        · go_simp
          refine (HU1 _ HB).mono ?_
          rintro e V ⟨u10, u11, u12, u13, N1, D1, rfl, r1, bb⟩
          replace HB := HB.trans (bb.mono HB.size)
          replace t1 := t1.to bb
          replace t2 := t2.to bb
          refine hK.out _ _ HB ?_
          clear hK K bb
          refine wpAnyH_ready (rs := [3]) (by kernel_rfl) (by simp) (ready_cons rfl (by rfl) (fun K hK => ?_) AllReadyH.nil)
          · go_simp
            refine (HU2 _ HB).mono ?_
            rintro e V ⟨u20, u21, u22, u23, N2, D2, rfl, r2, bb⟩
            replace HB := HB.trans (bb.mono HB.size)
            replace t1 := t1.to bb
            replace t2 := t2.to bb
            replace r1 := r1.to bb
            refine hK.out _ _ HB ?_
            clear hK K bb
            refine wpAnyH_ready (rs := [6]) (by kernel_rfl) (by simp) (ready_cons rfl (by rfl) (fun K hK => ?_) AllReadyH.nil)
            · refine wp_store_q (by rfl) (by rfl) t1 Fq.nil r1.fq (fun V u kp => ?_)
              replace t2 := kp.four (Ne.symm ne) t2
              replace r1 := kp.up r1
              replace r2 := kp.up r2
              replace HB := kp.bel _ _ HB b1
              clear t1
              have t1 := u
              refine hK.out _ _ HB ?_
              clear hK K kp u
              simp only [Act.put, List.setIfInBounds_toArray, List.set_cons_zero, List.set_cons_succ]
              refine wpAnyH_ready (rs := [7]) (by kernel_rfl) (by simp) (ready_cons rfl (by rfl) (fun K hK => ?_) AllReadyH.nil)
              · refine wp_store_q (by rfl) (by rfl) t2 Fq.nil r2.fq (fun V u kp => ?_)
                replace t1 := kp.four ne t1
                replace r1 := kp.up r1
                replace r2 := kp.up r2
                replace HB := kp.bel _ _ HB b2
                clear t2
                have t2 := u
                refine hK.out _ _ HB ?_
                clear hK K kp u
                simp only [Act.put, List.setIfInBounds_toArray, List.set_cons_zero, List.set_cons_succ]
                exact wpAnyH_done (by kernel_rfl) ⟨rfl, _, _, g1, g2, _, _, _, _, _, _, _, _, _, _, _, _, _, _, by rfl, t1, t2, r1, r2, ⟨b1, b2⟩, HB⟩ _
  rintro v' W2 ⟨x1, x2, g1, g2, u10, u11, u12, u13, u20, u21, u22, u23, y1, y2, N1, D1, N2, D2, rfl, t1, t2, r1, r2, hge, HB⟩
  simp only [Act.put, List.setIfInBounds_toArray, List.set_cons_zero, List.set_cons_succ]
  have s1 : Sg (N1 * D2) := (r1.sn.mul r2.sd).sg HKL.out
  have s2 : Sg (N2 * D1) := (r2.sn.mul r1.sd).sg (by have := HKL.out; omega)
  have hc : Hid (cmpZ (N1 * D2) (N2 * D1) = v) := by show _ = _; rw [cmp_up r1.pos r2.pos, r1.eq, r2.eq]; exact HV.out
  replace HB0 := Lib.hid (HB0.out.trans (HB.mono HB0.out.size))
  clear HB HU1 HU2 tA tB hge
  go_wp2_with fail
  refine wp_region_plan (S := fun w' => Below W2.heap.size W2 w') [(0, true), (1, true), (3, true), (4, true), (2, false), (5, false), (6, false), (7, true)] (by kernel_rfl) (by kernel_rfl) (Below.refl _ _).drew ?_
  have HB := (Below.refl W2.heap.size W2).drew
  refine plan_take rfl (by rfl) (fun w' hS => load_four (by rfl) (t1.to hS)) ?_; simp only [Act.put, List.setIfInBounds_toArray, List.set_cons_zero, List.set_cons_succ]
  refine plan_take rfl (by rfl) (fun w' hS => load_four (by rfl) (t2.to hS)) ?_; simp only [Act.put, List.setIfInBounds_toArray, List.set_cons_zero, List.set_cons_succ]
  refine plan_take rfl (by rfl) (fun w' hS => load_four (by rfl) (t2.to hS)) ?_; simp only [Act.put, List.setIfInBounds_toArray, List.set_cons_zero, List.set_cons_succ]
  refine plan_take rfl (by rfl) (fun w' hS => load_four (by rfl) (t1.to hS)) ?_; simp only [Act.put, List.setIfInBounds_toArray, List.set_cons_zero, List.set_cons_succ]
  refine plan_call rfl (by rfl) (fun K hK => ?_)
  go_simp
  refine (cross_z (r1.to HB).n (r2.to HB).d).mono ?_
  rintro e V3 ⟨x3, y3, rfl, z3, bb⟩
  replace HB := HB.trans (bb.mono HB.size)
  refine hK.out _ _ HB ?_
  clear hK K bb
  refine plan_call rfl (by rfl) (fun K hK => ?_)
  go_simp
  refine (cross_z (r2.to HB).n (r1.to HB).d).mono ?_
  rintro e V4 ⟨x4, y4, rfl, z4, bb⟩
  replace HB := HB.trans (bb.mono HB.size)
  replace z3 := z3.to bb
  refine hK.out _ _ HB ?_
  clear hK K bb
  refine plan_call rfl (by rfl) (fun K hK => ?_)
  go_simp
  refine (cmp_z (z3.zs s1).zi (z4.zs s2).zi).mono ?_
  rintro e V5 ⟨rfl, bb⟩
  rw [hc.out]
  replace HB := HB.trans (bb.mono HB.size)
  refine hK.out _ _ HB ?_
  clear hK K bb z3 z4
  refine plan_take (v := ?_) rfl (by rfl) ?_ ?_; rotate_left; (focus (intro w' _; go_simp; try with_reducible rfl)); simp only [Act.put, List.setIfInBounds_toArray, List.set_cons_zero, List.set_cons_succ]
  refine plan_done ?_
  have HE := Lib.hid (HB0.out.trans (HB.mono HB0.out.size))
  clear HB r1 r2 t1 t2
  go_wp2
  go_ret
  exact ⟨rfl, HE.out⟩


set_option maxHeartbeats 8000000 in
theorem equal_q {w : World} {a1 a2 a3 a4 b1 b2 b3 b4 : Value} {r s : Rat} {k l : Nat} (h1 : Qi w a1 a2 a3 a4 r k) (h2 : Qi w b1 b2 b3 b4 s l) (hk : 0 < k) (hl : 0 < l) (hkl : k + l ≤ 10000) {v : Bool} (hv : decide (r = s) = v) : Calls Try.prog 8 #[.agg #[a1, a2, a3, a4], .agg #[b1, b2, b3, b4]] w fun e w' => e = .returned (.bool v) ∧ Below w.heap.size w w' := by
  obtain ⟨W0, hW0⟩ : ∃ W0, W0 = (w.alloc (.cells #[a1, a2, a3, a4] 26)).alloc (.cells #[b1, b2, b3, b4] 26) := ⟨_, rfl⟩
  have hbw : Below w.heap.size w W0 := by rw [hW0]; exact ((Below.refl _ _).alloc (Nat.le_refl _) _).alloc (by simp) _
  have tA : Four W0 w.heap.size a1 a2 a3 a4 := by rw [hW0]; exact (Four.new w _ _ _ _ _).alloc _
  have tB : Four W0 (w.heap.size + 1) b1 b2 b3 b4 := by
    have h := Four.new (w.alloc (.cells #[a1, a2, a3, a4] 26)) b1 b2 b3 b4 26
    rw [World.size_alloc] at h
    rw [hW0]; exact h
  have HW0 := Lib.hid hW0
  obtain ⟨c, ec⟩ : ∃ c, cmpQ r s = c := ⟨_, rfl⟩
  have HC := Lib.hid (cmp_q (h1.to hbw) (h2.to hbw) hk hl hkl ec)
  have HV : Hid ((c == 0) = v) := by
    show _ = _
    rw [← hv, ← ec, Bool.eq_iff_iff, beq_iff_eq, decide_eq_true_iff]
    exact cmpQ_zero
  have HB := Lib.hid hbw
  clear h1 h2 hk hl hkl hW0 hbw ec hv
  go_enter Try.func8, Try.ntmps8
  go_wp2_with fail
  rw [← HW0.out]
  have k0 := tA.c0
  have k1 := tA.c1
  have k2 := tA.c2
  have k3 := tA.c3
  have l0 := tB.c0
  have l1 := tB.c1
  have l2 := tB.c2
  have l3 := tB.c3
  go_wp2_with fail
  refine HC.out.mono ?_
  rintro e V1 ⟨rfl, bb⟩
  replace HB := Lib.hid (HB.out.trans (bb.mono HB.out.size))
  clear k0 k1 k2 k3 l0 l1 l2 l3 bb tA tB HC HW0
  go_wp2
  go_ret
  refine ⟨?_, HB.out⟩
  rw [← HV.out]
  rfl


theorem canonical_q {w : World} {a1 a2 a3 a4 : Value} {r : Rat} {k : Nat} (h1 : Qi w a1 a2 a3 a4 r k) (hk : k ≤ 10000) : Calls Try.prog 38 #[.agg #[a1, a2, a3, a4]] w (QR w r) := by
  obtain ⟨p, q, z1, z2, rfl, s1, s2⟩ := h1
  exact canonical_z z1 z2 (s1.sg hk) (s2.sg hk)


theorem cmpQ_min {r s : Rat} : cmpQ r s < 0 ↔ r < s := by
  unfold cmpQ
  constructor
  · intro h
    by_cases h1 : r < s
    · exact h1
    · by_cases h2 : s < r <;> simp [h1, h2] at h
  · intro h; simp [h]
theorem cmpQ_max {r s : Rat} : 0 < cmpQ r s ↔ s < r := by
  unfold cmpQ
  constructor
  · intro h
    by_cases h1 : r < s
    · simp [h1] at h
    · by_cases h2 : s < r
      · exact h2
      · simp [h1, h2] at h
  · intro h
    have h1 : ¬ r < s := Rat.not_lt.2 (Rat.le_of_lt h)
    simp [h, h1]


set_option maxHeartbeats 8000000 in
theorem min_a {w : World} {a1 a2 a3 a4 b1 b2 b3 b4 : Value} {r s : Rat} {k l : Nat} (h1 : Qi w a1 a2 a3 a4 r k) (h2 : Qi w b1 b2 b3 b4 s l) (hk : 0 < k) (hl : 0 < l) (hkl : k + l ≤ 10000) (hc : r < s) : Calls Try.prog 20 #[.agg #[a1, a2, a3, a4], .agg #[b1, b2, b3, b4]] w (QR w r) := by
  obtain ⟨W0, hW0⟩ : ∃ W0, W0 = ((w.alloc (.cells #[a1, a2, a3, a4] 26)).alloc (.cells #[b1, b2, b3, b4] 26)).alloc (.cells #[.bool false, .slice none 0 0, .bool false, .slice none 0 0] 26) := ⟨_, rfl⟩
  have hbw : Below w.heap.size w W0 := by rw [hW0]; exact (((Below.refl _ _).alloc (Nat.le_refl _) _).alloc (by simp) _).alloc (by simp; omega) _
  have tA : Four W0 w.heap.size a1 a2 a3 a4 := by rw [hW0]; exact ((Four.new w _ _ _ _ _).alloc _).alloc _
  have tB : Four W0 (w.heap.size + 1) b1 b2 b3 b4 := by
    have h := Four.new (w.alloc (.cells #[a1, a2, a3, a4] 26)) b1 b2 b3 b4 26
    rw [World.size_alloc] at h
    rw [hW0]; exact h.alloc _
  have tR : Four W0 (w.heap.size + 1 + 1) (.bool false) (.slice none 0 0) (.bool false) (.slice none 0 0) := by
    have h := Four.new ((w.alloc (.cells #[a1, a2, a3, a4] 26)).alloc (.cells #[b1, b2, b3, b4] 26)) (.bool false) (.slice none 0 0) (.bool false) (.slice none 0 0) 26
    rw [World.size_alloc, World.size_alloc] at h
    rw [hW0]; exact h
  have HW0 := Lib.hid hW0
  obtain ⟨c, ec⟩ : ∃ c, cmpQ r s = c := ⟨_, rfl⟩
  have HC := Lib.hid (cmp_q (h1.to hbw) (h2.to hbw) hk hl hkl ec)
  have HQ : Hid (∀ V, Below W0.heap.size W0 V → Calls Try.prog 38 #[.agg #[a1, a2, a3, a4]] V (QR V r)) := fun V hb => canonical_q ((h1.to hbw).to hb) (by omega)
  have hlt : c < 0 := by rw [← ec]; exact (cmpQ_min).2 hc
  have HB := Lib.hid hbw
  clear h1 h2 hk hl hkl hW0 hbw ec hc
  go_enter Try.func20, Try.ntmps20
  go_wp2_with fail
  rw [← HW0.out]
  have k0 := tA.c0
  have k1 := tA.c1
  have k2 := tA.c2
  have k3 := tA.c3
  have l0 := tB.c0
  have l1 := tB.c1
  have l2 := tB.c2
  have l3 := tB.c3
  go_wp2_with fail
  refine HC.out.mono ?_
  rintro e V1 ⟨rfl, bb⟩
  replace HQ := Lib.hid (HQ.out V1 bb)
  replace tA := tA.to bb
  replace tB := tB.to bb
  replace tR := tR.to bb
  replace HB := Lib.hid (HB.out.trans (bb.mono HB.out.size))
  clear k0 k1 k2 k3 l0 l1 l2 l3 bb HC HW0
  have k0 := tA.c0
  have k1 := tA.c1
  have k2 := tA.c2
  have k3 := tA.c3
  have l0 := tB.c0
  have l1 := tB.c1
  have l2 := tB.c2
  have l3 := tB.c3
  go_wp2_with fail
  refine HQ.out.mono ?_
  rintro e V2 ⟨x1, x2, x3, x4, rfl, rq, bb⟩
  replace tR := tR.to bb
  replace HB := Lib.hid (HB.out.trans (bb.mono HB.out.size))
  clear k0 k1 k2 k3 l0 l1 l2 l3 bb tA tB HQ
  have RQ := Lib.hid rq
  obtain ⟨V9, eV, u, kp⟩ := pack4 tR Fq.nil x1 x2 x3 x4
  obtain ⟨⟨n1, A1, l1, m1, rfl, rfl⟩, ⟨n2, A2, l2, m2, rfl, rfl⟩⟩ := rq.fq
  obtain ⟨v0, v1, v2, v3, v4, v5, v6, v7, _⟩ := tR
  have EV := Lib.hid eV
  have KP := Lib.hid kp
  have U := Lib.hid u
  clear eV kp u rq
  go_wp2
  rw [EV.out]
  refine bodyPost_ret (v := .agg #[.bool n1, .slice A1 l1 m1, .bool n2, .slice A2 l2 m2]) (by simp [results, Try.f20, go_sem, U.out.c0, U.out.c1, U.out.c2, U.out.c3]) rfl ?_
  exact ⟨_, _, _, _, rfl, RQ.out.k4 KP.out, KP.out.bel _ _ HB.out (by omega)⟩


set_option maxHeartbeats 8000000 in
theorem min_b {w : World} {a1 a2 a3 a4 b1 b2 b3 b4 : Value} {r s : Rat} {k l : Nat} (h1 : Qi w a1 a2 a3 a4 r k) (h2 : Qi w b1 b2 b3 b4 s l) (hk : 0 < k) (hl : 0 < l) (hkl : k + l ≤ 10000) (hc : ¬ r < s) : Calls Try.prog 20 #[.agg #[a1, a2, a3, a4], .agg #[b1, b2, b3, b4]] w (QR w s) := by
  obtain ⟨W0, hW0⟩ : ∃ W0, W0 = ((w.alloc (.cells #[a1, a2, a3, a4] 26)).alloc (.cells #[b1, b2, b3, b4] 26)).alloc (.cells #[.bool false, .slice none 0 0, .bool false, .slice none 0 0] 26) := ⟨_, rfl⟩
  have hbw : Below w.heap.size w W0 := by rw [hW0]; exact (((Below.refl _ _).alloc (Nat.le_refl _) _).alloc (by simp) _).alloc (by simp; omega) _
  have tA : Four W0 w.heap.size a1 a2 a3 a4 := by rw [hW0]; exact ((Four.new w _ _ _ _ _).alloc _).alloc _
  have tB : Four W0 (w.heap.size + 1) b1 b2 b3 b4 := by
    have h := Four.new (w.alloc (.cells #[a1, a2, a3, a4] 26)) b1 b2 b3 b4 26
    rw [World.size_alloc] at h
    rw [hW0]; exact h.alloc _
  have tR : Four W0 (w.heap.size + 1 + 1) (.bool false) (.slice none 0 0) (.bool false) (.slice none 0 0) := by
    have h := Four.new ((w.alloc (.cells #[a1, a2, a3, a4] 26)).alloc (.cells #[b1, b2, b3, b4] 26)) (.bool false) (.slice none 0 0) (.bool false) (.slice none 0 0) 26
    rw [World.size_alloc, World.size_alloc] at h
    rw [hW0]; exact h
  have HW0 := Lib.hid hW0
  obtain ⟨c, ec⟩ : ∃ c, cmpQ r s = c := ⟨_, rfl⟩
  have HC := Lib.hid (cmp_q (h1.to hbw) (h2.to hbw) hk hl hkl ec)
  have HQ : Hid (∀ V, Below W0.heap.size W0 V → Calls Try.prog 38 #[.agg #[b1, b2, b3, b4]] V (QR V s)) := fun V hb => canonical_q ((h2.to hbw).to hb) (by omega)
  have hlt : ¬ c < 0 := by rw [← ec]; exact fun h => hc ((cmpQ_min).1 h)
  have HB := Lib.hid hbw
  clear h1 h2 hk hl hkl hW0 hbw ec hc
  go_enter Try.func20, Try.ntmps20
  go_wp2_with fail
  rw [← HW0.out]
  have k0 := tA.c0
  have k1 := tA.c1
  have k2 := tA.c2
  have k3 := tA.c3
  have l0 := tB.c0
  have l1 := tB.c1
  have l2 := tB.c2
  have l3 := tB.c3
  go_wp2_with fail
  refine HC.out.mono ?_
  rintro e V1 ⟨rfl, bb⟩
  replace HQ := Lib.hid (HQ.out V1 bb)
  replace tA := tA.to bb
  replace tB := tB.to bb
  replace tR := tR.to bb
  replace HB := Lib.hid (HB.out.trans (bb.mono HB.out.size))
  clear k0 k1 k2 k3 l0 l1 l2 l3 bb HC HW0
  have k0 := tA.c0
  have k1 := tA.c1
  have k2 := tA.c2
  have k3 := tA.c3
  have l0 := tB.c0
  have l1 := tB.c1
  have l2 := tB.c2
  have l3 := tB.c3
  go_wp2_with fail
  refine HQ.out.mono ?_
  rintro e V2 ⟨x1, x2, x3, x4, rfl, rq, bb⟩
  replace tR := tR.to bb
  replace HB := Lib.hid (HB.out.trans (bb.mono HB.out.size))
  clear k0 k1 k2 k3 l0 l1 l2 l3 bb tA tB HQ
  have RQ := Lib.hid rq
  obtain ⟨V9, eV, u, kp⟩ := pack4 tR Fq.nil x1 x2 x3 x4
  obtain ⟨⟨n1, A1, l1, m1, rfl, rfl⟩, ⟨n2, A2, l2, m2, rfl, rfl⟩⟩ := rq.fq
  obtain ⟨v0, v1, v2, v3, v4, v5, v6, v7, _⟩ := tR
  have EV := Lib.hid eV
  have KP := Lib.hid kp
  have U := Lib.hid u
  clear eV kp u rq
  go_wp2
  rw [EV.out]
  refine bodyPost_ret (v := .agg #[.bool n1, .slice A1 l1 m1, .bool n2, .slice A2 l2 m2]) (by simp [results, Try.f20, go_sem, U.out.c0, U.out.c1, U.out.c2, U.out.c3]) rfl ?_
  exact ⟨_, _, _, _, rfl, RQ.out.k4 KP.out, KP.out.bel _ _ HB.out (by omega)⟩


set_option maxHeartbeats 8000000 in
theorem max_a {w : World} {a1 a2 a3 a4 b1 b2 b3 b4 : Value} {r s : Rat} {k l : Nat} (h1 : Qi w a1 a2 a3 a4 r k) (h2 : Qi w b1 b2 b3 b4 s l) (hk : 0 < k) (hl : 0 < l) (hkl : k + l ≤ 10000) (hc : s < r) : Calls Try.prog 21 #[.agg #[a1, a2, a3, a4], .agg #[b1, b2, b3, b4]] w (QR w r) := by
  obtain ⟨W0, hW0⟩ : ∃ W0, W0 = ((w.alloc (.cells #[a1, a2, a3, a4] 26)).alloc (.cells #[b1, b2, b3, b4] 26)).alloc (.cells #[.bool false, .slice none 0 0, .bool false, .slice none 0 0] 26) := ⟨_, rfl⟩
  have hbw : Below w.heap.size w W0 := by rw [hW0]; exact (((Below.refl _ _).alloc (Nat.le_refl _) _).alloc (by simp) _).alloc (by simp; omega) _
  have tA : Four W0 w.heap.size a1 a2 a3 a4 := by rw [hW0]; exact ((Four.new w _ _ _ _ _).alloc _).alloc _
  have tB : Four W0 (w.heap.size + 1) b1 b2 b3 b4 := by
    have h := Four.new (w.alloc (.cells #[a1, a2, a3, a4] 26)) b1 b2 b3 b4 26
    rw [World.size_alloc] at h
    rw [hW0]; exact h.alloc _
  have tR : Four W0 (w.heap.size + 1 + 1) (.bool false) (.slice none 0 0) (.bool false) (.slice none 0 0) := by
    have h := Four.new ((w.alloc (.cells #[a1, a2, a3, a4] 26)).alloc (.cells #[b1, b2, b3, b4] 26)) (.bool false) (.slice none 0 0) (.bool false) (.slice none 0 0) 26
    rw [World.size_alloc, World.size_alloc] at h
    rw [hW0]; exact h
  have HW0 := Lib.hid hW0
  obtain ⟨c, ec⟩ : ∃ c, cmpQ r s = c := ⟨_, rfl⟩
  have HC := Lib.hid (cmp_q (h1.to hbw) (h2.to hbw) hk hl hkl ec)
  have HQ : Hid (∀ V, Below W0.heap.size W0 V → Calls Try.prog 38 #[.agg #[a1, a2, a3, a4]] V (QR V r)) := fun V hb => canonical_q ((h1.to hbw).to hb) (by omega)
  have hlt : 0 < c := by rw [← ec]; exact (cmpQ_max).2 hc
  have HB := Lib.hid hbw
  clear h1 h2 hk hl hkl hW0 hbw ec hc
  go_enter Try.func21, Try.ntmps21
  go_wp2_with fail
  rw [← HW0.out]
  have k0 := tA.c0
  have k1 := tA.c1
  have k2 := tA.c2
  have k3 := tA.c3
  have l0 := tB.c0
  have l1 := tB.c1
  have l2 := tB.c2
  have l3 := tB.c3
  go_wp2_with fail
  refine HC.out.mono ?_
  rintro e V1 ⟨rfl, bb⟩
  replace HQ := Lib.hid (HQ.out V1 bb)
  replace tA := tA.to bb
  replace tB := tB.to bb
  replace tR := tR.to bb
  replace HB := Lib.hid (HB.out.trans (bb.mono HB.out.size))
  clear k0 k1 k2 k3 l0 l1 l2 l3 bb HC HW0
  have k0 := tA.c0
  have k1 := tA.c1
  have k2 := tA.c2
  have k3 := tA.c3
  have l0 := tB.c0
  have l1 := tB.c1
  have l2 := tB.c2
  have l3 := tB.c3
  go_wp2_with fail
  refine HQ.out.mono ?_
  rintro e V2 ⟨x1, x2, x3, x4, rfl, rq, bb⟩
  replace tR := tR.to bb
  replace HB := Lib.hid (HB.out.trans (bb.mono HB.out.size))
  clear k0 k1 k2 k3 l0 l1 l2 l3 bb tA tB HQ
  have RQ := Lib.hid rq
  obtain ⟨V9, eV, u, kp⟩ := pack4 tR Fq.nil x1 x2 x3 x4
  obtain ⟨⟨n1, A1, l1, m1, rfl, rfl⟩, ⟨n2, A2, l2, m2, rfl, rfl⟩⟩ := rq.fq
  obtain ⟨v0, v1, v2, v3, v4, v5, v6, v7, _⟩ := tR
  have EV := Lib.hid eV
  have KP := Lib.hid kp
  have U := Lib.hid u
  clear eV kp u rq
  go_wp2
  rw [EV.out]
  refine bodyPost_ret (v := .agg #[.bool n1, .slice A1 l1 m1, .bool n2, .slice A2 l2 m2]) (by simp [results, Try.f21, go_sem, U.out.c0, U.out.c1, U.out.c2, U.out.c3]) rfl ?_
  exact ⟨_, _, _, _, rfl, RQ.out.k4 KP.out, KP.out.bel _ _ HB.out (by omega)⟩


set_option maxHeartbeats 8000000 in
theorem max_b {w : World} {a1 a2 a3 a4 b1 b2 b3 b4 : Value} {r s : Rat} {k l : Nat} (h1 : Qi w a1 a2 a3 a4 r k) (h2 : Qi w b1 b2 b3 b4 s l) (hk : 0 < k) (hl : 0 < l) (hkl : k + l ≤ 10000) (hc : ¬ s < r) : Calls Try.prog 21 #[.agg #[a1, a2, a3, a4], .agg #[b1, b2, b3, b4]] w (QR w s) := by
  obtain ⟨W0, hW0⟩ : ∃ W0, W0 = ((w.alloc (.cells #[a1, a2, a3, a4] 26)).alloc (.cells #[b1, b2, b3, b4] 26)).alloc (.cells #[.bool false, .slice none 0 0, .bool false, .slice none 0 0] 26) := ⟨_, rfl⟩
  have hbw : Below w.heap.size w W0 := by rw [hW0]; exact (((Below.refl _ _).alloc (Nat.le_refl _) _).alloc (by simp) _).alloc (by simp; omega) _
  have tA : Four W0 w.heap.size a1 a2 a3 a4 := by rw [hW0]; exact ((Four.new w _ _ _ _ _).alloc _).alloc _
  have tB : Four W0 (w.heap.size + 1) b1 b2 b3 b4 := by
    have h := Four.new (w.alloc (.cells #[a1, a2, a3, a4] 26)) b1 b2 b3 b4 26
    rw [World.size_alloc] at h
    rw [hW0]; exact h.alloc _
  have tR : Four W0 (w.heap.size + 1 + 1) (.bool false) (.slice none 0 0) (.bool false) (.slice none 0 0) := by
    have h := Four.new ((w.alloc (.cells #[a1, a2, a3, a4] 26)).alloc (.cells #[b1, b2, b3, b4] 26)) (.bool false) (.slice none 0 0) (.bool false) (.slice none 0 0) 26
    rw [World.size_alloc, World.size_alloc] at h
    rw [hW0]; exact h
  have HW0 := Lib.hid hW0
  obtain ⟨c, ec⟩ : ∃ c, cmpQ r s = c := ⟨_, rfl⟩
  have HC := Lib.hid (cmp_q (h1.to hbw) (h2.to hbw) hk hl hkl ec)
  have HQ : Hid (∀ V, Below W0.heap.size W0 V → Calls Try.prog 38 #[.agg #[b1, b2, b3, b4]] V (QR V s)) := fun V hb => canonical_q ((h2.to hbw).to hb) (by omega)
  have hlt : ¬ 0 < c := by rw [← ec]; exact fun h => hc ((cmpQ_max).1 h)
  have HB := Lib.hid hbw
  clear h1 h2 hk hl hkl hW0 hbw ec hc
  go_enter Try.func21, Try.ntmps21
  go_wp2_with fail
  rw [← HW0.out]
  have k0 := tA.c0
  have k1 := tA.c1
  have k2 := tA.c2
  have k3 := tA.c3
  have l0 := tB.c0
  have l1 := tB.c1
  have l2 := tB.c2
  have l3 := tB.c3
  go_wp2_with fail
  refine HC.out.mono ?_
  rintro e V1 ⟨rfl, bb⟩
  replace HQ := Lib.hid (HQ.out V1 bb)
  replace tA := tA.to bb
  replace tB := tB.to bb
  replace tR := tR.to bb
  replace HB := Lib.hid (HB.out.trans (bb.mono HB.out.size))
  clear k0 k1 k2 k3 l0 l1 l2 l3 bb HC HW0
  have k0 := tA.c0
  have k1 := tA.c1
  have k2 := tA.c2
  have k3 := tA.c3
  have l0 := tB.c0
  have l1 := tB.c1
  have l2 := tB.c2
  have l3 := tB.c3
  go_wp2_with fail
  refine HQ.out.mono ?_
  rintro e V2 ⟨x1, x2, x3, x4, rfl, rq, bb⟩
  replace tR := tR.to bb
  replace HB := Lib.hid (HB.out.trans (bb.mono HB.out.size))
  clear k0 k1 k2 k3 l0 l1 l2 l3 bb tA tB HQ
  have RQ := Lib.hid rq
  obtain ⟨V9, eV, u, kp⟩ := pack4 tR Fq.nil x1 x2 x3 x4
  obtain ⟨⟨n1, A1, l1, m1, rfl, rfl⟩, ⟨n2, A2, l2, m2, rfl, rfl⟩⟩ := rq.fq
  obtain ⟨v0, v1, v2, v3, v4, v5, v6, v7, _⟩ := tR
  have EV := Lib.hid eV
  have KP := Lib.hid kp
  have U := Lib.hid u
  clear eV kp u rq
  go_wp2
  rw [EV.out]
  refine bodyPost_ret (v := .agg #[.bool n1, .slice A1 l1 m1, .bool n2, .slice A2 l2 m2]) (by simp [results, Try.f21, go_sem, U.out.c0, U.out.c1, U.out.c2, U.out.c3]) rfl ?_
  exact ⟨_, _, _, _, rfl, RQ.out.k4 KP.out, KP.out.bel _ _ HB.out (by omega)⟩


set_option maxHeartbeats 8000000 in
theorem fromInt_q (n : Int) (n1 : -9223372036854775808 ≤ n) (n2 : n ≤ 9223372036854775807) (w : World) : Calls Try.prog 19 #[.int .i64 n] w (QR w (n : Rat)) := by
  obtain ⟨W0, hW0⟩ : ∃ W0, W0 = w.alloc (.cells #[.bool false, .slice none 0 0, .bool false, .slice none 0 0] 26) := ⟨_, rfl⟩
  have hbw : Below w.heap.size w W0 := by rw [hW0]; exact (Below.refl _ _).alloc (Nat.le_refl _) _
  have tR : Four W0 w.heap.size (.bool false) (.slice none 0 0) (.bool false) (.slice none 0 0) := by rw [hW0]; exact Four.new w _ _ _ _ _
  have HW0 := Lib.hid hW0
  have HB := Lib.hid hbw
  have HN := Lib.hid fun W => from_z n n1 n2 W
  clear hW0 hbw n1 n2
  go_enter Try.func19, Try.ntmps19
  go_wp2_with fail
  rw [← HW0.out]
  refine (HN.out _).mono ?_
  rintro e V1 ⟨x1, x2, rfl, rn, bb⟩
  replace tR := tR.to bb
  replace HB := Lib.hid (HB.out.trans (bb.mono HB.out.size))
  clear bb HN HW0
  have rq : Qc V1 x1 x2 (.bool false) (.slice none 0 0) (n : Rat) := ⟨rn, zc_nil _⟩
  have RQ := Lib.hid rq
  obtain ⟨V9, eV, u, kp⟩ := pack4 tR Fq.nil x1 x2 (.bool false) (.slice none 0 0)
  obtain ⟨n1, A1, l1, m1, rfl, rfl⟩ := rq.fq.1
  obtain ⟨v0, v1, v2, v3, v4, v5, v6, v7, _⟩ := tR
  have EV := Lib.hid eV
  have KP := Lib.hid kp
  have U := Lib.hid u
  clear eV kp u rq rn
  go_wp2
  rw [EV.out]
  refine bodyPost_ret (v := .agg #[.bool n1, .slice A1 l1 m1, .bool false, .slice none 0 0]) (by simp [results, Try.f19, go_sem, U.out.c0, U.out.c1, U.out.c2, U.out.c3]) rfl ?_
  exact ⟨_, _, _, _, rfl, RQ.out.k4 KP.out, KP.out.bel _ _ HB.out (Nat.le_refl _)⟩

end Go.Proofs.Ytbmnloelimmgiaa
