/- Parts: 4. -/
import Derived.Test.YtbmnloelimmgiaaGreatGm3
import Derived.Test.YtbmnloelimmgiaaGreatGm9
import Derived.Test.YtbmnloelimmgiaaGreatGm17
import Derived.Test.YtbmnloelimmgiaaGreatGm18
import Derived.BigQuiet
import Derived.Deep.QuietTactic
import Derived.WalkMore
set_option linter.unusedVariables false
set_option linter.unusedSimpArgs false
set_option maxRecDepth 100000
set_option maxHeartbeats 40000000

namespace Go.Proofs.YtbmnloelimmgiaaGreat
open Go.RowKit Go.Shelf
theorem sgn_num (r : Rat) : sgn r.num = if r = 0 then 0 else if r < 0 then -1 else 1 := by
 have h1 : r.num = 0 ↔ r = 0 := Rat.num_eq_zero
 have h2 : 0 <= r.num ↔ 0 <= r := Rat.num_nonneg
 have h3 : r < 0 ↔ ¬ 0 <= r := Rat.not_le.symm
 unfold sgn
 simp only [h1, h3, <- h2]
 repeat' split
 all_goals omega
def sgnQ (r : Rat) : Int := sgn r.num
theorem sgnQ_zero {r : Rat} : sgnQ r = 0 ↔ r = 0 := by
 unfold sgnQ
 rw [sgn_zero, Rat.num_eq_zero]
theorem sgn_divInt {n d : Int} (hd : 0 < d) : sgn (Rat.divInt n d).num = sgn n := by
 have h1 : (Rat.divInt n d).num = 0 ↔ n = 0 := by
  rw [Rat.num_eq_zero]
  constructor
  ·intro h
   have := (Rat.divInt_eq_divInt_iff (n₁ := n) (n₂ := 0) (d₁ := d) (d₂ := 1) (by omega) (by decide)).1 (by rw [h]; rfl)
   omega
  ·rintro rfl; exact Rat.zero_divInt _
 have h2 : 0 <= (Rat.divInt n d).num ↔ 0 <= n := by rw [Rat.num_nonneg, Rat.divInt_nonneg_iff_of_pos_right hd]
 unfold sgn
 simp only [h1]
 repeat' split
 all_goals omega
theorem sgn_up (p q : Int) : sgnQ (rv p q) = sgn (upN p q) := by
 unfold sgnQ
 rw [rv_up, sgn_divInt (upD_pos q)]
theorem sgn_neg_wrap (p : Int) : IntKind.i64.wrap (-(sgn p)) = sgn (-p) := by
 unfold sgn
 by_cases h0 : p = 0
 ·subst h0; decide
 ·by_cases h1 : p < 0
  ·rw [if_neg h0, if_pos h1, if_neg (by omega), if_neg (by omega)]; decide
  ·rw [if_neg h0, if_neg h1, if_neg (by omega), if_pos (by omega)]; decide
set_option maxRecDepth 100000 in
theorem add_q {w : World} {a1 a2 a3 a4 b1 b2 b3 b4 : Value} {r s : Rat} {k l : Nat} (h1 : Qi w a1 a2 a3 a4 r k) (h2 : Qi w b1 b2 b3 b4 s l) (hk : 0 < k) (hl : 0 < l) (hkl : k + l + 1 <= 10000) : Calls Tryz.prog 11 #[.agg #[a1, a2, a3, a4], .agg #[b1, b2, b3, b4]] w (QR w (r + s)) := by
 obtain ⟨W0, hW0⟩ : ∃ W0, W0 = ((w.alloc (.cells #[a1, a2, a3, a4] 26)).alloc (.cells #[b1, b2, b3, b4] 26)).alloc (.cells #[.bool false, .slice none 0 0, .bool false, .slice none 0 0] 26) := ⟨_, rfl⟩
 have hbw : Below w.heap.size w W0 := by rw [hW0]; exact (((Below.refl _ _).alloc (Nat.le_refl _) _).alloc (by simp) _).alloc (by simp; omega) _
 have tA : Four W0 w.heap.size a1 a2 a3 a4 := by rw [hW0]; exact ((Four.new w _ _ _ _ _).alloc _).alloc _
 have tB : Four W0 (w.heap.size + 1) b1 b2 b3 b4 := by
  have h := Four.new (w.alloc (.cells #[a1, a2, a3, a4] 26)) b1 b2 b3 b4 26
  rw [World.size_alloc] at h
  rw [hW0]; exact h.alloc _
 have tR : Four W0 (w.heap.size + 1 + 1) (.bool false) (.slice none 0 0) (.bool false) (.slice none 0 0) := by
  have h := Four.new ((w.alloc (.cells #[a1, a2, a3, a4] 26)).alloc (.cells #[b1, b2, b3, b4] 26)) (.bool false) (.slice none 0 0) (.bool false) (.slice none 0 0) 26
  rw [World.size_alloc, World.size_alloc] at h
  rw [hW0]; exact h
 have HW0 := Hd hW0
 have HC := Hd (operate_add (h1.to hbw) (h2.to hbw) hk hl hkl)
 have HB := Hd hbw
 clear h1 h2 hk hl hkl hW0 hbw
 go_enter Tryz.func11, Tryz.ntmps11
 go_wp2_with fail
 rw [<- HW0.out]
 have k0 := tA.c0
 have k1 := tA.c1
 have k2 := tA.c2
 have k3 := tA.c3
 have l0 := tB.c0
 have l1 := tB.c1
 have l2 := tB.c2
 have l3 := tB.c3
 go_wp2_with fail
 refine HC.out.mono ?_
 rintro e V1 ⟨x1, x2, x3, x4, rfl, rq, bb⟩
 replace tR := tR.to bb
 replace HB := hx HB bb
 clear k0 k1 k2 k3 l0 l1 l2 l3 bb tA tB HC HW0
 have RQ := Hd rq
 obtain ⟨V9, eV, u, kp⟩ := pack4 tR Fq.nil x1 x2 x3 x4
 obtain ⟨⟨n1, A1, l1, m1, rfl, rfl⟩, ⟨n2, A2, l2, m2, rfl, rfl⟩⟩ := rq.fq
 obtain ⟨v0, v1, v2, v3, v4, v5, v6, v7, _⟩ := tR
 have EV := Hd eV
 have KP := Hd kp
 have U := Hd u
 clear eV kp u rq
 go_wp2
 rw [EV.out]
 refine bodyPost_ret (v := .agg #[.bool n1, .slice A1 l1 m1, .bool n2, .slice A2 l2 m2]) (by simp [results, Tryz.f11, go_sem, U.out.c0, U.out.c1, U.out.c2, U.out.c3]) rfl ?_
 exact ⟨_, _, _, _, rfl, RQ.out.k4 KP.out, KP.out.bel _ _ HB.out (by omega)⟩
set_option maxRecDepth 100000 in
theorem sub_q {w : World} {a1 a2 a3 a4 b1 b2 b3 b4 : Value} {r s : Rat} {k l : Nat} (h1 : Qi w a1 a2 a3 a4 r k) (h2 : Qi w b1 b2 b3 b4 s l) (hk : 0 < k) (hl : 0 < l) (hkl : k + l + 1 <= 10000) : Calls Tryz.prog 13 #[.agg #[a1, a2, a3, a4], .agg #[b1, b2, b3, b4]] w (QR w (r - s)) := by
 obtain ⟨W0, hW0⟩ : ∃ W0, W0 = ((w.alloc (.cells #[a1, a2, a3, a4] 26)).alloc (.cells #[b1, b2, b3, b4] 26)).alloc (.cells #[.bool false, .slice none 0 0, .bool false, .slice none 0 0] 26) := ⟨_, rfl⟩
 have hbw : Below w.heap.size w W0 := by rw [hW0]; exact (((Below.refl _ _).alloc (Nat.le_refl _) _).alloc (by simp) _).alloc (by simp; omega) _
 have tA : Four W0 w.heap.size a1 a2 a3 a4 := by rw [hW0]; exact ((Four.new w _ _ _ _ _).alloc _).alloc _
 have tB : Four W0 (w.heap.size + 1) b1 b2 b3 b4 := by
  have h := Four.new (w.alloc (.cells #[a1, a2, a3, a4] 26)) b1 b2 b3 b4 26
  rw [World.size_alloc] at h
  rw [hW0]; exact h.alloc _
 have tR : Four W0 (w.heap.size + 1 + 1) (.bool false) (.slice none 0 0) (.bool false) (.slice none 0 0) := by
  have h := Four.new ((w.alloc (.cells #[a1, a2, a3, a4] 26)).alloc (.cells #[b1, b2, b3, b4] 26)) (.bool false) (.slice none 0 0) (.bool false) (.slice none 0 0) 26
  rw [World.size_alloc, World.size_alloc] at h
  rw [hW0]; exact h
 have HW0 := Hd hW0
 have HC := Hd (operate_sub (h1.to hbw) (h2.to hbw) hk hl hkl)
 have HB := Hd hbw
 clear h1 h2 hk hl hkl hW0 hbw
 go_enter Tryz.func13, Tryz.ntmps13
 go_wp2_with fail
 rw [<- HW0.out]
 have k0 := tA.c0
 have k1 := tA.c1
 have k2 := tA.c2
 have k3 := tA.c3
 have l0 := tB.c0
 have l1 := tB.c1
 have l2 := tB.c2
 have l3 := tB.c3
 go_wp2_with fail
 refine HC.out.mono ?_
 rintro e V1 ⟨x1, x2, x3, x4, rfl, rq, bb⟩
 replace tR := tR.to bb
 replace HB := hx HB bb
 clear k0 k1 k2 k3 l0 l1 l2 l3 bb tA tB HC HW0
 have RQ := Hd rq
 obtain ⟨V9, eV, u, kp⟩ := pack4 tR Fq.nil x1 x2 x3 x4
 obtain ⟨⟨n1, A1, l1, m1, rfl, rfl⟩, ⟨n2, A2, l2, m2, rfl, rfl⟩⟩ := rq.fq
 obtain ⟨v0, v1, v2, v3, v4, v5, v6, v7, _⟩ := tR
 have EV := Hd eV
 have KP := Hd kp
 have U := Hd u
 clear eV kp u rq
 go_wp2
 rw [EV.out]
 refine bodyPost_ret (v := .agg #[.bool n1, .slice A1 l1 m1, .bool n2, .slice A2 l2 m2]) (by simp [results, Tryz.f13, go_sem, U.out.c0, U.out.c1, U.out.c2, U.out.c3]) rfl ?_
 exact ⟨_, _, _, _, rfl, RQ.out.k4 KP.out, KP.out.bel _ _ HB.out (by omega)⟩
set_option maxRecDepth 100000 in
theorem mul_q {w : World} {a1 a2 a3 a4 b1 b2 b3 b4 : Value} {r s : Rat} {k l : Nat} (h1 : Qi w a1 a2 a3 a4 r k) (h2 : Qi w b1 b2 b3 b4 s l) (hk : 0 < k) (hl : 0 < l) (hkl : k + l + 1 <= 10000) : Calls Tryz.prog 15 #[.agg #[a1, a2, a3, a4], .agg #[b1, b2, b3, b4]] w (QR w (r * s)) := by
 obtain ⟨W0, hW0⟩ : ∃ W0, W0 = ((w.alloc (.cells #[a1, a2, a3, a4] 26)).alloc (.cells #[b1, b2, b3, b4] 26)).alloc (.cells #[.bool false, .slice none 0 0, .bool false, .slice none 0 0] 26) := ⟨_, rfl⟩
 have hbw : Below w.heap.size w W0 := by rw [hW0]; exact (((Below.refl _ _).alloc (Nat.le_refl _) _).alloc (by simp) _).alloc (by simp; omega) _
 have tA : Four W0 w.heap.size a1 a2 a3 a4 := by rw [hW0]; exact ((Four.new w _ _ _ _ _).alloc _).alloc _
 have tB : Four W0 (w.heap.size + 1) b1 b2 b3 b4 := by
  have h := Four.new (w.alloc (.cells #[a1, a2, a3, a4] 26)) b1 b2 b3 b4 26
  rw [World.size_alloc] at h
  rw [hW0]; exact h.alloc _
 have tR : Four W0 (w.heap.size + 1 + 1) (.bool false) (.slice none 0 0) (.bool false) (.slice none 0 0) := by
  have h := Four.new ((w.alloc (.cells #[a1, a2, a3, a4] 26)).alloc (.cells #[b1, b2, b3, b4] 26)) (.bool false) (.slice none 0 0) (.bool false) (.slice none 0 0) 26
  rw [World.size_alloc, World.size_alloc] at h
  rw [hW0]; exact h
 have HW0 := Hd hW0
 have HC := Hd (operate_mul (h1.to hbw) (h2.to hbw) hk hl hkl)
 have HB := Hd hbw
 clear h1 h2 hk hl hkl hW0 hbw
 go_enter Tryz.func15, Tryz.ntmps15
 go_wp2_with fail
 rw [<- HW0.out]
 have k0 := tA.c0
 have k1 := tA.c1
 have k2 := tA.c2
 have k3 := tA.c3
 have l0 := tB.c0
 have l1 := tB.c1
 have l2 := tB.c2
 have l3 := tB.c3
 go_wp2_with fail
 refine HC.out.mono ?_
 rintro e V1 ⟨x1, x2, x3, x4, rfl, rq, bb⟩
 replace tR := tR.to bb
 replace HB := hx HB bb
 clear k0 k1 k2 k3 l0 l1 l2 l3 bb tA tB HC HW0
 have RQ := Hd rq
 obtain ⟨V9, eV, u, kp⟩ := pack4 tR Fq.nil x1 x2 x3 x4
 obtain ⟨⟨n1, A1, l1, m1, rfl, rfl⟩, ⟨n2, A2, l2, m2, rfl, rfl⟩⟩ := rq.fq
 obtain ⟨v0, v1, v2, v3, v4, v5, v6, v7, _⟩ := tR
 have EV := Hd eV
 have KP := Hd kp
 have U := Hd u
 clear eV kp u rq
 go_wp2
 rw [EV.out]
 refine bodyPost_ret (v := .agg #[.bool n1, .slice A1 l1 m1, .bool n2, .slice A2 l2 m2]) (by simp [results, Tryz.f15, go_sem, U.out.c0, U.out.c1, U.out.c2, U.out.c3]) rfl ?_
 exact ⟨_, _, _, _, rfl, RQ.out.k4 KP.out, KP.out.bel _ _ HB.out (by omega)⟩
set_option maxRecDepth 100000 in
theorem sign_q {w : World} {a1 a2 a3 a4 : Value} {r : Rat} {k : Nat} (h1 : Qi w a1 a2 a3 a4 r k) {v : Int} (hv : sgnQ r = v) : Calls Tryz.prog 25 #[.agg #[a1, a2, a3, a4]] w fun e w' => e = .returned (.int .i64 v) /\ Below w.heap.size w w' := by
 obtain ⟨p, q, z1, z2, rfl, -, -⟩ := h1
 rw [sgn_up] at hv
 obtain ⟨W0, hW0⟩ : ∃ W0, W0 = w.alloc (.cells #[a1, a2, a3, a4] 26) := ⟨_, rfl⟩
 have hbw : Below w.heap.size w W0 := by rw [hW0]; exact (Below.refl _ _).alloc (Nat.le_refl _) _
 have tA : Four W0 w.heap.size a1 a2 a3 a4 := by rw [hW0]; exact Four.new w _ _ _ _ _
 have HW0 := Hd hW0
 have hA := z1.to hbw
 have hB := z2.to hbw
 have HB := Hd hbw
 clear z1 z2 hW0 hbw
 obtain ⟨sq, esq⟩ : ∃ sq, sgn q = sq := ⟨_, rfl⟩
 obtain ⟨sp, esp⟩ : ∃ sp, sgn p = sp := ⟨_, rfl⟩
 have ESQ := Hd esq
 have ESP := Hd esp
 by_cases hq : q < 0
 ·have hlt : sq < 0 := by rw [<- esq, sgn_neg hq]; decide
  have hw : IntKind.i64.wrap (-sp) = v := by rw [<- hv, <- esp, sgn_neg_wrap]; unfold upN; rw [if_pos hq]
  clear hv esq esp hq
  go_enter Tryz.func25, Tryz.ntmps25
  go_wp2_with fail
  rw [<- HW0.out]
  have k0 := tA.c0
  have k1 := tA.c1
  have k2 := tA.c2
  have k3 := tA.c3
  go_wp2_with fail
  refine (sign_v hB ESQ.out).mono ?_
  rintro e V1 ⟨rfl, bb⟩
  replace tA := tA.to bb
  replace hA := hA.to bb
  replace HB := hx HB bb
  clear k0 k1 k2 k3 bb hB HW0
  have k0 := tA.c0
  have k1 := tA.c1
  have k2 := tA.c2
  have k3 := tA.c3
  go_wp2_with fail
  refine (sign_v hA ESP.out).mono ?_
  rintro e V2 ⟨rfl, bb⟩
  replace HB := hx HB bb
  clear k0 k1 k2 k3 bb hA tA
  go_wp2
  go_ret
  exact ⟨rfl, HB.out⟩
 ·have hlt : ¬ sq < 0 := by
   rw [<- esq]; unfold sgn
   repeat' split
   all_goals omega
  have hw : sp = v := by rw [<- hv, <- esp]; unfold upN; rw [if_neg hq]
  clear hv esq esp hq
  go_enter Tryz.func25, Tryz.ntmps25
  go_wp2_with fail
  rw [<- HW0.out]
  have k0 := tA.c0
  have k1 := tA.c1
  have k2 := tA.c2
  have k3 := tA.c3
  go_wp2_with fail
  refine (sign_v hB ESQ.out).mono ?_
  rintro e V1 ⟨rfl, bb⟩
  replace tA := tA.to bb
  replace hA := hA.to bb
  replace HB := hx HB bb
  clear k0 k1 k2 k3 bb hB HW0
  have k0 := tA.c0
  have k1 := tA.c1
  have k2 := tA.c2
  have k3 := tA.c3
  go_wp2_with fail
  refine (sign_v hA ESP.out).mono ?_
  rintro e V2 ⟨rfl, bb⟩
  replace HB := hx HB bb
  clear k0 k1 k2 k3 bb hA tA
  go_wp2
  go_ret
  exact ⟨rfl, HB.out⟩
set_option maxRecDepth 100000 in
theorem div_q {w : World} {a1 a2 a3 a4 b1 b2 b3 b4 : Value} {r s : Rat} {k l : Nat} (h1 : Qi w a1 a2 a3 a4 r k) (h2 : Qi w b1 b2 b3 b4 s l) (hk : 0 < k) (hl : 0 < l) (hkl : k + l + 1 <= 10000) (hs : s ≠ 0) : Calls Tryz.prog 8 #[.agg #[a1, a2, a3, a4], .agg #[b1, b2, b3, b4]] w fun e w' => ∃ x1 x2 x3 x4, e = .returned (.tuple #[.agg #[x1, x2, x3, x4], .int .i64 0]) /\ Qc w' x1 x2 x3 x4 (r / s) /\ Below w.heap.size w w' := by
 obtain ⟨W0, hW0⟩ : ∃ W0, W0 = ((w.alloc (.cells #[a1, a2, a3, a4] 26)).alloc (.cells #[b1, b2, b3, b4] 26)).alloc (.cells #[.bool false, .slice none 0 0, .bool false, .slice none 0 0] 26) := ⟨_, rfl⟩
 have hbw : Below w.heap.size w W0 := by rw [hW0]; exact (((Below.refl _ _).alloc (Nat.le_refl _) _).alloc (by simp) _).alloc (by simp; omega) _
 have tA : Four W0 w.heap.size a1 a2 a3 a4 := by rw [hW0]; exact ((Four.new w _ _ _ _ _).alloc _).alloc _
 have tB : Four W0 (w.heap.size + 1) b1 b2 b3 b4 := by
  have h := Four.new (w.alloc (.cells #[a1, a2, a3, a4] 26)) b1 b2 b3 b4 26
  rw [World.size_alloc] at h
  rw [hW0]; exact h.alloc _
 have tR : Four W0 (w.heap.size + 1 + 1) (.bool false) (.slice none 0 0) (.bool false) (.slice none 0 0) := by
  have h := Four.new ((w.alloc (.cells #[a1, a2, a3, a4] 26)).alloc (.cells #[b1, b2, b3, b4] 26)) (.bool false) (.slice none 0 0) (.bool false) (.slice none 0 0) 26
  rw [World.size_alloc, World.size_alloc] at h
  rw [hW0]; exact h
 have HW0 := Hd hW0
 have hA := h1.to hbw
 have hB := h2.to hbw
 have HB := Hd hbw
 obtain ⟨v, ev⟩ : ∃ v, sgnQ s = v := ⟨_, rfl⟩
 have hv : (v == 0) = false := by rw [beq_eq_false_iff_ne, <- ev]; exact fun h => hs (sgnQ_zero.1 h)
 have HC : Hid (∀ V, Below W0.heap.size W0 V -> Calls Tryz.prog 51 #[.int .i32 47, .agg #[a1, a2, a3, a4], .agg #[b1, b2, b3, b4]] V (QR V (r / s))) := fun V hb => operate_div (hA.to hb) (hB.to hb) hk hl hkl hs
 have HS := Hd (sign_q hB ev)
 clear h1 h2 hk hl hkl hW0 hbw ev hs hA hB
 go_enter Tryz.func8, Tryz.ntmps8
 go_wp2_with fail
 rw [<- HW0.out]
 have k0 := tA.c0
 have k1 := tA.c1
 have k2 := tA.c2
 have k3 := tA.c3
 have l0 := tB.c0
 have l1 := tB.c1
 have l2 := tB.c2
 have l3 := tB.c3
 go_wp2_with fail
 refine HS.out.mono ?_
 rintro e V1 ⟨rfl, bb⟩
 replace HC := Hd (HC.out V1 bb)
 replace tA := tA.to bb
 replace tB := tB.to bb
 replace tR := tR.to bb
 replace HB := hx HB bb
 clear k0 k1 k2 k3 l0 l1 l2 l3 bb HS HW0
 have k0 := tA.c0
 have k1 := tA.c1
 have k2 := tA.c2
 have k3 := tA.c3
 have l0 := tB.c0
 have l1 := tB.c1
 have l2 := tB.c2
 have l3 := tB.c3
 go_wp2_with fail
 refine HC.out.mono ?_
 rintro e V2 ⟨x1, x2, x3, x4, rfl, rq, bb⟩
 replace tR := tR.to bb
 replace HB := hx HB bb
 clear k0 k1 k2 k3 l0 l1 l2 l3 bb tA tB HC
 have RQ := Hd rq
 obtain ⟨V9, eV, u, kp⟩ := pack4 tR Fq.nil x1 x2 x3 x4
 obtain ⟨⟨n1, A1, l1, m1, rfl, rfl⟩, ⟨n2, A2, l2, m2, rfl, rfl⟩⟩ := rq.fq
 obtain ⟨v0, v1, v2, v3, v4, v5, v6, v7, _⟩ := tR
 have EV := Hd eV
 have KP := Hd kp
 have U := Hd u
 clear eV kp u rq
 go_wp2
 rw [EV.out]
 refine bodyPost_ret (v := .tuple #[.agg #[.bool n1, .slice A1 l1 m1, .bool n2, .slice A2 l2 m2], .int .i64 0]) (by simp [results, Tryz.f8, go_sem, U.out.c0, U.out.c1, U.out.c2, U.out.c3]) rfl ?_
 exact ⟨_, _, _, _, rfl, RQ.out.k4 KP.out, KP.out.bel _ _ HB.out (by omega)⟩
set_option maxRecDepth 100000 in
theorem div_0 {w : World} {a1 a2 a3 a4 b1 b2 b3 b4 : Value} {s : Rat} {l : Nat} (h2 : Qi w b1 b2 b3 b4 s l) (hs : s = 0) : Calls Tryz.prog 8 #[.agg #[a1, a2, a3, a4], .agg #[b1, b2, b3, b4]] w fun e w' => e = .returned (.tuple #[.agg #[.bool false, .slice none 0 0, .bool false, .slice none 0 0], .int .i64 7]) /\ Below w.heap.size w w' := by
 obtain ⟨W0, hW0⟩ : ∃ W0, W0 = ((w.alloc (.cells #[a1, a2, a3, a4] 26)).alloc (.cells #[b1, b2, b3, b4] 26)).alloc (.cells #[.bool false, .slice none 0 0, .bool false, .slice none 0 0] 26) := ⟨_, rfl⟩
 have hbw : Below w.heap.size w W0 := by rw [hW0]; exact (((Below.refl _ _).alloc (Nat.le_refl _) _).alloc (by simp) _).alloc (by simp; omega) _
 have tA : Four W0 w.heap.size a1 a2 a3 a4 := by rw [hW0]; exact ((Four.new w _ _ _ _ _).alloc _).alloc _
 have tB : Four W0 (w.heap.size + 1) b1 b2 b3 b4 := by
  have h := Four.new (w.alloc (.cells #[a1, a2, a3, a4] 26)) b1 b2 b3 b4 26
  rw [World.size_alloc] at h
  rw [hW0]; exact h.alloc _
 have tR : Four W0 (w.heap.size + 1 + 1) (.bool false) (.slice none 0 0) (.bool false) (.slice none 0 0) := by
  have h := Four.new ((w.alloc (.cells #[a1, a2, a3, a4] 26)).alloc (.cells #[b1, b2, b3, b4] 26)) (.bool false) (.slice none 0 0) (.bool false) (.slice none 0 0) 26
  rw [World.size_alloc, World.size_alloc] at h
  rw [hW0]; exact h
 have HW0 := Hd hW0
 have HS := Hd (sign_q (h2.to hbw) (sgnQ_zero.2 hs))
 have HB := Hd hbw
 clear h2 hW0 hbw hs
 go_enter Tryz.func8, Tryz.ntmps8
 go_wp2_with fail
 rw [<- HW0.out]
 have k0 := tA.c0
 have k1 := tA.c1
 have k2 := tA.c2
 have k3 := tA.c3
 have l0 := tB.c0
 have l1 := tB.c1
 have l2 := tB.c2
 have l3 := tB.c3
 go_wp2_with fail
 refine HS.out.mono ?_
 rintro e V1 ⟨rfl, bb⟩
 replace tR := tR.to bb
 replace HB := hx HB bb
 clear k0 k1 k2 k3 l0 l1 l2 l3 bb HS HW0 tA tB
 obtain ⟨V9, eV, u, kp⟩ := pack4 tR Fq.nil (.bool false) (.slice none 0 0) (.bool false) (.slice none 0 0)
 obtain ⟨v0, v1, v2, v3, v4, v5, v6, v7, _⟩ := tR
 have EV := Hd eV
 have KP := Hd kp
 have U := Hd u
 clear eV kp u
 go_wp2
 rw [EV.out]
 refine bodyPost_ret (v := .tuple #[.agg #[.bool false, .slice none 0 0, .bool false, .slice none 0 0], .int .i64 7]) (by simp [results, Tryz.f8, go_sem, U.out.c0, U.out.c1, U.out.c2, U.out.c3]) rfl ?_
 exact ⟨rfl, KP.out.bel _ _ HB.out (by omega)⟩
set_option maxRecDepth 100000 in
theorem cmp_q {w : World} {a1 a2 a3 a4 b1 b2 b3 b4 : Value} {r s : Rat} {k l : Nat} (h1 : Qi w a1 a2 a3 a4 r k) (h2 : Qi w b1 b2 b3 b4 s l) (hk : 0 < k) (hl : 0 < l) (hkl : k + l <= 10000) {v : Int} (hv : cmpQ r s = v) : Calls Tryz.prog 27 #[.agg #[a1, a2, a3, a4], .agg #[b1, b2, b3, b4]] w fun e w' => e = .returned (.int .i64 v) /\ Below w.heap.size w w' := by
 obtain ⟨W0, hW0⟩ : ∃ W0, W0 = (w.alloc (.cells #[a1, a2, a3, a4] 26)).alloc (.cells #[b1, b2, b3, b4] 26) := ⟨_, rfl⟩
 have hbw : Below w.heap.size w W0 := by rw [hW0]; exact ((Below.refl _ _).alloc (Nat.le_refl _) _).alloc (by simp) _
 have tA : Four W0 w.heap.size a1 a2 a3 a4 := by rw [hW0]; exact (Four.new w _ _ _ _ _).alloc _
 have tB : Four W0 (w.heap.size + 1) b1 b2 b3 b4 := by
  have h := Four.new (w.alloc (.cells #[a1, a2, a3, a4] 26)) b1 b2 b3 b4 26
  rw [World.size_alloc] at h
  rw [hW0]; exact h
 have HW0 := Hd hW0
 have HU1 : Hid (∀ V, Below W0.heap.size W0 V -> Calls Tryz.prog 63 #[.agg #[a1, a2, a3, a4]] V (UpR V r k)) := fun V hb => upright_q ((h1.to hbw).to hb) hk (by omega)
 have HU2 : Hid (∀ V, Below W0.heap.size W0 V -> Calls Tryz.prog 63 #[.agg #[b1, b2, b3, b4]] V (UpR V s l)) := fun V hb => upright_q ((h2.to hbw).to hb) hl (by omega)
 have HB0 := Hd hbw
 have HKL := Hd hkl
 have HV := Hd hv
 clear h1 h2 hk hl hW0 hbw hkl hv
 go_enter Tryz.func27, Tryz.ntmps27
 go_wp2_with fail
 rw [<- HW0.out]
 clear HW0
 refine wp_cut (fun a' v' w' => ∃ (x1 x2 : Value) (g1 g2 : Nat) (u10 u11 u12 u13 u20 u21 u22 u23 y1 y2 : Value) (N1 D1 N2 D2 : Int), v' = ((((((a'.put (some 7) x1).put (some 9) x2).put (some 8) y1).put (some 10) y2).put (some 5) (.pointer (some ⟨g1, 0, none⟩))).put (some 6) (.pointer (some ⟨g2, 0, none⟩))) /\ Four w' g1 u10 u11 u12 u13 /\ Four w' g2 u20 u21 u22 u23 /\ Up w' u10 u11 u12 u13 r k N1 D1 /\ Up w' u20 u21 u22 u23 s l N2 D2 /\ (W0.heap.size <= g1 /\ W0.heap.size <= g2) /\ Below W0.heap.size W0 w') ?_ ?_
 ·refine wp_region_planTo (S := fun w' => Below W0.heap.size W0 w') [(0, true), (2, true)] #[true, false, true, false, false, false, false, false] 6 (by kernel_rfl) (by kernel_rfl) (Below.refl _ _).drew ?_
  refine plan_take rfl (by rfl) (fun w' hS => load_four (by rfl) (tA.to hS)) ?_; simp only [Act.put, List.setIfInBounds_toArray, List.set_cons_zero, List.set_cons_succ]
  refine plan_take rfl (by rfl) (fun w' hS => load_four (by rfl) (tB.to hS)) ?_; simp only [Act.put, List.setIfInBounds_toArray, List.set_cons_zero, List.set_cons_succ]
  intro HB
  refine dag (fun G up dn => ?_)
  have S212 : ∀ (V : World) (u10 u11 u12 u13 : Value) (N1 D1 : Int) (u20 u21 u22 u23 : Value) (N2 D2 : Int) (g1 : Nat) (g2 : Nat), Below W0.heap.size W0 V -> Up V u10 u11 u12 u13 r k N1 D1 -> Up V u20 u21 u22 u23 s l N2 D2 -> Four V g1 (.bool false) (.slice none 0 0) (.bool false) (.slice none 0 0) -> W0.heap.size <= g1 -> Four V g2 (.bool false) (.slice none 0 0) (.bool false) (.slice none 0 0) -> W0.heap.size <= g2 -> g1 ≠ g2 -> G 2 #[true, true, true, true, true, true, false, false] ⟨#[.agg #[a1, a2, a3, a4], .agg #[b1, b2, b3, b4], .pointer (some ⟨w.heap.size, 0, none⟩), .pointer (some ⟨w.heap.size + 1, 0, none⟩), .int .i64 0, .pointer (some ⟨g1, 0, none⟩), .pointer (some ⟨g2, 0, none⟩), .agg #[a1, a2, a3, a4], .agg #[u10, u11, u12, u13], .agg #[b1, b2, b3, b4], .agg #[u20, u21, u22, u23], undef, undef, undef, undef, undef, undef, undef], []⟩ V := by
   intro V u10 u11 u12 u13 N1 D1 u20 u21 u22 u23 N2 D2 g1 g2 HB r1 r2 t1 b1 t2 b2 ne
   refine up ?_
   refine rdy1 (i := 6) (by kernel_rfl) rfl (by rfl) (fun K hK => ?_)
   refine wp_store_q (by rfl) (by rfl) t1 Fq.nil r1.fq (fun V u kp => ?_)
   replace t2 := kp.four (Ne.symm ne) t2
   replace r1 := kp.up r1
   replace r2 := kp.up r2
   replace HB := kp.bel _ _ HB b1
   clear t1
   have t1 := u
   refine hK.out _ _ HB ?_
   clear hK K kp u
   refine rdy1 (i := 7) (by kernel_rfl) rfl (by rfl) (fun K hK => ?_)
   refine wp_store_q (by rfl) (by rfl) t2 Fq.nil r2.fq (fun V u kp => ?_)
   replace t1 := kp.four ne t1
   replace r1 := kp.up r1
   replace r2 := kp.up r2
   replace HB := kp.bel _ _ HB b2
   clear t2
   have t2 := u
   refine hK.out _ _ HB ?_
   clear hK K kp u
   exact wpAnyH_done (by kernel_rfl) ⟨rfl, _, _, g1, g2, _, _, _, _, _, _, _, _, _, _, _, _, _, _, by rfl, t1, t2, r1, r2, ⟨b1, b2⟩, HB⟩ _
  have S21 : ∀ (V : World) (u10 u11 u12 u13 : Value) (N1 D1 : Int) (u20 u21 u22 u23 : Value) (N2 D2 : Int) (g1 : Nat), Below W0.heap.size W0 V -> Up V u10 u11 u12 u13 r k N1 D1 -> Up V u20 u21 u22 u23 s l N2 D2 -> Four V g1 (.bool false) (.slice none 0 0) (.bool false) (.slice none 0 0) -> W0.heap.size <= g1 -> G 3 #[true, true, true, true, true, false, false, false] ⟨#[.agg #[a1, a2, a3, a4], .agg #[b1, b2, b3, b4], .pointer (some ⟨w.heap.size, 0, none⟩), .pointer (some ⟨w.heap.size + 1, 0, none⟩), .int .i64 0, .pointer (some ⟨g1, 0, none⟩), undef, .agg #[a1, a2, a3, a4], .agg #[u10, u11, u12, u13], .agg #[b1, b2, b3, b4], .agg #[u20, u21, u22, u23], undef, undef, undef, undef, undef, undef, undef], []⟩ V := by
   intro V u10 u11 u12 u13 N1 D1 u20 u21 u22 u23 N2 D2 g1 HB r1 r2 t1 b1 
   refine up ?_
   refine rdy1 (i := 5) (by kernel_rfl) rfl (by rfl) (fun K hK => ?_)
   refine wp_alloc_four (fun g2 V t2 bb hg => ?_)
   have b2 := Nat.le_trans HB.size hg
   replace HB := bx HB bb
   have ne : g1 ≠ g2 := Nat.ne_of_lt (Nat.lt_of_lt_of_le t1.lt hg)
   replace t1 := t1.to bb
   replace r1 := r1.to bb
   replace r2 := r2.to bb
   refine hK.out _ _ HB ?_
   exact dn (S212 _ _ _ _ _ _ _ _ _ _ _ _ _ _ _ HB r1 r2 t1 b1 t2 b2 ne)
  have S22 : ∀ (V : World) (u10 u11 u12 u13 : Value) (N1 D1 : Int) (u20 u21 u22 u23 : Value) (N2 D2 : Int) (g2 : Nat), Below W0.heap.size W0 V -> Up V u10 u11 u12 u13 r k N1 D1 -> Up V u20 u21 u22 u23 s l N2 D2 -> Four V g2 (.bool false) (.slice none 0 0) (.bool false) (.slice none 0 0) -> W0.heap.size <= g2 -> G 3 #[true, true, true, true, false, true, false, false] ⟨#[.agg #[a1, a2, a3, a4], .agg #[b1, b2, b3, b4], .pointer (some ⟨w.heap.size, 0, none⟩), .pointer (some ⟨w.heap.size + 1, 0, none⟩), .int .i64 0, undef, .pointer (some ⟨g2, 0, none⟩), .agg #[a1, a2, a3, a4], .agg #[u10, u11, u12, u13], .agg #[b1, b2, b3, b4], .agg #[u20, u21, u22, u23], undef, undef, undef, undef, undef, undef, undef], []⟩ V := by
   intro V u10 u11 u12 u13 N1 D1 u20 u21 u22 u23 N2 D2 g2 HB r1 r2 t2 b2 
   refine up ?_
   refine rdy1 (i := 4) (by kernel_rfl) rfl (by rfl) (fun K hK => ?_)
   refine wp_alloc_four (fun g1 V t1 bb hg => ?_)
   have b1 := Nat.le_trans HB.size hg
   replace HB := bx HB bb
   have ne : g1 ≠ g2 := Nat.ne_of_gt (Nat.lt_of_lt_of_le t2.lt hg)
   replace t2 := t2.to bb
   replace r1 := r1.to bb
   replace r2 := r2.to bb
   refine hK.out _ _ HB ?_
   exact dn (S212 _ _ _ _ _ _ _ _ _ _ _ _ _ _ _ HB r1 r2 t1 b1 t2 b2 ne)
  have S2 : ∀ (V : World) (u10 u11 u12 u13 : Value) (N1 D1 : Int) (u20 u21 u22 u23 : Value) (N2 D2 : Int), Below W0.heap.size W0 V -> Up V u10 u11 u12 u13 r k N1 D1 -> Up V u20 u21 u22 u23 s l N2 D2 -> G 4 #[true, true, true, true, false, false, false, false] ⟨#[.agg #[a1, a2, a3, a4], .agg #[b1, b2, b3, b4], .pointer (some ⟨w.heap.size, 0, none⟩), .pointer (some ⟨w.heap.size + 1, 0, none⟩), .int .i64 0, undef, undef, .agg #[a1, a2, a3, a4], .agg #[u10, u11, u12, u13], .agg #[b1, b2, b3, b4], .agg #[u20, u21, u22, u23], undef, undef, undef, undef, undef, undef, undef], []⟩ V := by
   intro V u10 u11 u12 u13 N1 D1 u20 u21 u22 u23 N2 D2 HB r1 r2 
   refine up ?_
   refine wpAnyH_ready (rs := [4, 5]) (by kernel_rfl) (by simp) (ready_cons rfl (by rfl) (fun K hK => ?_) (ready_cons rfl (by rfl) (fun K hK => ?_) AllReadyH.nil))
   ·refine wp_alloc_four (fun g1 V t1 bb hg => ?_)
    have b1 := Nat.le_trans HB.size hg
    replace HB := bx HB bb
    replace r1 := r1.to bb
    replace r2 := r2.to bb
    refine hK.out _ _ HB ?_
    exact dn (S21 _ _ _ _ _ _ _ _ _ _ _ _ _ _ HB r1 r2 t1 b1)
   ·refine wp_alloc_four (fun g2 V t2 bb hg => ?_)
    have b2 := Nat.le_trans HB.size hg
    replace HB := bx HB bb
    replace r1 := r1.to bb
    replace r2 := r2.to bb
    refine hK.out _ _ HB ?_
    exact dn (S22 _ _ _ _ _ _ _ _ _ _ _ _ _ _ HB r1 r2 t2 b2)
  have S112 : ∀ (V : World) (u10 u11 u12 u13 : Value) (N1 D1 : Int) (g1 : Nat) (g2 : Nat), Below W0.heap.size W0 V -> Up V u10 u11 u12 u13 r k N1 D1 -> Four V g1 (.bool false) (.slice none 0 0) (.bool false) (.slice none 0 0) -> W0.heap.size <= g1 -> Four V g2 (.bool false) (.slice none 0 0) (.bool false) (.slice none 0 0) -> W0.heap.size <= g2 -> g1 ≠ g2 -> G 3 #[true, true, true, false, true, true, false, false] ⟨#[.agg #[a1, a2, a3, a4], .agg #[b1, b2, b3, b4], .pointer (some ⟨w.heap.size, 0, none⟩), .pointer (some ⟨w.heap.size + 1, 0, none⟩), .int .i64 0, .pointer (some ⟨g1, 0, none⟩), .pointer (some ⟨g2, 0, none⟩), .agg #[a1, a2, a3, a4], .agg #[u10, u11, u12, u13], .agg #[b1, b2, b3, b4], undef, undef, undef, undef, undef, undef, undef, undef], []⟩ V := by
   intro V u10 u11 u12 u13 N1 D1 g1 g2 HB r1 t1 b1 t2 b2 ne
   refine up ?_
   refine rdy1 (i := 3) (by kernel_rfl) rfl (by rfl) (fun K hK => ?_)
   go_simp
   refine (HU2 _ HB).mono ?_
   rintro e V ⟨u20, u21, u22, u23, N2, D2, rfl, r2, bb⟩
   replace HB := bx HB bb
   replace t1 := t1.to bb
   replace t2 := t2.to bb
   replace r1 := r1.to bb
   refine hK.out _ _ HB ?_
   exact dn (S212 _ _ _ _ _ _ _ _ _ _ _ _ _ _ _ HB r1 r2 t1 b1 t2 b2 ne)
  have S11 : ∀ (V : World) (u10 u11 u12 u13 : Value) (N1 D1 : Int) (g1 : Nat), Below W0.heap.size W0 V -> Up V u10 u11 u12 u13 r k N1 D1 -> Four V g1 (.bool false) (.slice none 0 0) (.bool false) (.slice none 0 0) -> W0.heap.size <= g1 -> G 4 #[true, true, true, false, true, false, false, false] ⟨#[.agg #[a1, a2, a3, a4], .agg #[b1, b2, b3, b4], .pointer (some ⟨w.heap.size, 0, none⟩), .pointer (some ⟨w.heap.size + 1, 0, none⟩), .int .i64 0, .pointer (some ⟨g1, 0, none⟩), undef, .agg #[a1, a2, a3, a4], .agg #[u10, u11, u12, u13], .agg #[b1, b2, b3, b4], undef, undef, undef, undef, undef, undef, undef, undef], []⟩ V := by
   intro V u10 u11 u12 u13 N1 D1 g1 HB r1 t1 b1 
   refine up ?_
   refine wpAnyH_ready (rs := [3, 5]) (by kernel_rfl) (by simp) (ready_cons rfl (by rfl) (fun K hK => ?_) (ready_cons rfl (by rfl) (fun K hK => ?_) AllReadyH.nil))
   ·go_simp
    refine (HU2 _ HB).mono ?_
    rintro e V ⟨u20, u21, u22, u23, N2, D2, rfl, r2, bb⟩
    replace HB := bx HB bb
    replace t1 := t1.to bb
    replace r1 := r1.to bb
    refine hK.out _ _ HB ?_
    exact dn (S21 _ _ _ _ _ _ _ _ _ _ _ _ _ _ HB r1 r2 t1 b1)
   ·refine wp_alloc_four (fun g2 V t2 bb hg => ?_)
    have b2 := Nat.le_trans HB.size hg
    replace HB := bx HB bb
    have ne : g1 ≠ g2 := Nat.ne_of_lt (Nat.lt_of_lt_of_le t1.lt hg)
    replace t1 := t1.to bb
    replace r1 := r1.to bb
    refine hK.out _ _ HB ?_
    exact dn (S112 _ _ _ _ _ _ _ _ _ HB r1 t1 b1 t2 b2 ne)
  have S12 : ∀ (V : World) (u10 u11 u12 u13 : Value) (N1 D1 : Int) (g2 : Nat), Below W0.heap.size W0 V -> Up V u10 u11 u12 u13 r k N1 D1 -> Four V g2 (.bool false) (.slice none 0 0) (.bool false) (.slice none 0 0) -> W0.heap.size <= g2 -> G 4 #[true, true, true, false, false, true, false, false] ⟨#[.agg #[a1, a2, a3, a4], .agg #[b1, b2, b3, b4], .pointer (some ⟨w.heap.size, 0, none⟩), .pointer (some ⟨w.heap.size + 1, 0, none⟩), .int .i64 0, undef, .pointer (some ⟨g2, 0, none⟩), .agg #[a1, a2, a3, a4], .agg #[u10, u11, u12, u13], .agg #[b1, b2, b3, b4], undef, undef, undef, undef, undef, undef, undef, undef], []⟩ V := by
   intro V u10 u11 u12 u13 N1 D1 g2 HB r1 t2 b2 
   refine up ?_
   refine wpAnyH_ready (rs := [3, 4]) (by kernel_rfl) (by simp) (ready_cons rfl (by rfl) (fun K hK => ?_) (ready_cons rfl (by rfl) (fun K hK => ?_) AllReadyH.nil))
   ·go_simp
    refine (HU2 _ HB).mono ?_
    rintro e V ⟨u20, u21, u22, u23, N2, D2, rfl, r2, bb⟩
    replace HB := bx HB bb
    replace t2 := t2.to bb
    replace r1 := r1.to bb
    refine hK.out _ _ HB ?_
    exact dn (S22 _ _ _ _ _ _ _ _ _ _ _ _ _ _ HB r1 r2 t2 b2)
   ·refine wp_alloc_four (fun g1 V t1 bb hg => ?_)
    have b1 := Nat.le_trans HB.size hg
    replace HB := bx HB bb
    have ne : g1 ≠ g2 := Nat.ne_of_gt (Nat.lt_of_lt_of_le t2.lt hg)
    replace t2 := t2.to bb
    replace r1 := r1.to bb
    refine hK.out _ _ HB ?_
    exact dn (S112 _ _ _ _ _ _ _ _ _ HB r1 t1 b1 t2 b2 ne)
  have S1 : ∀ (V : World) (u10 u11 u12 u13 : Value) (N1 D1 : Int), Below W0.heap.size W0 V -> Up V u10 u11 u12 u13 r k N1 D1 -> G 5 #[true, true, true, false, false, false, false, false] ⟨#[.agg #[a1, a2, a3, a4], .agg #[b1, b2, b3, b4], .pointer (some ⟨w.heap.size, 0, none⟩), .pointer (some ⟨w.heap.size + 1, 0, none⟩), .int .i64 0, undef, undef, .agg #[a1, a2, a3, a4], .agg #[u10, u11, u12, u13], .agg #[b1, b2, b3, b4], undef, undef, undef, undef, undef, undef, undef, undef], []⟩ V := by
   intro V u10 u11 u12 u13 N1 D1 HB r1 
   refine up ?_
   refine wpAnyH_ready (rs := [3, 4, 5]) (by kernel_rfl) (by simp) (ready_cons rfl (by rfl) (fun K hK => ?_) (ready_cons rfl (by rfl) (fun K hK => ?_) (ready_cons rfl (by rfl) (fun K hK => ?_) AllReadyH.nil)))
   ·go_simp
    refine (HU2 _ HB).mono ?_
    rintro e V ⟨u20, u21, u22, u23, N2, D2, rfl, r2, bb⟩
    replace HB := bx HB bb
    replace r1 := r1.to bb
    refine hK.out _ _ HB ?_
    exact dn (S2 _ _ _ _ _ _ _ _ _ _ _ _ _ HB r1 r2)
   ·refine wp_alloc_four (fun g1 V t1 bb hg => ?_)
    have b1 := Nat.le_trans HB.size hg
    replace HB := bx HB bb
    replace r1 := r1.to bb
    refine hK.out _ _ HB ?_
    exact dn (S11 _ _ _ _ _ _ _ _ HB r1 t1 b1)
   ·refine wp_alloc_four (fun g2 V t2 bb hg => ?_)
    have b2 := Nat.le_trans HB.size hg
    replace HB := bx HB bb
    replace r1 := r1.to bb
    refine hK.out _ _ HB ?_
    exact dn (S12 _ _ _ _ _ _ _ _ HB r1 t2 b2)
  have S012 : ∀ (V : World) (g1 : Nat) (g2 : Nat), Below W0.heap.size W0 V -> Four V g1 (.bool false) (.slice none 0 0) (.bool false) (.slice none 0 0) -> W0.heap.size <= g1 -> Four V g2 (.bool false) (.slice none 0 0) (.bool false) (.slice none 0 0) -> W0.heap.size <= g2 -> g1 ≠ g2 -> G 4 #[true, false, true, false, true, true, false, false] ⟨#[.agg #[a1, a2, a3, a4], .agg #[b1, b2, b3, b4], .pointer (some ⟨w.heap.size, 0, none⟩), .pointer (some ⟨w.heap.size + 1, 0, none⟩), .int .i64 0, .pointer (some ⟨g1, 0, none⟩), .pointer (some ⟨g2, 0, none⟩), .agg #[a1, a2, a3, a4], undef, .agg #[b1, b2, b3, b4], undef, undef, undef, undef, undef, undef, undef, undef], []⟩ V := by
   intro V g1 g2 HB t1 b1 t2 b2 ne
   refine up ?_
   refine rdy1 (i := 1) (by kernel_rfl) rfl (by rfl) (fun K hK => ?_)
   go_simp
   refine (HU1 _ HB).mono ?_
   rintro e V ⟨u10, u11, u12, u13, N1, D1, rfl, r1, bb⟩
   replace HB := bx HB bb
   replace t1 := t1.to bb
   replace t2 := t2.to bb
   refine hK.out _ _ HB ?_
   exact dn (S112 _ _ _ _ _ _ _ _ _ HB r1 t1 b1 t2 b2 ne)
  have S01 : ∀ (V : World) (g1 : Nat), Below W0.heap.size W0 V -> Four V g1 (.bool false) (.slice none 0 0) (.bool false) (.slice none 0 0) -> W0.heap.size <= g1 -> G 5 #[true, false, true, false, true, false, false, false] ⟨#[.agg #[a1, a2, a3, a4], .agg #[b1, b2, b3, b4], .pointer (some ⟨w.heap.size, 0, none⟩), .pointer (some ⟨w.heap.size + 1, 0, none⟩), .int .i64 0, .pointer (some ⟨g1, 0, none⟩), undef, .agg #[a1, a2, a3, a4], undef, .agg #[b1, b2, b3, b4], undef, undef, undef, undef, undef, undef, undef, undef], []⟩ V := by
   intro V g1 HB t1 b1 
   refine up ?_
   refine wpAnyH_ready (rs := [1, 5]) (by kernel_rfl) (by simp) (ready_cons rfl (by rfl) (fun K hK => ?_) (ready_cons rfl (by rfl) (fun K hK => ?_) AllReadyH.nil))
   ·go_simp
    refine (HU1 _ HB).mono ?_
    rintro e V ⟨u10, u11, u12, u13, N1, D1, rfl, r1, bb⟩
    replace HB := bx HB bb
    replace t1 := t1.to bb
    refine hK.out _ _ HB ?_
    exact dn (S11 _ _ _ _ _ _ _ _ HB r1 t1 b1)
   ·refine wp_alloc_four (fun g2 V t2 bb hg => ?_)
    have b2 := Nat.le_trans HB.size hg
    replace HB := bx HB bb
    have ne : g1 ≠ g2 := Nat.ne_of_lt (Nat.lt_of_lt_of_le t1.lt hg)
    replace t1 := t1.to bb
    refine hK.out _ _ HB ?_
    exact dn (S012 _ _ _ HB t1 b1 t2 b2 ne)
  have S02 : ∀ (V : World) (g2 : Nat), Below W0.heap.size W0 V -> Four V g2 (.bool false) (.slice none 0 0) (.bool false) (.slice none 0 0) -> W0.heap.size <= g2 -> G 5 #[true, false, true, false, false, true, false, false] ⟨#[.agg #[a1, a2, a3, a4], .agg #[b1, b2, b3, b4], .pointer (some ⟨w.heap.size, 0, none⟩), .pointer (some ⟨w.heap.size + 1, 0, none⟩), .int .i64 0, undef, .pointer (some ⟨g2, 0, none⟩), .agg #[a1, a2, a3, a4], undef, .agg #[b1, b2, b3, b4], undef, undef, undef, undef, undef, undef, undef, undef], []⟩ V := by
   intro V g2 HB t2 b2 
   refine up ?_
   refine wpAnyH_ready (rs := [1, 4]) (by kernel_rfl) (by simp) (ready_cons rfl (by rfl) (fun K hK => ?_) (ready_cons rfl (by rfl) (fun K hK => ?_) AllReadyH.nil))
   ·go_simp
    refine (HU1 _ HB).mono ?_
    rintro e V ⟨u10, u11, u12, u13, N1, D1, rfl, r1, bb⟩
    replace HB := bx HB bb
    replace t2 := t2.to bb
    refine hK.out _ _ HB ?_
    exact dn (S12 _ _ _ _ _ _ _ _ HB r1 t2 b2)
   ·refine wp_alloc_four (fun g1 V t1 bb hg => ?_)
    have b1 := Nat.le_trans HB.size hg
    replace HB := bx HB bb
    have ne : g1 ≠ g2 := Nat.ne_of_gt (Nat.lt_of_lt_of_le t2.lt hg)
    replace t2 := t2.to bb
    refine hK.out _ _ HB ?_
    exact dn (S012 _ _ _ HB t1 b1 t2 b2 ne)
  have S0 : ∀ (V : World), Below W0.heap.size W0 V -> G 6 #[true, false, true, false, false, false, false, false] ⟨#[.agg #[a1, a2, a3, a4], .agg #[b1, b2, b3, b4], .pointer (some ⟨w.heap.size, 0, none⟩), .pointer (some ⟨w.heap.size + 1, 0, none⟩), .int .i64 0, undef, undef, .agg #[a1, a2, a3, a4], undef, .agg #[b1, b2, b3, b4], undef, undef, undef, undef, undef, undef, undef, undef], []⟩ V := by
   intro V HB 
   refine up ?_
   refine wpAnyH_ready (rs := [1, 4, 5]) (by kernel_rfl) (by simp) (ready_cons rfl (by rfl) (fun K hK => ?_) (ready_cons rfl (by rfl) (fun K hK => ?_) (ready_cons rfl (by rfl) (fun K hK => ?_) AllReadyH.nil)))
   ·go_simp
    refine (HU1 _ HB).mono ?_
    rintro e V ⟨u10, u11, u12, u13, N1, D1, rfl, r1, bb⟩
    replace HB := bx HB bb
    refine hK.out _ _ HB ?_
    exact dn (S1 _ _ _ _ _ _ _ HB r1)
   ·refine wp_alloc_four (fun g1 V t1 bb hg => ?_)
    have b1 := Nat.le_trans HB.size hg
    replace HB := bx HB bb
    refine hK.out _ _ HB ?_
    exact dn (S01 _ _ HB t1 b1)
   ·refine wp_alloc_four (fun g2 V t2 bb hg => ?_)
    have b2 := Nat.le_trans HB.size hg
    replace HB := bx HB bb
    refine hK.out _ _ HB ?_
    exact dn (S02 _ _ HB t2 b2)
  exact S0 _ HB
 rintro v' W2 ⟨x1, x2, g1, g2, u10, u11, u12, u13, u20, u21, u22, u23, y1, y2, N1, D1, N2, D2, rfl, t1, t2, r1, r2, hge, HB⟩
 simp only [Act.put, List.setIfInBounds_toArray, List.set_cons_zero, List.set_cons_succ]
 have s1 : Sg (N1 * D2) := (r1.sn.mul r2.sd).sg HKL.out
 have s2 : Sg (N2 * D1) := (r2.sn.mul r1.sd).sg (by have := HKL.out; omega)
 have hc : Hid (cmpZ (N1 * D2) (N2 * D1) = v) := by show _ = _; rw [cmp_up r1.pos r2.pos, r1.eq, r2.eq]; exact HV.out
 replace HB0 := hx HB0 HB
 clear HB HU1 HU2 tA tB hge
 go_wp2_with fail
 refine wp_region_plan (S := fun w' => Below W2.heap.size W2 w') [(0, true), (1, true), (3, true), (4, true), (2, false), (5, false), (6, false), (7, true)] (by kernel_rfl) (by kernel_rfl) (Below.refl _ _).drew ?_
 have HB := (Below.refl W2.heap.size W2).drew
 refine plan_take rfl (by rfl) (fun w' hS => load_four (by rfl) (t1.to hS)) ?_; simp only [Act.put, List.setIfInBounds_toArray, List.set_cons_zero, List.set_cons_succ]
 refine plan_take rfl (by rfl) (fun w' hS => load_four (by rfl) (t2.to hS)) ?_; simp only [Act.put, List.setIfInBounds_toArray, List.set_cons_zero, List.set_cons_succ]
 refine plan_take rfl (by rfl) (fun w' hS => load_four (by rfl) (t2.to hS)) ?_; simp only [Act.put, List.setIfInBounds_toArray, List.set_cons_zero, List.set_cons_succ]
 refine plan_take rfl (by rfl) (fun w' hS => load_four (by rfl) (t1.to hS)) ?_; simp only [Act.put, List.setIfInBounds_toArray, List.set_cons_zero, List.set_cons_succ]
 refine plan_call rfl (by rfl) (fun K hK => ?_)
 go_simp
 refine (cross_z (r1.to HB).n (r2.to HB).d).mono ?_
 rintro e V3 ⟨x3, y3, rfl, z3, bb⟩
 replace HB := bx HB bb
 refine hK.out _ _ HB ?_
 clear hK K bb
 refine plan_call rfl (by rfl) (fun K hK => ?_)
 go_simp
 refine (cross_z (r2.to HB).n (r1.to HB).d).mono ?_
 rintro e V4 ⟨x4, y4, rfl, z4, bb⟩
 replace HB := bx HB bb
 replace z3 := z3.to bb
 refine hK.out _ _ HB ?_
 clear hK K bb
 refine plan_call rfl (by rfl) (fun K hK => ?_)
 go_simp
 refine (cmp_z (z3.zs s1).zi (z4.zs s2).zi).mono ?_
 rintro e V5 ⟨rfl, bb⟩
 rw [hc.out]
 replace HB := bx HB bb
 refine hK.out _ _ HB ?_
 clear hK K bb z3 z4
 refine plan_take (v := ?_) rfl (by rfl) ?_ ?_; rotate_left; (focus (intro w' _; go_simp; try with_reducible rfl)); simp only [Act.put, List.setIfInBounds_toArray, List.set_cons_zero, List.set_cons_succ]
 refine plan_done ?_
 have HE := hx HB0 HB
 clear HB r1 r2 t1 t2
 go_wp2
 go_ret
 exact ⟨rfl, HE.out⟩
set_option maxRecDepth 100000 in
theorem equal_q {w : World} {a1 a2 a3 a4 b1 b2 b3 b4 : Value} {r s : Rat} {k l : Nat} (h1 : Qi w a1 a2 a3 a4 r k) (h2 : Qi w b1 b2 b3 b4 s l) (hk : 0 < k) (hl : 0 < l) (hkl : k + l <= 10000) {v : Bool} (hv : decide (r = s) = v) : Calls Tryz.prog 29 #[.agg #[a1, a2, a3, a4], .agg #[b1, b2, b3, b4]] w fun e w' => e = .returned (.bool v) /\ Below w.heap.size w w' := by
 obtain ⟨W0, hW0⟩ : ∃ W0, W0 = (w.alloc (.cells #[a1, a2, a3, a4] 26)).alloc (.cells #[b1, b2, b3, b4] 26) := ⟨_, rfl⟩
 have hbw : Below w.heap.size w W0 := by rw [hW0]; exact ((Below.refl _ _).alloc (Nat.le_refl _) _).alloc (by simp) _
 have tA : Four W0 w.heap.size a1 a2 a3 a4 := by rw [hW0]; exact (Four.new w _ _ _ _ _).alloc _
 have tB : Four W0 (w.heap.size + 1) b1 b2 b3 b4 := by
  have h := Four.new (w.alloc (.cells #[a1, a2, a3, a4] 26)) b1 b2 b3 b4 26
  rw [World.size_alloc] at h
  rw [hW0]; exact h
 have HW0 := Hd hW0
 obtain ⟨c, ec⟩ : ∃ c, cmpQ r s = c := ⟨_, rfl⟩
 have HC := Hd (cmp_q (h1.to hbw) (h2.to hbw) hk hl hkl ec)
 have HV : Hid ((c == 0) = v) := by
  show _ = _
  rw [<- hv, <- ec, Bool.eq_iff_iff, beq_iff_eq, decide_eq_true_iff]
  exact cmpQ_zero
 have HB := Hd hbw
 clear h1 h2 hk hl hkl hW0 hbw ec hv
 go_enter Tryz.func29, Tryz.ntmps29
 go_wp2_with fail
 rw [<- HW0.out]
 have k0 := tA.c0
 have k1 := tA.c1
 have k2 := tA.c2
 have k3 := tA.c3
 have l0 := tB.c0
 have l1 := tB.c1
 have l2 := tB.c2
 have l3 := tB.c3
 go_wp2_with fail
 refine HC.out.mono ?_
 rintro e V1 ⟨rfl, bb⟩
 replace HB := hx HB bb
 clear k0 k1 k2 k3 l0 l1 l2 l3 bb tA tB HC HW0
 go_wp2
 go_ret
 refine ⟨?_, HB.out⟩
 rw [<- HV.out]
 rfl
theorem canonical_q {w : World} {a1 a2 a3 a4 : Value} {r : Rat} {k : Nat} (h1 : Qi w a1 a2 a3 a4 r k) (hk : k <= 10000) : Calls Tryz.prog 34 #[.agg #[a1, a2, a3, a4]] w (QR w r) := by
 obtain ⟨p, q, z1, z2, rfl, s1, s2⟩ := h1
 exact canonical_z z1 z2 (s1.sg hk) (s2.sg hk)
theorem cmpQ_min {r s : Rat} : cmpQ r s < 0 ↔ r < s := by
 unfold cmpQ
 constructor
 ·intro h
  by_cases h1 : r < s
  ·exact h1
  ·by_cases h2 : s < r <;> simp [h1, h2] at h
 ·intro h; simp [h]
theorem cmpQ_max {r s : Rat} : 0 < cmpQ r s ↔ s < r := by
 unfold cmpQ
 constructor
 ·intro h
  by_cases h1 : r < s
  ·simp [h1] at h
  ·by_cases h2 : s < r
   ·exact h2
   ·simp [h1, h2] at h
 ·intro h
  have h1 : ¬ r < s := Rat.not_lt.2 (Rat.le_of_lt h)
  simp [h, h1]
set_option maxRecDepth 100000 in
theorem min_a {w : World} {a1 a2 a3 a4 b1 b2 b3 b4 : Value} {r s : Rat} {k l : Nat} (h1 : Qi w a1 a2 a3 a4 r k) (h2 : Qi w b1 b2 b3 b4 s l) (hk : 0 < k) (hl : 0 < l) (hkl : k + l <= 10000) (hc : r < s) : Calls Tryz.prog 21 #[.agg #[a1, a2, a3, a4], .agg #[b1, b2, b3, b4]] w (QR w r) := by
 obtain ⟨W0, hW0⟩ : ∃ W0, W0 = ((w.alloc (.cells #[a1, a2, a3, a4] 26)).alloc (.cells #[b1, b2, b3, b4] 26)).alloc (.cells #[.bool false, .slice none 0 0, .bool false, .slice none 0 0] 26) := ⟨_, rfl⟩
 have hbw : Below w.heap.size w W0 := by rw [hW0]; exact (((Below.refl _ _).alloc (Nat.le_refl _) _).alloc (by simp) _).alloc (by simp; omega) _
 have tA : Four W0 w.heap.size a1 a2 a3 a4 := by rw [hW0]; exact ((Four.new w _ _ _ _ _).alloc _).alloc _
 have tB : Four W0 (w.heap.size + 1) b1 b2 b3 b4 := by
  have h := Four.new (w.alloc (.cells #[a1, a2, a3, a4] 26)) b1 b2 b3 b4 26
  rw [World.size_alloc] at h
  rw [hW0]; exact h.alloc _
 have tR : Four W0 (w.heap.size + 1 + 1) (.bool false) (.slice none 0 0) (.bool false) (.slice none 0 0) := by
  have h := Four.new ((w.alloc (.cells #[a1, a2, a3, a4] 26)).alloc (.cells #[b1, b2, b3, b4] 26)) (.bool false) (.slice none 0 0) (.bool false) (.slice none 0 0) 26
  rw [World.size_alloc, World.size_alloc] at h
  rw [hW0]; exact h
 have HW0 := Hd hW0
 obtain ⟨c, ec⟩ : ∃ c, cmpQ r s = c := ⟨_, rfl⟩
 have HC := Hd (cmp_q (h1.to hbw) (h2.to hbw) hk hl hkl ec)
 have HQ : Hid (∀ V, Below W0.heap.size W0 V -> Calls Tryz.prog 34 #[.agg #[a1, a2, a3, a4]] V (QR V r)) := fun V hb => canonical_q ((h1.to hbw).to hb) (by omega)
 have hlt : c < 0 := by rw [<- ec]; exact (cmpQ_min).2 hc
 have HB := Hd hbw
 clear h1 h2 hk hl hkl hW0 hbw ec hc
 go_enter Tryz.func21, Tryz.ntmps21
 go_wp2_with fail
 rw [<- HW0.out]
 have k0 := tA.c0
 have k1 := tA.c1
 have k2 := tA.c2
 have k3 := tA.c3
 have l0 := tB.c0
 have l1 := tB.c1
 have l2 := tB.c2
 have l3 := tB.c3
 go_wp2_with fail
 refine HC.out.mono ?_
 rintro e V1 ⟨rfl, bb⟩
 replace HQ := Hd (HQ.out V1 bb)
 replace tA := tA.to bb
 replace tB := tB.to bb
 replace tR := tR.to bb
 replace HB := hx HB bb
 clear k0 k1 k2 k3 l0 l1 l2 l3 bb HC HW0
 have k0 := tA.c0
 have k1 := tA.c1
 have k2 := tA.c2
 have k3 := tA.c3
 have l0 := tB.c0
 have l1 := tB.c1
 have l2 := tB.c2
 have l3 := tB.c3
 go_wp2_with fail
 refine HQ.out.mono ?_
 rintro e V2 ⟨x1, x2, x3, x4, rfl, rq, bb⟩
 replace tR := tR.to bb
 replace HB := hx HB bb
 clear k0 k1 k2 k3 l0 l1 l2 l3 bb tA tB HQ
 have RQ := Hd rq
 obtain ⟨V9, eV, u, kp⟩ := pack4 tR Fq.nil x1 x2 x3 x4
 obtain ⟨⟨n1, A1, l1, m1, rfl, rfl⟩, ⟨n2, A2, l2, m2, rfl, rfl⟩⟩ := rq.fq
 obtain ⟨v0, v1, v2, v3, v4, v5, v6, v7, _⟩ := tR
 have EV := Hd eV
 have KP := Hd kp
 have U := Hd u
 clear eV kp u rq
 go_wp2
 rw [EV.out]
 refine bodyPost_ret (v := .agg #[.bool n1, .slice A1 l1 m1, .bool n2, .slice A2 l2 m2]) (by simp [results, Tryz.f21, go_sem, U.out.c0, U.out.c1, U.out.c2, U.out.c3]) rfl ?_
 exact ⟨_, _, _, _, rfl, RQ.out.k4 KP.out, KP.out.bel _ _ HB.out (by omega)⟩
set_option maxRecDepth 100000 in
theorem min_b {w : World} {a1 a2 a3 a4 b1 b2 b3 b4 : Value} {r s : Rat} {k l : Nat} (h1 : Qi w a1 a2 a3 a4 r k) (h2 : Qi w b1 b2 b3 b4 s l) (hk : 0 < k) (hl : 0 < l) (hkl : k + l <= 10000) (hc : ¬ r < s) : Calls Tryz.prog 21 #[.agg #[a1, a2, a3, a4], .agg #[b1, b2, b3, b4]] w (QR w s) := by
 obtain ⟨W0, hW0⟩ : ∃ W0, W0 = ((w.alloc (.cells #[a1, a2, a3, a4] 26)).alloc (.cells #[b1, b2, b3, b4] 26)).alloc (.cells #[.bool false, .slice none 0 0, .bool false, .slice none 0 0] 26) := ⟨_, rfl⟩
 have hbw : Below w.heap.size w W0 := by rw [hW0]; exact (((Below.refl _ _).alloc (Nat.le_refl _) _).alloc (by simp) _).alloc (by simp; omega) _
 have tA : Four W0 w.heap.size a1 a2 a3 a4 := by rw [hW0]; exact ((Four.new w _ _ _ _ _).alloc _).alloc _
 have tB : Four W0 (w.heap.size + 1) b1 b2 b3 b4 := by
  have h := Four.new (w.alloc (.cells #[a1, a2, a3, a4] 26)) b1 b2 b3 b4 26
  rw [World.size_alloc] at h
  rw [hW0]; exact h.alloc _
 have tR : Four W0 (w.heap.size + 1 + 1) (.bool false) (.slice none 0 0) (.bool false) (.slice none 0 0) := by
  have h := Four.new ((w.alloc (.cells #[a1, a2, a3, a4] 26)).alloc (.cells #[b1, b2, b3, b4] 26)) (.bool false) (.slice none 0 0) (.bool false) (.slice none 0 0) 26
  rw [World.size_alloc, World.size_alloc] at h
  rw [hW0]; exact h
 have HW0 := Hd hW0
 obtain ⟨c, ec⟩ : ∃ c, cmpQ r s = c := ⟨_, rfl⟩
 have HC := Hd (cmp_q (h1.to hbw) (h2.to hbw) hk hl hkl ec)
 have HQ : Hid (∀ V, Below W0.heap.size W0 V -> Calls Tryz.prog 34 #[.agg #[b1, b2, b3, b4]] V (QR V s)) := fun V hb => canonical_q ((h2.to hbw).to hb) (by omega)
 have hlt : ¬ c < 0 := by rw [<- ec]; exact fun h => hc ((cmpQ_min).1 h)
 have HB := Hd hbw
 clear h1 h2 hk hl hkl hW0 hbw ec hc
 go_enter Tryz.func21, Tryz.ntmps21
 go_wp2_with fail
 rw [<- HW0.out]
 have k0 := tA.c0
 have k1 := tA.c1
 have k2 := tA.c2
 have k3 := tA.c3
 have l0 := tB.c0
 have l1 := tB.c1
 have l2 := tB.c2
 have l3 := tB.c3
 go_wp2_with fail
 refine HC.out.mono ?_
 rintro e V1 ⟨rfl, bb⟩
 replace HQ := Hd (HQ.out V1 bb)
 replace tA := tA.to bb
 replace tB := tB.to bb
 replace tR := tR.to bb
 replace HB := hx HB bb
 clear k0 k1 k2 k3 l0 l1 l2 l3 bb HC HW0
 have k0 := tA.c0
 have k1 := tA.c1
 have k2 := tA.c2
 have k3 := tA.c3
 have l0 := tB.c0
 have l1 := tB.c1
 have l2 := tB.c2
 have l3 := tB.c3
 go_wp2_with fail
 refine HQ.out.mono ?_
 rintro e V2 ⟨x1, x2, x3, x4, rfl, rq, bb⟩
 replace tR := tR.to bb
 replace HB := hx HB bb
 clear k0 k1 k2 k3 l0 l1 l2 l3 bb tA tB HQ
 have RQ := Hd rq
 obtain ⟨V9, eV, u, kp⟩ := pack4 tR Fq.nil x1 x2 x3 x4
 obtain ⟨⟨n1, A1, l1, m1, rfl, rfl⟩, ⟨n2, A2, l2, m2, rfl, rfl⟩⟩ := rq.fq
 obtain ⟨v0, v1, v2, v3, v4, v5, v6, v7, _⟩ := tR
 have EV := Hd eV
 have KP := Hd kp
 have U := Hd u
 clear eV kp u rq
 go_wp2
 rw [EV.out]
 refine bodyPost_ret (v := .agg #[.bool n1, .slice A1 l1 m1, .bool n2, .slice A2 l2 m2]) (by simp [results, Tryz.f21, go_sem, U.out.c0, U.out.c1, U.out.c2, U.out.c3]) rfl ?_
 exact ⟨_, _, _, _, rfl, RQ.out.k4 KP.out, KP.out.bel _ _ HB.out (by omega)⟩
set_option maxRecDepth 100000 in
theorem max_a {w : World} {a1 a2 a3 a4 b1 b2 b3 b4 : Value} {r s : Rat} {k l : Nat} (h1 : Qi w a1 a2 a3 a4 r k) (h2 : Qi w b1 b2 b3 b4 s l) (hk : 0 < k) (hl : 0 < l) (hkl : k + l <= 10000) (hc : s < r) : Calls Tryz.prog 23 #[.agg #[a1, a2, a3, a4], .agg #[b1, b2, b3, b4]] w (QR w r) := by
 obtain ⟨W0, hW0⟩ : ∃ W0, W0 = ((w.alloc (.cells #[a1, a2, a3, a4] 26)).alloc (.cells #[b1, b2, b3, b4] 26)).alloc (.cells #[.bool false, .slice none 0 0, .bool false, .slice none 0 0] 26) := ⟨_, rfl⟩
 have hbw : Below w.heap.size w W0 := by rw [hW0]; exact (((Below.refl _ _).alloc (Nat.le_refl _) _).alloc (by simp) _).alloc (by simp; omega) _
 have tA : Four W0 w.heap.size a1 a2 a3 a4 := by rw [hW0]; exact ((Four.new w _ _ _ _ _).alloc _).alloc _
 have tB : Four W0 (w.heap.size + 1) b1 b2 b3 b4 := by
  have h := Four.new (w.alloc (.cells #[a1, a2, a3, a4] 26)) b1 b2 b3 b4 26
  rw [World.size_alloc] at h
  rw [hW0]; exact h.alloc _
 have tR : Four W0 (w.heap.size + 1 + 1) (.bool false) (.slice none 0 0) (.bool false) (.slice none 0 0) := by
  have h := Four.new ((w.alloc (.cells #[a1, a2, a3, a4] 26)).alloc (.cells #[b1, b2, b3, b4] 26)) (.bool false) (.slice none 0 0) (.bool false) (.slice none 0 0) 26
  rw [World.size_alloc, World.size_alloc] at h
  rw [hW0]; exact h
 have HW0 := Hd hW0
 obtain ⟨c, ec⟩ : ∃ c, cmpQ r s = c := ⟨_, rfl⟩
 have HC := Hd (cmp_q (h1.to hbw) (h2.to hbw) hk hl hkl ec)
 have HQ : Hid (∀ V, Below W0.heap.size W0 V -> Calls Tryz.prog 34 #[.agg #[a1, a2, a3, a4]] V (QR V r)) := fun V hb => canonical_q ((h1.to hbw).to hb) (by omega)
 have hlt : 0 < c := by rw [<- ec]; exact (cmpQ_max).2 hc
 have HB := Hd hbw
 clear h1 h2 hk hl hkl hW0 hbw ec hc
 go_enter Tryz.func23, Tryz.ntmps23
 go_wp2_with fail
 rw [<- HW0.out]
 have k0 := tA.c0
 have k1 := tA.c1
 have k2 := tA.c2
 have k3 := tA.c3
 have l0 := tB.c0
 have l1 := tB.c1
 have l2 := tB.c2
 have l3 := tB.c3
 go_wp2_with fail
 refine HC.out.mono ?_
 rintro e V1 ⟨rfl, bb⟩
 replace HQ := Hd (HQ.out V1 bb)
 replace tA := tA.to bb
 replace tB := tB.to bb
 replace tR := tR.to bb
 replace HB := hx HB bb
 clear k0 k1 k2 k3 l0 l1 l2 l3 bb HC HW0
 have k0 := tA.c0
 have k1 := tA.c1
 have k2 := tA.c2
 have k3 := tA.c3
 have l0 := tB.c0
 have l1 := tB.c1
 have l2 := tB.c2
 have l3 := tB.c3
 go_wp2_with fail
 refine HQ.out.mono ?_
 rintro e V2 ⟨x1, x2, x3, x4, rfl, rq, bb⟩
 replace tR := tR.to bb
 replace HB := hx HB bb
 clear k0 k1 k2 k3 l0 l1 l2 l3 bb tA tB HQ
 have RQ := Hd rq
 obtain ⟨V9, eV, u, kp⟩ := pack4 tR Fq.nil x1 x2 x3 x4
 obtain ⟨⟨n1, A1, l1, m1, rfl, rfl⟩, ⟨n2, A2, l2, m2, rfl, rfl⟩⟩ := rq.fq
 obtain ⟨v0, v1, v2, v3, v4, v5, v6, v7, _⟩ := tR
 have EV := Hd eV
 have KP := Hd kp
 have U := Hd u
 clear eV kp u rq
 go_wp2
 rw [EV.out]
 refine bodyPost_ret (v := .agg #[.bool n1, .slice A1 l1 m1, .bool n2, .slice A2 l2 m2]) (by simp [results, Tryz.f23, go_sem, U.out.c0, U.out.c1, U.out.c2, U.out.c3]) rfl ?_
 exact ⟨_, _, _, _, rfl, RQ.out.k4 KP.out, KP.out.bel _ _ HB.out (by omega)⟩
set_option maxRecDepth 100000 in
theorem max_b {w : World} {a1 a2 a3 a4 b1 b2 b3 b4 : Value} {r s : Rat} {k l : Nat} (h1 : Qi w a1 a2 a3 a4 r k) (h2 : Qi w b1 b2 b3 b4 s l) (hk : 0 < k) (hl : 0 < l) (hkl : k + l <= 10000) (hc : ¬ s < r) : Calls Tryz.prog 23 #[.agg #[a1, a2, a3, a4], .agg #[b1, b2, b3, b4]] w (QR w s) := by
 obtain ⟨W0, hW0⟩ : ∃ W0, W0 = ((w.alloc (.cells #[a1, a2, a3, a4] 26)).alloc (.cells #[b1, b2, b3, b4] 26)).alloc (.cells #[.bool false, .slice none 0 0, .bool false, .slice none 0 0] 26) := ⟨_, rfl⟩
 have hbw : Below w.heap.size w W0 := by rw [hW0]; exact (((Below.refl _ _).alloc (Nat.le_refl _) _).alloc (by simp) _).alloc (by simp; omega) _
 have tA : Four W0 w.heap.size a1 a2 a3 a4 := by rw [hW0]; exact ((Four.new w _ _ _ _ _).alloc _).alloc _
 have tB : Four W0 (w.heap.size + 1) b1 b2 b3 b4 := by
  have h := Four.new (w.alloc (.cells #[a1, a2, a3, a4] 26)) b1 b2 b3 b4 26
  rw [World.size_alloc] at h
  rw [hW0]; exact h.alloc _
 have tR : Four W0 (w.heap.size + 1 + 1) (.bool false) (.slice none 0 0) (.bool false) (.slice none 0 0) := by
  have h := Four.new ((w.alloc (.cells #[a1, a2, a3, a4] 26)).alloc (.cells #[b1, b2, b3, b4] 26)) (.bool false) (.slice none 0 0) (.bool false) (.slice none 0 0) 26
  rw [World.size_alloc, World.size_alloc] at h
  rw [hW0]; exact h
 have HW0 := Hd hW0
 obtain ⟨c, ec⟩ : ∃ c, cmpQ r s = c := ⟨_, rfl⟩
 have HC := Hd (cmp_q (h1.to hbw) (h2.to hbw) hk hl hkl ec)
 have HQ : Hid (∀ V, Below W0.heap.size W0 V -> Calls Tryz.prog 34 #[.agg #[b1, b2, b3, b4]] V (QR V s)) := fun V hb => canonical_q ((h2.to hbw).to hb) (by omega)
 have hlt : ¬ 0 < c := by rw [<- ec]; exact fun h => hc ((cmpQ_max).1 h)
 have HB := Hd hbw
 clear h1 h2 hk hl hkl hW0 hbw ec hc
 go_enter Tryz.func23, Tryz.ntmps23
 go_wp2_with fail
 rw [<- HW0.out]
 have k0 := tA.c0
 have k1 := tA.c1
 have k2 := tA.c2
 have k3 := tA.c3
 have l0 := tB.c0
 have l1 := tB.c1
 have l2 := tB.c2
 have l3 := tB.c3
 go_wp2_with fail
 refine HC.out.mono ?_
 rintro e V1 ⟨rfl, bb⟩
 replace HQ := Hd (HQ.out V1 bb)
 replace tA := tA.to bb
 replace tB := tB.to bb
 replace tR := tR.to bb
 replace HB := hx HB bb
 clear k0 k1 k2 k3 l0 l1 l2 l3 bb HC HW0
 have k0 := tA.c0
 have k1 := tA.c1
 have k2 := tA.c2
 have k3 := tA.c3
 have l0 := tB.c0
 have l1 := tB.c1
 have l2 := tB.c2
 have l3 := tB.c3
 go_wp2_with fail
 refine HQ.out.mono ?_
 rintro e V2 ⟨x1, x2, x3, x4, rfl, rq, bb⟩
 replace tR := tR.to bb
 replace HB := hx HB bb
 clear k0 k1 k2 k3 l0 l1 l2 l3 bb tA tB HQ
 have RQ := Hd rq
 obtain ⟨V9, eV, u, kp⟩ := pack4 tR Fq.nil x1 x2 x3 x4
 obtain ⟨⟨n1, A1, l1, m1, rfl, rfl⟩, ⟨n2, A2, l2, m2, rfl, rfl⟩⟩ := rq.fq
 obtain ⟨v0, v1, v2, v3, v4, v5, v6, v7, _⟩ := tR
 have EV := Hd eV
 have KP := Hd kp
 have U := Hd u
 clear eV kp u rq
 go_wp2
 rw [EV.out]
 refine bodyPost_ret (v := .agg #[.bool n1, .slice A1 l1 m1, .bool n2, .slice A2 l2 m2]) (by simp [results, Tryz.f23, go_sem, U.out.c0, U.out.c1, U.out.c2, U.out.c3]) rfl ?_
 exact ⟨_, _, _, _, rfl, RQ.out.k4 KP.out, KP.out.bel _ _ HB.out (by omega)⟩
end Go.Proofs.YtbmnloelimmgiaaGreat

namespace Go.Proofs.YtbmnloelimmgiaaGreat
open Go.RowKit Go.Shelf
def decZ (z : Int) : ByteArray := decS (decide (z < 0)) z.natAbs
theorem format_zc {w : World} {x y : Value} {z : Int} (h : Zc w x y z) (hs : Sg z) : Calls Tryz.prog 77 #[.agg #[x, y]] w fun e w' => e = .returned (.string (decZ z)) /\ Below w.heap.size w w' := by
 obtain ⟨A, c, rfl, rfl, h3, h4, h5⟩ := h
 have h := format_any (decide (z < 0)) (⟨h3, Dg_dig b32_one _, h4, h5, Nat.le_trans (dig_length_le b32_one hs.sm) (by decide)⟩ : Arg w A c (dig b32 z.natAbs))
 rw [val_dig b32_one] at h
 exact h
theorem format_int {w : World} {x1 y1 x2 y2 : Value} {p q : Int} (h1 : Zl w x1 y1 p) (h2 : Zl w x2 y2 q) (sp : Sg p) (sq : Sg q) (sn : Sg (rv p q).num) (sd : Sg ((rv p q).den : Int)) (hd : (rv p q).den = 1) :
  Calls Tryz.prog 47 #[.agg #[x1, y1, x2, y2]] w fun e w' => e = .returned (.string (decZ (rv p q).num)) /\ Below w.heap.size w w' := by
 obtain ⟨W0, hW0⟩ : ∃ W0, W0 = w.alloc (.cells #[x1, y1, x2, y2] 26) := ⟨_, rfl⟩
 have hbw : Below w.heap.size w W0 := by rw [hW0]; exact (Below.refl _ _).alloc (Nat.le_refl _) _
 have tA : Four W0 w.heap.size x1 y1 x2 y2 := by rw [hW0]; exact Four.new w _ _ _ _ _
 have HW0 := Hd hW0
 have hA := h1.to hbw
 have hB := h2.to hbw
 have HB := Hd hbw
 have HC := Hd (canonical_z hA hB sp sq)
 obtain ⟨r, er⟩ : ∃ r, rv p q = r := ⟨_, rfl⟩
 rw [er] at HC sn sd hd
 rw [er]
 obtain ⟨s1, es1⟩ : ∃ s, Hid (decZ r.num = s) := ⟨_, rfl⟩
 rw [es1.out]
 have SN := Hd sn
 have SD := Hd sd
 have HD := Hd hd
 clear h1 h2 hW0 hbw sp sq hA hB er sn sd hd
 go_enter Tryz.func47, Tryz.ntmps47
 go_wp2_with fail
 rw [<- HW0.out]
 have k0 := tA.c0
 have k1 := tA.c1
 have k2 := tA.c2
 have k3 := tA.c3
 go_wp2_with fail
 refine HC.out.mono ?_
 rintro e V1 ⟨a1, b1, c1, d1, rfl, rq, bb⟩
 replace HB := hx HB bb
 clear k0 k1 k2 k3 bb tA HC
 have R1 := rq.1
 have R2 := rq.2
 clear rq
 obtain ⟨N, eN⟩ : ∃ N, Hid (r.num = N) := ⟨_, rfl⟩
 obtain ⟨D, eD⟩ : ∃ D : Int, Hid ((if r.den = 1 then 0 else (r.den : Int)) = D) := ⟨_, rfl⟩
 rw [eN.out] at R1 SN
 rw [eD.out] at R2
 have q1 := R1
 have q2 := R2
 obtain ⟨A1, m1, rfl, rfl, -⟩ := q1
 obtain ⟨A2, m2, rfl, rfl, -⟩ := q2
 rw [eN.out] at es1
 have HF1 := Hd fun (V : World) (h : Below V1.heap.size V1 V) => format_zc (R1.to h) SN.out
 rw [es1.out] at HF1
 have hD0 : D = 0 := by rw [<- eD.out, if_pos HD.out]
 have hl : (dig b32 D.natAbs).length = 0 := by rw [hD0]; rfl
 obtain ⟨l1, e1⟩ : ∃ l, (dig b32 N.natAbs).length = l := ⟨_, rfl⟩
 obtain ⟨l2, e2⟩ : ∃ l, (dig b32 D.natAbs).length = l := ⟨_, rfl⟩
 rw [e2] at hl
 rw [e1] at HF1 ⊢
 rw [e2]
 clear R1 R2 eN eD hD0 e1 e2 HD
 subst hl
 have bb := one4_new V1 (.cells #[.bool (decide (N < 0)), .slice A1 l1 m1, .bool (decide (D < 0)), .slice A2 0 m2] 26)
 have t3 := Four.new V1 (.bool (decide (N < 0))) (.slice A1 l1 m1) (.bool (decide (D < 0))) (.slice A2 0 m2) 26
 have k0 := t3.c0
 have k1 := t3.c1
 have k2 := t3.c2
 have k3 := t3.c3
 go_wp2_with fail
 refine (HF1.out _ bb).mono ?_
 rintro e V2 ⟨rfl, b2⟩
 have HE := Hd ((HB.out.trans (bb.mono HB.out.size)).trans (b2.mono (HB.out.trans (bb.mono HB.out.size)).size))
 clear k0 k1 k2 k3 t3 bb b2 HB
 go_wp2
 go_ret
 exact ⟨rfl, HE.out⟩
theorem format_frac {w : World} {x1 y1 x2 y2 : Value} {p q : Int} (h1 : Zl w x1 y1 p) (h2 : Zl w x2 y2 q) (sp : Sg p) (sq : Sg q) (sn : Sg (rv p q).num) (sd : Sg ((rv p q).den : Int)) (hd : (rv p q).den ≠ 1) (hsz : (decZ (rv p q).num).size + 1 + (decZ ((rv p q).den : Int)).size <= 9223372036854775807) :
  Calls Tryz.prog 47 #[.agg #[x1, y1, x2, y2]] w fun e w' => e = .returned (.string (decZ (rv p q).num ++ ⟨#[47]⟩ ++ decZ ((rv p q).den : Int))) /\ Below w.heap.size w w' := by
 obtain ⟨W0, hW0⟩ : ∃ W0, W0 = w.alloc (.cells #[x1, y1, x2, y2] 26) := ⟨_, rfl⟩
 have hbw : Below w.heap.size w W0 := by rw [hW0]; exact (Below.refl _ _).alloc (Nat.le_refl _) _
 have tA : Four W0 w.heap.size x1 y1 x2 y2 := by rw [hW0]; exact Four.new w _ _ _ _ _
 have HW0 := Hd hW0
 have hA := h1.to hbw
 have hB := h2.to hbw
 have HB := Hd hbw
 have HC := Hd (canonical_z hA hB sp sq)
 obtain ⟨r, er⟩ : ∃ r, rv p q = r := ⟨_, rfl⟩
 rw [er] at HC sn sd hd hsz
 rw [er]
 obtain ⟨s1, es1⟩ : ∃ s, Hid (decZ r.num = s) := ⟨_, rfl⟩
 obtain ⟨s2, es2⟩ : ∃ s, Hid (decZ (r.den : Int) = s) := ⟨_, rfl⟩
 rw [es2.out]
 rw [es1.out]
 rw [es1.out, es2.out] at hsz
 have hz1 : ¬ 9223372036854775807 < s1.size + 1 := by omega
 have hz2 : ¬ 9223372036854775807 < s1.size + 1 + s2.size := by omega
 have SN := Hd sn
 have SD := Hd sd
 have HD := Hd hd
 clear h1 h2 hW0 hbw sp sq hA hB er sn sd hd
 go_enter Tryz.func47, Tryz.ntmps47
 go_wp2_with fail
 rw [<- HW0.out]
 have k0 := tA.c0
 have k1 := tA.c1
 have k2 := tA.c2
 have k3 := tA.c3
 go_wp2_with fail
 refine HC.out.mono ?_
 rintro e V1 ⟨a1, b1, c1, d1, rfl, rq, bb⟩
 replace HB := hx HB bb
 clear k0 k1 k2 k3 bb tA HC
 have R1 := rq.1
 have R2 := rq.2
 clear rq
 obtain ⟨N, eN⟩ : ∃ N, Hid (r.num = N) := ⟨_, rfl⟩
 obtain ⟨D, eD⟩ : ∃ D : Int, Hid ((if r.den = 1 then 0 else (r.den : Int)) = D) := ⟨_, rfl⟩
 rw [eN.out] at R1 SN
 rw [eD.out] at R2
 have q1 := R1
 have q2 := R2
 obtain ⟨A1, m1, rfl, rfl, -⟩ := q1
 obtain ⟨A2, m2, rfl, rfl, -⟩ := q2
 rw [eN.out] at es1
 have HF1 := Hd fun (V : World) (h : Below V1.heap.size V1 V) => format_zc (R1.to h) SN.out
 rw [es1.out] at HF1
 have hD0 : D = (r.den : Int) := by rw [<- eD.out, if_neg HD.out]
 rw [<- hD0] at SD
 have HF2 := Hd fun (V : World) (h : Below V1.heap.size V1 V) => format_zc (R2.to h) SD.out
 have hl : (dig b32 D.natAbs).length ≠ 0 := fun h => by
  have h1 := (dig_nil b32_one).1 (List.eq_nil_of_length_eq_zero h)
  have h2 := r.den_pos
  omega
 rw [<- hD0] at es2
 rw [es2.out] at HF2
 obtain ⟨l1, e1⟩ : ∃ l, (dig b32 N.natAbs).length = l := ⟨_, rfl⟩
 obtain ⟨l2, e2⟩ : ∃ l, (dig b32 D.natAbs).length = l := ⟨_, rfl⟩
 rw [e2] at hl
 rw [e1] at HF1 ⊢
 rw [e2] at HF2 ⊢
 clear R1 R2 eN eD hD0 e1 e2 HD
 have hl2 : ((l2 : Int) == 0) = false := by rw [beq_eq_false_iff_ne]; omega
 have bb := one4_new V1 (.cells #[.bool (decide (N < 0)), .slice A1 l1 m1, .bool (decide (D < 0)), .slice A2 l2 m2] 26)
 have t3 := Four.new V1 (.bool (decide (N < 0))) (.slice A1 l1 m1) (.bool (decide (D < 0))) (.slice A2 l2 m2) 26
 have k0 := t3.c0
 have k1 := t3.c1
 have k2 := t3.c2
 have k3 := t3.c3
 go_wp2_with fail
 clear k0 k1 k2 k3
 obtain ⟨V2, hV2⟩ : ∃ V, V = V1.alloc (.cells #[.bool (decide (N < 0)), .slice A1 l1 m1, .bool (decide (D < 0)), .slice A2 l2 m2] 26) := ⟨_, rfl⟩
 rw [<- hV2] at t3 bb ⊢
 replace HB := hx HB bb
 have BB := Hd bb
 clear hV2 bb es1 es2
 refine wp_region_plan (S := fun w' => Below V2.heap.size V2 w') [(0, true), (1, true), (4, true), (5, true), (2, false), (3, true), (6, false), (7, true), (8, true)] (by kernel_rfl) (by kernel_rfl) (Below.refl _ _).drew ?_
 have HBR := (Below.refl V2.heap.size V2).drew
 repeat (refine plan_take (v := ?_) rfl (by rfl) ?_ ?_; rotate_left; (focus (intro w' hS; have k0 := (t3.to hS).c0; have k1 := (t3.to hS).c1; have k2 := (t3.to hS).c2; have k3 := (t3.to hS).c3; go_simp; try with_reducible rfl)))
 refine plan_call rfl (by rfl) (fun K hK => ?_)
 go_simp
 refine (HF1.out _ (BB.out.trans (HBR.mono BB.out.size))).mono ?_
 rintro e V3 ⟨rfl, b2⟩
 replace HBR := bx HBR b2
 refine hK.out _ _ HBR ?_
 clear hK K b2
 repeat (refine plan_take (v := ?_) rfl (by rfl) ?_ ?_; rotate_left; (focus (intro w' hS; go_simp; try with_reducible rfl)))
 refine plan_call rfl (by rfl) (fun K hK => ?_)
 go_simp
 refine (HF2.out _ (BB.out.trans (HBR.mono BB.out.size))).mono ?_
 rintro e V4 ⟨rfl, b2⟩
 replace HBR := bx HBR b2
 refine hK.out _ _ HBR ?_
 clear hK K b2
 repeat (refine plan_take (v := ?_) rfl (by rfl) ?_ ?_; rotate_left; (focus (intro w' hS; go_simp; try with_reducible rfl)))
 refine plan_done ?_
 have HE := hx HB HBR
 clear HB HBR t3
 go_wp2
 go_ret
 exact ⟨rfl, HE.out⟩
end Go.Proofs.YtbmnloelimmgiaaGreat

namespace Go.Proofs.YtbmnloelimmgiaaGreat
open Go.RowKit Go.Shelf
theorem split_50 (w : World) : Calls Tryz.prog 75 #[.string ⟨#[50, 47, 52]⟩] w fun e w' => e = .returned (.tuple #[.string ⟨#[50]⟩, .string ⟨#[52]⟩, .bool true]) /\ Below w.heap.size w w' := by
 have e1 : ({ data := #[50, 47, 52] } : ByteArray).extract 0 1 = ⟨#[50]⟩ := by decide +kernel
 have e2 : ({ data := #[50, 47, 52] } : ByteArray).extract 2 3 = ⟨#[52]⟩ := by decide +kernel
 go_enter Tryz.func75, Tryz.ntmps75
 go_wp2
 go_step3
 go_wp2
 go_step3
 go_wp2
 refine wp_loop_rounds 3 ?_
 rw [rounds_succ]
 go_wp2
 rw [rounds_succ]
 go_wp2
 go_quiet (fail)
 go_wp2
 rw [Exit.noGoto_ret]
 go_ret3
 exact ⟨rfl, bel_drewN (Below.refl _ _) _⟩
theorem split_51 (w : World) : Calls Tryz.prog 75 #[.string ⟨#[51, 47, 49]⟩] w fun e w' => e = .returned (.tuple #[.string ⟨#[51]⟩, .string ⟨#[49]⟩, .bool true]) /\ Below w.heap.size w w' := by
 have e1 : ({ data := #[51, 47, 49] } : ByteArray).extract 0 1 = ⟨#[51]⟩ := by decide +kernel
 have e2 : ({ data := #[51, 47, 49] } : ByteArray).extract 2 3 = ⟨#[49]⟩ := by decide +kernel
 go_enter Tryz.func75, Tryz.ntmps75
 go_wp2
 go_step3
 go_wp2
 go_step3
 go_wp2
 refine wp_loop_rounds 3 ?_
 rw [rounds_succ]
 go_wp2
 rw [rounds_succ]
 go_wp2
 go_quiet (fail)
 go_wp2
 rw [Exit.noGoto_ret]
 go_ret3
 exact ⟨rfl, bel_drewN (Below.refl _ _) _⟩
end Go.Proofs.YtbmnloelimmgiaaGreat

namespace Go.Proofs.YtbmnloelimmgiaaGreat
open Go.RowKit Go.Shelf
theorem isOne_w {w : World} {x y : Value} {a : Int} {v : Bool} (ha : Zl w x y a) (hv : decide (a = 1) = v) : Calls Tryz.prog 68 #[.agg #[x, y]] w fun e w' => e = .returned (.bool v) /\ Below w.heap.size w w' := by
 subst hv; exact isOne_z ha.zi
theorem isCanQ {w : World} {x1 y1 x2 y2 : Value} {p q : Int} (h1 : Zc w x1 y1 p) (h2 : Zc w x2 y2 q) (sp : Sg p) (sq : Sg q) (hq : 0 < q) :
  Calls Tryz.prog 36 #[.agg #[x1, y1, x2, y2]] w fun e w' => e = .returned (.bool (decide (q ≠ 1 /\ Int.gcd p q = 1))) /\ Below w.heap.size w w' := by
 obtain ⟨W0, hW0⟩ : ∃ W0, W0 = w.alloc (.cells #[x1, y1, x2, y2] 26) := ⟨_, rfl⟩
 have hbw : Below w.heap.size w W0 := by rw [hW0]; exact (Below.refl _ _).alloc (Nat.le_refl _) _
 have tA : Four W0 w.heap.size x1 y1 x2 y2 := by rw [hW0]; exact Four.new w _ _ _ _ _
 have HW0 := Hd hW0
 have hA := h1.to hbw
 have hB := h2.to hbw
 have HB := Hd hbw
 have SP := Hd sp
 have SQ := Hd sq
 have hs := Hd (sgn_pos hq)
 have SG : Hid (Sg (Int.gcd p q : Nat)) := by
  show Sg _
  have h := gcd_le p q (by omega)
  unfold Sg at *
  omega
 have hl : (dig b32 q.natAbs).length ≠ 0 := fun h => by
  have h1 := (dig_nil b32_one).1 (List.eq_nil_of_length_eq_zero h)
  omega
 have hR1 : Hid (q = 1 -> decide (q ≠ 1 /\ Int.gcd p q = 1) = false) := fun h => decide_eq_false (fun h' => h'.1 h)
 have hR2 : Hid (q ≠ 1 -> decide (((Int.gcd p q : Nat) : Int) = 1) = decide (q ≠ 1 /\ Int.gcd p q = 1)) := fun h => by
  rw [decide_eq_decide]
  exact ⟨fun h' => ⟨h, by omega⟩, fun h' => by omega⟩
 obtain ⟨R, eR⟩ : ∃ R, decide (q ≠ 1 /\ Int.gcd p q = 1) = R := ⟨_, rfl⟩
 rw [eR] at hR1 hR2 ⊢
 clear h1 h2 hW0 hbw sp sq hq eR
 obtain ⟨A2, c2, ex2, ey2, hz2⟩ := hB
 have hB : Zc W0 x2 y2 q := ⟨A2, c2, ex2, ey2, hz2⟩
 obtain ⟨l, el⟩ : ∃ l, (dig b32 q.natAbs).length = l := ⟨_, rfl⟩
 rw [el] at hl ey2
 subst ex2 ey2
 have hl2 : ((l : Int) == 0) = false := by rw [beq_eq_false_iff_ne]; omega
 clear hz2 el
 by_cases h1 : q = 1
 ·have ho : Hid (decide (q = 1) = true) := decide_eq_true h1
  have hR := hR1.out h1
  subst hR
  clear hR1 hR2 h1
  go_enter Tryz.func36, Tryz.ntmps36
  go_wp2_with fail
  rw [<- HW0.out]
  have k0 := tA.c0
  have k1 := tA.c1
  go_wp2_with fail
  refine (isCan_c hA SP.out.sm (by decide)).mono ?_
  rintro e V1 ⟨rfl, bb⟩
  replace tA := tA.to bb
  replace hB := hB.to bb
  replace HB := hx HB bb
  clear k0 k1 bb hA
  have k2 := tA.c2
  have k3 := tA.c3
  go_wp2_with fail
  refine (isCan_c hB SQ.out.sm (by decide)).mono ?_
  rintro e V2 ⟨rfl, bb⟩
  replace tA := tA.to bb
  replace hB := hB.to bb
  replace HB := hx HB bb
  clear k2 k3 bb
  have k2 := tA.c2
  have k3 := tA.c3
  go_wp2_with fail
  refine (sign_v (hB.zs SQ.out) hs.out).mono ?_
  rintro e V3 ⟨rfl, bb⟩
  replace tA := tA.to bb
  replace hB := hB.to bb
  replace HB := hx HB bb
  clear k2 k3 bb
  have k2 := tA.c2
  have k3 := tA.c3
  go_wp2_with fail
  refine (isOne_w (hB.zs SQ.out) ho.out).mono ?_
  rintro e V4 ⟨rfl, bb⟩
  replace HB := hx HB bb
  clear k2 k3 bb tA hB
  go_wp2
  go_ret
  exact ⟨rfl, HB.out⟩
 ·have ho : Hid (decide (q = 1) = false) := decide_eq_false h1
  have hR := Hd (hR2.out h1)
  clear hR1 hR2 h1
  go_enter Tryz.func36, Tryz.ntmps36
  go_wp2_with fail
  rw [<- HW0.out]
  have k0 := tA.c0
  have k1 := tA.c1
  go_wp2_with fail
  refine (isCan_c hA SP.out.sm (by decide)).mono ?_
  rintro e V1 ⟨rfl, bb⟩
  replace tA := tA.to bb
  replace hA := hA.to bb
  replace hB := hB.to bb
  replace HB := hx HB bb
  clear k0 k1 bb
  have k2 := tA.c2
  have k3 := tA.c3
  go_wp2_with fail
  refine (isCan_c hB SQ.out.sm (by decide)).mono ?_
  rintro e V2 ⟨rfl, bb⟩
  replace tA := tA.to bb
  replace hA := hA.to bb
  replace hB := hB.to bb
  replace HB := hx HB bb
  clear k2 k3 bb
  have k2 := tA.c2
  have k3 := tA.c3
  go_wp2_with fail
  refine (sign_v (hB.zs SQ.out) hs.out).mono ?_
  rintro e V3 ⟨rfl, bb⟩
  replace tA := tA.to bb
  replace hA := hA.to bb
  replace hB := hB.to bb
  replace HB := hx HB bb
  clear k2 k3 bb
  have k2 := tA.c2
  have k3 := tA.c3
  go_wp2_with fail
  refine (isOne_w (hB.zs SQ.out) ho.out).mono ?_
  rintro e V4 ⟨rfl, bb⟩
  replace tA := tA.to bb
  replace hA := hA.to bb
  replace hB := hB.to bb
  replace HB := hx HB bb
  clear k2 k3 bb
  have k0 := tA.c0
  have k1 := tA.c1
  have k2 := tA.c2
  have k3 := tA.c3
  go_wp2_with fail
  refine (gcd_z (hA.zs SP.out) (hB.zs SQ.out) SP.out SQ.out).mono ?_
  rintro e V5 ⟨xg, yg, rfl, rg, bb⟩
  replace HB := hx HB bb
  clear k0 k1 k2 k3 bb tA hA hB
  go_wp2_with fail
  refine (isOne_w (rg.zs SG.out) hR.out).mono ?_
  rintro e V6 ⟨rfl, bb⟩
  replace HB := hx HB bb
  clear bb rg
  go_wp2
  go_ret
  exact ⟨rfl, HB.out⟩
end Go.Proofs.YtbmnloelimmgiaaGreat
