/- Parts: 5. -/
import Derived.Test.YtgkfbhdaheoecaaGreatFo5
import Derived.Test.YtgkfbhdaheoecaaGreatFo16
import Derived.Laws.EntriesVeiled
import Derived.MapKept
set_option linter.unusedVariables false
set_option linter.unusedSimpArgs false
set_option maxRecDepth 100000
set_option maxHeartbeats 40000000

namespace Go.Proofs.YtgkfbhdaheoecaaGreat
open Go.RowKit Go.Shelf

/-- Numerator and denominator with the sign in the numerator. -/
def upN (p q : Int) : Int := if q < 0 then -p else p
def upD (q : Int) : Int := if q = 0 then 1 else if q < 0 then -q else q
theorem upD_pos (q : Int) : 0 < upD q := by unfold upD; split <;> (try split) <;> omega
theorem rv_up (p q : Int) : rv p q = Rat.divInt (upN p q) (upD q) := by
  unfold rv upN upD
  by_cases h : q = 0
  · subst h; simp [divInt_one]
  · by_cases h2 : q < 0
    · rw [if_neg h, if_pos h2, if_neg h, if_pos h2, Rat.neg_divInt_neg]
    · rw [if_neg h, if_neg h2, if_neg h, if_neg h2]
theorem Sm.upN {k : Nat} {p : Int} (h : Sm k p) (q : Int) : Sm k (upN p q) := by unfold Go.Proofs.YtgkfbhdaheoecaaGreat.upN; split; exact h.neg; exact h
theorem Sm.one {k : Nat} (hk : 0 < k) : Sm k 1 := by
  have h : b32 ^ 1 <= b32 ^ k := Nat.pow_le_pow_right (by decide) hk
  rw [Nat.pow_one] at h
  exact Nat.lt_of_lt_of_le (by decide) h
theorem Sm.zero {k : Nat} : Sm k 0 := Nat.pow_pos (by decide)
theorem Sm.upD {k : Nat} {q : Int} (h : Sm k q) (hk : 0 < k) : Sm k (upD q) := by
  unfold Go.Proofs.YtgkfbhdaheoecaaGreat.upD
  split
  · exact Sm.one hk
  · split
    · exact h.neg
    · exact h

/-- A rational of at most k words. -/
def Qm (k : Nat) (r : Rat) : Prop := Sm k r.num /\ Sm k (r.den : Int)
theorem Qm.mono {k l : Nat} {r : Rat} (h : Qm k r) (hl : k <= l) : Qm l r := ⟨h.1.mono hl, h.2.mono hl⟩
theorem Sm.le {k : Nat} {a b : Int} (h : Sm k a) (hl : b.natAbs <= a.natAbs) : Sm k b := Nat.lt_of_le_of_lt hl h
theorem Qm.divInt {k : Nat} {a b : Int} (ha : Sm k a) (hb : Sm k b) (h0 : b ≠ 0) : Qm k (Rat.divInt a b) := by
  constructor
  · rw [<- cmn_num a b h0]
    exact ha.le (Int.natAbs_ediv_le_natAbs _ _)
  · rw [<- cmn_den a b h0]
    exact hb.le (Int.natAbs_ediv_le_natAbs _ _)
theorem Qm.rv {k : Nat} {p q : Int} (hp : Sm k p) (hq : Sm k q) (hk : 0 < k) : Qm k (rv p q) := by
  rw [rv_up]
  exact Qm.divInt (hp.upN q) (hq.upD hk) (by have := upD_pos q; omega)
theorem Qm.pos {k : Nat} {r : Rat} (h : Qm k r) : 0 < k := by
  rcases Nat.eq_zero_or_pos k with rfl | hk
  · have h1 := h.2
    have h2 := r.den_pos
    unfold Sm at h1
    rw [Nat.pow_zero, Int.natAbs_natCast] at h1
    omega
  · exact hk
theorem den_ne (r : Rat) : (r.den : Int) ≠ 0 := by have := r.den_pos; omega
theorem add_up (r s : Rat) : r + s = Rat.divInt (r.num * s.den + s.num * r.den) (r.den * s.den) := by
  have h := Rat.divInt_add_divInt r.num s.num (den_ne r) (den_ne s)
  rw [Rat.num_divInt_den, Rat.num_divInt_den] at h
  exact h
theorem mul_up (r s : Rat) : r * s = Rat.divInt (r.num * s.num) (r.den * s.den) := by
  have h := Rat.divInt_mul_divInt r.num s.num (d₁ := r.den) (d₂ := s.den)
  rw [Rat.num_divInt_den, Rat.num_divInt_den] at h
  exact h
theorem mul_ne (r s : Rat) : (r.den : Int) * s.den ≠ 0 := Int.mul_ne_zero (den_ne r) (den_ne s)
theorem Qm.add {k l : Nat} {r s : Rat} (h : Qm k r) (h' : Qm l s) : Qm (k + l + 1) (r + s) := by
  rw [add_up]
  refine Qm.divInt ((h.1.mul h'.2).add ?_) ((h.2.mul h'.2).mono (by omega)) (mul_ne r s)
  have := h'.1.mul h.2
  rwa [Nat.add_comm] at this
theorem Qm.mul {k l : Nat} {r s : Rat} (h : Qm k r) (h' : Qm l s) : Qm (k + l) (r * s) := by
  rw [mul_up]
  exact Qm.divInt (h.1.mul h'.1) (h.2.mul h'.2) (mul_ne r s)
theorem Qm.neg {k : Nat} {r : Rat} (h : Qm k r) : Qm k (-r) := ⟨h.1.neg, h.2⟩
theorem Qm.sub {k l : Nat} {r s : Rat} (h : Qm k r) (h' : Qm l s) : Qm (k + l + 1) (r - s) := by
  rw [Rat.sub_eq_add_neg]
  exact h.add h'.neg
theorem Qm.inv {k : Nat} {r : Rat} (h : Qm k r) : Qm k r⁻¹ := by
  constructor
  · rw [Rat.num_inv]
    refine h.2.le ?_
    rw [Int.natAbs_mul, Int.natAbs_sign]
    split <;> simp
  · rw [Rat.den_inv]
    split
    · exact Sm.one h.pos
    · exact h.1.le (by simp)
theorem Qm.div {k l : Nat} {r s : Rat} (h : Qm k r) (h' : Qm l s) : Qm (k + l) (r / s) := by
  rw [Rat.div_def]
  exact h.mul h'.inv
theorem Qm.int {k : Nat} {z : Int} (h : Sm k z) (hk : 0 < k) : Qm k (z : Rat) := ⟨h, Sm.one hk⟩

/-- Four cells that are a rational of at most k words, in whatever form. -/
def Qi (W : World) (a b c d : Value) (r : Rat) (k : Nat) : Prop := ∃ p q, Zl W a b p /\ Zl W c d q /\ rv p q = r /\ Sm k p /\ Sm k q

section
variable {W V : World} {a b c d : Value} {r : Rat} {k : Nat}
theorem Qi.to (h : Qi W a b c d r k) (hb : Below W.heap.size W V) : Qi V a b c d r k := by
  obtain ⟨p, q, h1, h2, h3⟩ := h
  exact ⟨p, q, h1.to hb, h2.to hb, h3⟩
theorem Qi.fq (h : Qi W a b c d r k) : Fq a b c d := by
  obtain ⟨p, q, h1, h2, h3⟩ := h
  exact ⟨h1.zi.fs, h2.zi.fs⟩
theorem Qi.qm (h : Qi W a b c d r k) (hk : 0 < k) : Qm k r := by
  obtain ⟨p, q, h1, h2, rfl, h3, h4⟩ := h
  exact Qm.rv h3 h4 hk
theorem rv_self (r : Rat) : rv r.num (if r.den = 1 then 0 else (r.den : Int)) = r := by
  unfold rv
  by_cases h : r.den = 1
  · rw [if_pos (by rw [if_pos h])]
    exact Rat.ext (by simp) (by simp [h])
  · have := r.den_pos
    rw [if_neg h, if_neg (by omega), Rat.num_divInt_den]
theorem Qc.qi (h : Qc W a b c d r) (hm : Qm k r) (hk : k <= 10000) : Qi W a b c d r k := by
  refine ⟨r.num, _, h.1.zs (hm.1.sg hk), h.2.zs ?_, rv_self r, hm.1, ?_⟩
  · split
    · exact sg_lit (by decide)
    · exact hm.2.sg hk
  · split
    · exact Sm.zero
    · exact hm.2
theorem Qi.mono {l : Nat} (h : Qi W a b c d r k) (hl : k <= l) : Qi W a b c d r l := by
  obtain ⟨p, q, h1, h2, h3, h4, h5⟩ := h
  exact ⟨p, q, h1, h2, h3, h4.mono hl, h5.mono hl⟩
end

/-- The order of rationals as a number. -/
def cmpQ (r s : Rat) : Int := if r < s then -1 else if s < r then 1 else 0
end Go.Proofs.YtgkfbhdaheoecaaGreat

namespace Go.Proofs.YtgkfbhdaheoecaaGreat
open Go.RowKit Go.Shelf

theorem Zi.k4 {g : Nat} {w V : World} {x y : Value} {z : Int} (h : Zi w x y z) (kp : Kept4 g w V) : Zi V x y z := kp.zi _ _ _ h
theorem Qi.k4 {g : Nat} {w V : World} (kp : Kept4 g w V) {a b c d : Value} {r : Rat} {k : Nat} (h : Qi w a b c d r k) : Qi V a b c d r k := by
  obtain ⟨p, q, h1, h2, h3⟩ := h
  exact ⟨p, q, kp.zl h1, kp.zl h2, h3⟩

theorem upright_pos {w : World} {x1 y1 x2 y2 : Value} {p q : Int} (h1 : Zl w x1 y1 p) (h2 : Zl w x2 y2 q) (hq : 0 < q) :
    Calls Tryz.prog 40 #[.agg #[x1, y1, x2, y2]] w fun e w' => e = .returned (.agg #[x1, y1, x2, y2]) /\ Below w.heap.size w w' := by
  obtain ⟨W0, hW0⟩ : ∃ W0, W0 = (w.alloc (.cells #[x1, y1, x2, y2] 26)).alloc (.cells #[.bool false, .slice none 0 0, .bool false, .slice none 0 0] 26) := ⟨_, rfl⟩
  have hbw : Below w.heap.size w W0 := by rw [hW0]; exact ((Below.refl _ _).alloc (Nat.le_refl _) _).alloc (by simp) _
  have tA : Four W0 w.heap.size x1 y1 x2 y2 := by rw [hW0]; exact (Four.new w _ _ _ _ _).alloc _
  have tR : Four W0 (w.heap.size + 1) (.bool false) (.slice none 0 0) (.bool false) (.slice none 0 0) := by
    have h := Four.new (w.alloc (.cells #[x1, y1, x2, y2] 26)) (.bool false) (.slice none 0 0) (.bool false) (.slice none 0 0) 26
    rw [World.size_alloc] at h
    rw [hW0]; exact h
  have HW0 := Lib.hid hW0
  have hB := h2.to hbw
  have HB := Lib.hid hbw
  have hs := Lib.hid (sgn_pos hq)
  have f1 := h1.fs
  have f2 := h2.fs
  clear h1 h2 hW0 hbw hq
  obtain ⟨n1, A1, l1, m1, rfl, rfl⟩ := f1
  obtain ⟨n2, A2, l2, m2, rfl, rfl⟩ := f2
  go_enter Tryz.func40, Tryz.ntmps40
  go_wp2_with fail
  rw [<- HW0.out]
  have k0 := tA.c0
  have k1 := tA.c1
  have k2 := tA.c2
  have k3 := tA.c3
  go_wp2_with fail
  refine (sign_v hB hs.out).mono ?_
  rintro e V1 ⟨rfl, bb⟩
  replace tA := tA.to bb
  replace tR := tR.to bb
  replace HB := Lib.hid (HB.out.trans (bb.mono HB.out.size))
  clear k0 k1 k2 k3 bb hB
  have k0 := tA.c0
  have k1 := tA.c1
  have k2 := tA.c2
  have k3 := tA.c3
  obtain ⟨V3, eV, u, kp⟩ := pack4 tR Fq.nil (.bool n1) (.slice A1 l1 m1) (.bool n2) (.slice A2 l2 m2)
  obtain ⟨v0, v1, v2, v3, v4, v5, v6, v7, _⟩ := tR
  have EV := Lib.hid eV
  have KP := Lib.hid kp
  have U := Lib.hid u
  clear eV kp u
  go_wp2
  rw [EV.out]
  refine bodyPost_ret (v := .agg #[.bool n1, .slice A1 l1 m1, .bool n2, .slice A2 l2 m2]) (by simp [results, Tryz.f40, go_sem, U.out.c0, U.out.c1, U.out.c2, U.out.c3]) rfl ?_
  exact ⟨rfl, KP.out.bel _ _ HB.out (by omega)⟩

theorem upright_0 {w : World} {x1 y1 x2 y2 : Value} {p q : Int} (h1 : Zl w x1 y1 p) (h2 : Zl w x2 y2 q) (hq : q = 0) :
    Calls Tryz.prog 40 #[.agg #[x1, y1, x2, y2]] w fun e w' => ∃ x y, e = .returned (.agg #[x1, y1, x, y]) /\ Zl w' x1 y1 p /\ Zc w' x y 1 /\ Below w.heap.size w w' := by
  obtain ⟨W0, hW0⟩ : ∃ W0, W0 = (w.alloc (.cells #[x1, y1, x2, y2] 26)).alloc (.cells #[.bool false, .slice none 0 0, .bool false, .slice none 0 0] 26) := ⟨_, rfl⟩
  have hbw : Below w.heap.size w W0 := by rw [hW0]; exact ((Below.refl _ _).alloc (Nat.le_refl _) _).alloc (by simp) _
  have tA : Four W0 w.heap.size x1 y1 x2 y2 := by rw [hW0]; exact (Four.new w _ _ _ _ _).alloc _
  have tR : Four W0 (w.heap.size + 1) (.bool false) (.slice none 0 0) (.bool false) (.slice none 0 0) := by
    have h := Four.new (w.alloc (.cells #[x1, y1, x2, y2] 26)) (.bool false) (.slice none 0 0) (.bool false) (.slice none 0 0) 26
    rw [World.size_alloc] at h
    rw [hW0]; exact h
  have HW0 := Lib.hid hW0
  have hA := h1.to hbw
  have hB := h2.to hbw
  have HB := Lib.hid hbw
  have hs : Hid (sgn q = 0) := sgn_zero.2 hq
  have f1 := h1.zi.fs
  have f2 := h2.zi.fs
  clear h1 h2 hW0 hbw hq
  obtain ⟨n1, A1, l1, m1, rfl, rfl⟩ := f1
  obtain ⟨n2, A2, l2, m2, rfl, rfl⟩ := f2
  go_enter Tryz.func40, Tryz.ntmps40
  go_wp2_with fail
  rw [<- HW0.out]
  have k0 := tA.c0
  have k1 := tA.c1
  have k2 := tA.c2
  have k3 := tA.c3
  go_wp2_with fail
  refine (sign_v hB hs.out).mono ?_
  rintro e V1 ⟨rfl, bb⟩
  replace tA := tA.to bb
  replace tR := tR.to bb
  replace hA := hA.to bb
  replace hB := hB.to bb
  replace HB := Lib.hid (HB.out.trans (bb.mono HB.out.size))
  clear k0 k1 k2 k3 bb HW0
  go_wp2_with fail
  refine wp_region_plan (S := fun w' => Below w.heap.size w w' /\ Four w' w.heap.size (.bool n1) (.slice A1 l1 m1) (.bool n2) (.slice A2 l2 m2)) [(0, true), (1, true), (2, false), (3, true), (4, false)] (by kernel_rfl) (by kernel_rfl) ⟨HB.out.drew, tA.to (Below.refl _ _).drew⟩ ?_
  have hb := HB.out.drew
  have bb := (Below.refl V1.heap.size V1).drew
  replace tA := tA.to bb
  replace tR := tR.to bb
  replace hA := hA.to bb
  clear bb HB hB
  refine plan_take (v := ?_) rfl (by rfl) ?_ ?_; rotate_left; (focus (intro w' hS; have k0 := hS.2.c0; have k1 := hS.2.c1; have k2 := hS.2.c2; have k3 := hS.2.c3; go_simp; try with_reducible rfl)); simp only [Act.put, List.setIfInBounds_toArray, List.set_cons_zero, List.set_cons_succ]
  refine plan_take (v := ?_) rfl (by rfl) ?_ ?_; rotate_left; (focus (intro w' hS; have k0 := hS.2.c0; have k1 := hS.2.c1; have k2 := hS.2.c2; have k3 := hS.2.c3; go_simp; try with_reducible rfl)); simp only [Act.put, List.setIfInBounds_toArray, List.set_cons_zero, List.set_cons_succ]
  refine plan_call rfl (by rfl) (fun K hK => ?_)
  go_simp
  refine (from_z 1 (by decide) (by decide) _).mono ?_
  rintro e V2 ⟨xo, yo, rfl, rz, bb⟩
  replace hb := hb.trans (bb.mono hb.size)
  replace tA := tA.to bb
  replace tR := tR.to bb
  replace hA := hA.to bb
  refine hK.out _ _ ⟨hb, tA⟩ ?_
  clear hK K bb
  refine plan_take (v := ?_) rfl (by rfl) ?_ ?_; rotate_left; (focus (intro w' hS; have k0 := hS.2.c0; have k1 := hS.2.c1; have k2 := hS.2.c2; have k3 := hS.2.c3; go_simp; try with_reducible rfl)); simp only [Act.put, List.setIfInBounds_toArray, List.set_cons_zero, List.set_cons_succ]
  refine plan_call rfl (by rfl) (fun K hK => ?_)
  refine wp_store_four (by rfl) (by rfl) tR Fq.nil ⟨⟨_, _, _, _, rfl, rfl⟩, rz.fs⟩ (fun V u kp => ?_)
  replace tA := kp.four _ _ _ _ _ (by omega) tA
  replace hb := kp.bel _ _ hb (by omega)
  replace rz := kp.zc _ _ _ rz
  replace hA := kp.zl hA
  refine hK.out _ _ ⟨hb, tA⟩ ?_
  clear hK K kp tR tA
  simp only [Act.put, List.setIfInBounds_toArray, List.set_cons_zero, List.set_cons_succ]
  refine plan_done ?_
  have U0 := u.c0
  have U1 := u.c1
  have U2 := u.c2
  have U3 := u.c3
  have RZ := Lib.hid rz
  have RA := Lib.hid hA
  have HB := Lib.hid hb
  clear u rz hA hb
  go_wp2
  refine bodyPost_ret (v := .agg #[.bool n1, .slice A1 l1 m1, xo, yo]) (by simp [results, Tryz.f40, go_sem, U0, U1, U2, U3]) rfl ?_
  exact ⟨_, _, rfl, RA.out, RZ.out, HB.out⟩

theorem upright_n {w : World} {x1 y1 x2 y2 : Value} {p q : Int} (h1 : Zl w x1 y1 p) (h2 : Zl w x2 y2 q) (hq : q < 0) :
    Calls Tryz.prog 40 #[.agg #[x1, y1, x2, y2]] w fun e w' => ∃ u v u' v', e = .returned (.agg #[u, v, u', v']) /\ Zc w' u v (-p) /\ Zc w' u' v' (-q) /\ Below w.heap.size w w' := by
  obtain ⟨W0, hW0⟩ : ∃ W0, W0 = (w.alloc (.cells #[x1, y1, x2, y2] 26)).alloc (.cells #[.bool false, .slice none 0 0, .bool false, .slice none 0 0] 26) := ⟨_, rfl⟩
  have hbw : Below w.heap.size w W0 := by rw [hW0]; exact ((Below.refl _ _).alloc (Nat.le_refl _) _).alloc (by simp) _
  have tA : Four W0 w.heap.size x1 y1 x2 y2 := by rw [hW0]; exact (Four.new w _ _ _ _ _).alloc _
  have tR : Four W0 (w.heap.size + 1) (.bool false) (.slice none 0 0) (.bool false) (.slice none 0 0) := by
    have h := Four.new (w.alloc (.cells #[x1, y1, x2, y2] 26)) (.bool false) (.slice none 0 0) (.bool false) (.slice none 0 0) 26
    rw [World.size_alloc] at h
    rw [hW0]; exact h
  have HW0 := Lib.hid hW0
  have hA := h1.to hbw
  have hB := h2.to hbw
  have HB := Lib.hid hbw
  have hs : Hid (sgn q = -1) := sgn_neg hq
  have f1 := h1.zi.fs
  have f2 := h2.zi.fs
  clear h1 h2 hW0 hbw hq
  obtain ⟨n1, A1, l1, m1, rfl, rfl⟩ := f1
  obtain ⟨n2, A2, l2, m2, rfl, rfl⟩ := f2
  go_enter Tryz.func40, Tryz.ntmps40
  go_wp2_with fail
  rw [<- HW0.out]
  have k0 := tA.c0
  have k1 := tA.c1
  have k2 := tA.c2
  have k3 := tA.c3
  go_wp2_with fail
  refine (sign_v hB hs.out).mono ?_
  rintro e V1 ⟨rfl, bb⟩
  replace tA := tA.to bb
  replace tR := tR.to bb
  replace hA := hA.to bb
  replace hB := hB.to bb
  replace HB := Lib.hid (HB.out.trans (bb.mono HB.out.size))
  clear k0 k1 k2 k3 bb HW0
  go_wp2_with fail
  refine wp_region_plan (S := fun w' => Below w.heap.size w w' /\ Four w' w.heap.size (.bool n1) (.slice A1 l1 m1) (.bool n2) (.slice A2 l2 m2)) [(0, true), (1, true), (3, true), (4, true), (2, false), (5, false), (6, true), (7, false)] (by kernel_rfl) (by kernel_rfl) ⟨HB.out.drew, tA.to (Below.refl _ _).drew⟩ ?_
  have hb := HB.out.drew
  have bb := (Below.refl V1.heap.size V1).drew
  replace tA := tA.to bb
  replace tR := tR.to bb
  replace hA := hA.to bb
  replace hB := hB.to bb
  clear bb HB
  refine plan_take (v := ?_) rfl (by rfl) ?_ ?_; rotate_left; (focus (intro w' hS; have k0 := hS.2.c0; have k1 := hS.2.c1; have k2 := hS.2.c2; have k3 := hS.2.c3; go_simp; try with_reducible rfl)); simp only [Act.put, List.setIfInBounds_toArray, List.set_cons_zero, List.set_cons_succ]
  refine plan_take (v := ?_) rfl (by rfl) ?_ ?_; rotate_left; (focus (intro w' hS; have k0 := hS.2.c0; have k1 := hS.2.c1; have k2 := hS.2.c2; have k3 := hS.2.c3; go_simp; try with_reducible rfl)); simp only [Act.put, List.setIfInBounds_toArray, List.set_cons_zero, List.set_cons_succ]
  refine plan_take (v := ?_) rfl (by rfl) ?_ ?_; rotate_left; (focus (intro w' hS; have k0 := hS.2.c0; have k1 := hS.2.c1; have k2 := hS.2.c2; have k3 := hS.2.c3; go_simp; try with_reducible rfl)); simp only [Act.put, List.setIfInBounds_toArray, List.set_cons_zero, List.set_cons_succ]
  refine plan_take (v := ?_) rfl (by rfl) ?_ ?_; rotate_left; (focus (intro w' hS; have k0 := hS.2.c0; have k1 := hS.2.c1; have k2 := hS.2.c2; have k3 := hS.2.c3; go_simp; try with_reducible rfl)); simp only [Act.put, List.setIfInBounds_toArray, List.set_cons_zero, List.set_cons_succ]
  refine plan_call rfl (by rfl) (fun K hK => ?_)
  go_simp
  refine (neg_z hA.zi).mono ?_
  rintro e V2 ⟨xo, yo, rfl, rz, bb⟩
  replace hb := hb.trans (bb.mono hb.size)
  replace tA := tA.to bb
  replace tR := tR.to bb
  replace hB := hB.to bb
  refine hK.out _ _ ⟨hb, tA⟩ ?_
  clear hK K bb hA
  refine plan_call rfl (by rfl) (fun K hK => ?_)
  go_simp
  refine (neg_z hB.zi).mono ?_
  rintro e V3 ⟨xu, yu, rfl, ru, bb⟩
  replace hb := hb.trans (bb.mono hb.size)
  replace tA := tA.to bb
  replace tR := tR.to bb
  replace rz := rz.to bb
  refine hK.out _ _ ⟨hb, tA⟩ ?_
  clear hK K bb hB
  refine plan_take (v := ?_) rfl (by rfl) ?_ ?_; rotate_left; (focus (intro w' hS; have k0 := hS.2.c0; have k1 := hS.2.c1; have k2 := hS.2.c2; have k3 := hS.2.c3; go_simp; try with_reducible rfl)); simp only [Act.put, List.setIfInBounds_toArray, List.set_cons_zero, List.set_cons_succ]
  refine plan_call rfl (by rfl) (fun K hK => ?_)
  refine wp_store_four (by rfl) (by rfl) tR Fq.nil ⟨rz.fs, ru.fs⟩ (fun V u kp => ?_)
  replace tA := kp.four _ _ _ _ _ (by omega) tA
  replace hb := kp.bel _ _ hb (by omega)
  replace rz := kp.zc _ _ _ rz
  replace ru := kp.zc _ _ _ ru
  refine hK.out _ _ ⟨hb, tA⟩ ?_
  clear hK K kp tR tA
  simp only [Act.put, List.setIfInBounds_toArray, List.set_cons_zero, List.set_cons_succ]
  refine plan_done ?_
  have U0 := u.c0
  have U1 := u.c1
  have U2 := u.c2
  have U3 := u.c3
  have RZ := Lib.hid rz
  have RU := Lib.hid ru
  have HB := Lib.hid hb
  clear u rz ru hb
  go_wp2
  refine bodyPost_ret (v := .agg #[xo, yo, xu, yu]) (by simp [results, Tryz.f40, go_sem, U0, U1, U2, U3]) rfl ?_
  exact ⟨_, _, _, _, rfl, RZ.out, RU.out, HB.out⟩

/-- Four cells with an upright rational: its numerator N, its denominator D > 0. -/
structure Up (W : World) (a b c d : Value) (r : Rat) (k : Nat) (N D : Int) : Prop where
  n : Zl W a b N
  d : Zl W c d D
  pos : 0 < D
  eq : Rat.divInt N D = r
  sn : Sm k N
  sd : Sm k D
theorem Up.to {W V : World} {a b c d : Value} {r : Rat} {k : Nat} {N D : Int} (h : Up W a b c d r k N D) (hb : Below W.heap.size W V) : Up V a b c d r k N D := ⟨h.n.to hb, h.d.to hb, h.pos, h.eq, h.sn, h.sd⟩
theorem Up.fq {W : World} {a b c d : Value} {r : Rat} {k : Nat} {N D : Int} (h : Up W a b c d r k N D) : Fq a b c d := ⟨h.n.fs, h.d.fs⟩
theorem Up.k4 {g : Nat} {w V : World} (kp : Kept4 g w V) {a b c d : Value} {r : Rat} {k : Nat} {N D : Int} (h : Up w a b c d r k N D) : Up V a b c d r k N D := ⟨kp.zl h.n, kp.zl h.d, h.pos, h.eq, h.sn, h.sd⟩
theorem Up.k2 {g : Nat} {w V : World} (kp : Kept g w V) {a b c d : Value} {r : Rat} {k : Nat} {N D : Int} (h : Up w a b c d r k N D) : Up V a b c d r k N D := ⟨kp.zl h.n, kp.zl h.d, h.pos, h.eq, h.sn, h.sd⟩

/-- A call hands back the rational r upright. -/
def UpR (w : World) (r : Rat) (k : Nat) (e : Ending) (w' : World) : Prop := ∃ a b c d N D, e = .returned (.agg #[a, b, c, d]) /\ Up w' a b c d r k N D /\ Below w.heap.size w w'

theorem upright_q {w : World} {a b c d : Value} {r : Rat} {k : Nat} (h : Qi w a b c d r k) (hk : 0 < k) (hk2 : k <= 10000) : Calls Tryz.prog 40 #[.agg #[a, b, c, d]] w (UpR w r k) := by
  obtain ⟨p, q, h1, h2, rfl, s1, s2⟩ := h
  rcases Int.lt_trichotomy q 0 with hq | hq | hq
  · refine (upright_n h1 h2 hq).mono ?_
    rintro e w' ⟨u, v, u', v', rfl, z1, z2, hb⟩
    refine ⟨u, v, u', v', _, _, rfl, ⟨z1.zs (s1.neg.sg hk2), z2.zs (s2.neg.sg hk2), by omega, ?_, s1.neg, s2.neg⟩, hb⟩
    rw [Rat.neg_divInt_neg]; unfold rv; rw [if_neg (by omega)]
  · refine (upright_0 h1 h2 hq).mono ?_
    rintro e w' ⟨u, v, rfl, z1, z2, hb⟩
    refine ⟨a, b, u, v, _, _, rfl, ⟨z1, z2.zs (sg_lit (by decide)), by omega, ?_, s1, Sm.one hk⟩, hb⟩
    rw [divInt_one]; unfold rv; rw [if_pos hq]
  · refine (upright_pos h1 h2 hq).mono ?_
    rintro e w' ⟨rfl, hb⟩
    refine ⟨a, b, c, d, _, _, rfl, ⟨h1.to hb, h2.to hb, hq, ?_, s1, s2⟩, hb⟩
    unfold rv; rw [if_neg (by omega)]

theorem floor_div {N D : Int} (hD : 0 < D) : N / D = (Rat.divInt N D).floor := by
  rw [Rat.floor_def, <- cmn_num N D (by omega), <- cmn_den N D (by omega)]
  have hg : 0 < cmn N D := by
    have h := Int.gcd_eq_zero_iff (a := N) (b := D)
    unfold cmn
    rw [if_neg (by omega)]
    have : Int.gcd N D ≠ 0 := fun h' => by have := (h.1 h').2; omega
    omega
  have h1 : cmn N D ∣ N := by unfold cmn; rw [if_neg (by omega)]; exact Int.gcd_dvd_left ..
  have h2 : cmn N D ∣ D := by unfold cmn; rw [if_neg (by omega)]; exact Int.gcd_dvd_right ..
  obtain ⟨n, hn⟩ := h1
  obtain ⟨e, he⟩ := h2
  generalize cmn N D = G at *
  subst hn he
  rw [Int.mul_ediv_cancel_left _ (by omega), Int.mul_ediv_cancel_left _ (by omega), Int.mul_ediv_mul_of_pos _ _ hg]

theorem floor_q {w : World} {x1 y1 x2 y2 : Value} {r : Rat} {k : Nat} (h1 : Qi w x1 y1 x2 y2 r k) (hk : 0 < k) (hk2 : k <= 10000) :
    Calls Tryz.prog 19 #[.agg #[x1, y1, x2, y2]] w (ZR w r.floor) := by
  obtain ⟨W0, hW0⟩ : ∃ W0, W0 = (w.alloc (.cells #[x1, y1, x2, y2] 26)).alloc (.cells #[.bool false, .slice none 0 0] 24) := ⟨_, rfl⟩
  have hbw : Below w.heap.size w W0 := by rw [hW0]; exact ((Below.refl _ _).alloc (Nat.le_refl _) _).alloc (by simp) _
  have tA : Four W0 w.heap.size x1 y1 x2 y2 := by rw [hW0]; exact (Four.new w _ _ _ _ _).alloc _
  have tR : Two W0 (w.heap.size + 1) (.bool false) (.slice none 0 0) := by
    have h := Two.new (w.alloc (.cells #[x1, y1, x2, y2] 26)) (.bool false) (.slice none 0 0) 24
    rw [World.size_alloc] at h
    rw [hW0]; exact h
  have HW0 := Lib.hid hW0
  have hU := Lib.hid (upright_q (h1.to hbw) hk hk2)
  have HB := Lib.hid hbw
  have f1 := h1.fq.1
  have f2 := h1.fq.2
  clear h1 hW0 hbw
  obtain ⟨n1, A1, l1, m1, rfl, rfl⟩ := f1
  obtain ⟨n2, A2, l2, m2, rfl, rfl⟩ := f2
  go_enter Tryz.func19, Tryz.ntmps19
  go_wp2_with fail
  rw [<- HW0.out]
  have k0 := tA.c0
  have k1 := tA.c1
  have k2 := tA.c2
  have k3 := tA.c3
  go_wp2_with fail
  refine hU.out.mono ?_
  rintro e V1 ⟨_, _, _, _, p, q, rfl, up, bb⟩
  clear hU
  obtain ⟨n1, A1, l1, m1, rfl, rfl⟩ := up.fq.1
  obtain ⟨n2, A2, l2, m2, rfl, rfl⟩ := up.fq.2
  have hA := up.n
  have hB := up.d
  have HQ := Lib.hid up.pos
  have HSP := Lib.hid (up.sn.sg hk2)
  have HR : Hid (r.floor = p / q) := by show _ = _; rw [<- up.eq, floor_div up.pos]
  clear up
  replace tR := tR.to bb
  replace HB := Lib.hid (HB.out.trans (bb.mono HB.out.size))
  clear k0 k1 k2 k3 bb tA
  have bb := one4_new V1 (.cells #[.bool n1, .slice A1 l1 m1, .bool n2, .slice A2 l2 m2] 26)
  have t3 := Four.new V1 (.bool n1) (.slice A1 l1 m1) (.bool n2) (.slice A2 l2 m2) 26
  replace tR := tR.to bb
  replace hA := hA.to bb
  replace hB := hB.to bb
  replace HB := Lib.hid (HB.out.trans (bb.mono HB.out.size))
  clear bb
  have k0 := t3.c0
  have k1 := t3.c1
  have k2 := t3.c2
  have k3 := t3.c3
  go_wp2_with fail
  clear k0 k1 k2 k3 t3
  refine (dm_z hA hB (by have := HQ.out; omega) HSP.out).mono ?_
  rintro e V2 ⟨A3, c3, A4, c4, rfl, r1, r2, e1, e2, e3, e4, bb⟩
  replace tR := tR.to bb
  replace HB := Lib.hid (HB.out.trans (bb.mono HB.out.size))
  have rz : Zc V2 (.bool (decide (p / q < 0))) (.slice A3 (dig b32 (p / q).natAbs).length c3) (p / q) := ⟨A3, c3, rfl, rfl, r1, e1, e2⟩
  clear bb r1 r2 e1 e2 e3 e4 hA hB
  obtain ⟨z, ez⟩ : ∃ z, Hid (p / q = z) := ⟨_, rfl⟩
  obtain ⟨z2, ez2⟩ : ∃ z, Hid (p % q = z) := ⟨_, rfl⟩
  rw [ez.out] at rz ⊢
  rw [ez2.out]
  have b2 : Below V2.heap.size V2 ((V2.alloc (.cells #[.bool (decide (z < 0)), .slice A3 (dig b32 z.natAbs).length c3] 24)).alloc (.cells #[.bool (decide (z2 < 0)), .slice A4 (dig b32 z2.natAbs).length c4] 24)) := ((Below.refl _ _).alloc (Nat.le_refl _) _).alloc (by simp) _
  replace tR := tR.to b2
  replace rz := rz.to b2
  replace HB := Lib.hid (HB.out.trans (b2.mono HB.out.size))
  obtain ⟨V3, eV, u, kp, _⟩ := pack2 tR Fs.nil (.bool (decide (z < 0))) (.slice A3 (dig b32 z.natAbs).length c3)
  obtain ⟨v0, v1, v2, v3, _⟩ := tR
  have EV := Lib.hid eV
  have KP := Lib.hid kp
  have U := Lib.hid u
  have RZ := Lib.hid rz
  clear eV kp u b2 rz
  go_wp2
  rw [EV.out]
  refine bodyPost_ret (v := .agg #[.bool (decide (z < 0)), .slice A3 (dig b32 z.natAbs).length c3]) (by simp [results, Tryz.f19, go_sem, U.out.c0, U.out.c1]) rfl ?_
  rw [HR.out, ez.out]
  exact ⟨_, _, rfl, KP.out.zc _ _ _ RZ.out, KP.out.bel _ _ HB.out (by omega)⟩
end Go.Proofs.YtgkfbhdaheoecaaGreat

namespace Go.Proofs.YtgkfbhdaheoecaaGreat
open Go.RowKit Go.Shelf


/-- What a store into block g, at cells that hold no number, leaves as it was. -/
structure KeptG (g : Nat) (w V : World) : Prop where
  cell : ∀ p : Addr, p.block ≠ g -> V.cell? p = w.cell? p
  froz : ∀ p : Addr, V.frozen? p = w.frozen? p
  zc : ∀ x y z, Zc w x y z -> Zc V x y z
  zi : ∀ x y z, Zi w x y z -> Zi V x y z
  bel : ∀ B w0, Below B w0 w -> B <= g -> Below B w0 V
  size : V.heap.size = w.heap.size
  rd : ∀ A xs, Rd .u32 w w.heap.size A xs -> Rd .u32 V V.heap.size A xs

theorem KeptG.zl {g : Nat} {w V : World} (kp : KeptG g w V) {x y : Value} {z : Int} (h : Zl w x y z) : Zl V x y z := zl_of h (kp.zi _ _ _)
theorem KeptG.qi {g : Nat} {w V : World} (kp : KeptG g w V) {a b c d : Value} {r : Rat} {k : Nat} (h : Qi w a b c d r k) : Qi V a b c d r k := by
  obtain ⟨p, q, h1, h2, h3⟩ := h
  exact ⟨p, q, kp.zl h1, kp.zl h2, h3⟩
theorem KeptG.qc {g : Nat} {w V : World} (kp : KeptG g w V) {a b c d : Value} {r : Rat} (h : Qc w a b c d r) : Qc V a b c d r := ⟨kp.zc _ _ _ h.1, kp.zc _ _ _ h.2⟩
theorem KeptG.up {g : Nat} {w V : World} (kp : KeptG g w V) {a b c d : Value} {r : Rat} {k : Nat} {N D : Int} (h : Up w a b c d r k N D) : Up V a b c d r k N D := ⟨kp.zl h.n, kp.zl h.d, h.pos, h.eq, h.sn, h.sd⟩
theorem KeptG.two {g g' : Nat} {w V : World} (kp : KeptG g w V) {a b : Value} (hne : g' ≠ g) (h : Two w g' a b) : Two V g' a b :=
  ⟨(kp.cell _ hne).trans h.c0, (kp.cell _ hne).trans h.c1, (kp.froz _).trans h.f0, (kp.froz _).trans h.f1, by rw [kp.size]; exact h.lt⟩
theorem KeptG.four {g g' : Nat} {w V : World} (kp : KeptG g w V) {a b c d : Value} (hne : g' ≠ g) (h : Four w g' a b c d) : Four V g' a b c d :=
  ⟨(kp.cell _ hne).trans h.c0, (kp.cell _ hne).trans h.c1, (kp.cell _ hne).trans h.c2, (kp.cell _ hne).trans h.c3, (kp.froz _).trans h.f0, (kp.froz _).trans h.f1, (kp.froz _).trans h.f2, (kp.froz _).trans h.f3, by rw [kp.size]; exact h.lt⟩
theorem KeptG.of4 {w : World} {g : Nat} {a b c d : Value} (t : Four w g a b c d) (f : Fq a b c d) (a' b' c' d' : Value) : KeptG g w (put4 w g a' b' c' d') :=
  ⟨fun _ hp => cell_put4 (a := a) (b := b) (c := c) (d := d) hp _ _ _ _, fun _ => frozen_put4 _ _ _ _, (Kept4.of t f _ _ _ _).zc, (Kept4.of t f _ _ _ _).zi, (Kept4.of t f _ _ _ _).bel, (Kept4.of t f _ _ _ _).size, fun A xs h => by
    rw [size_put4]
    exact Rd.put4 t f.1.nint.1 f.1.nint.2 f.2.nint.1 f.2.nint.2 h _ _ _ _⟩
theorem cell_far2 {w : World} {g : Nat} {u v : Value} {p : Addr} (hp : p.block ≠ g) : ((w.setCell ⟨g, 0, none⟩ u).setCell ⟨g, 1, none⟩ v).cell? p = w.cell? p := by
  rw [World.cell?_setCell_other _ _ _ _ (by intro e; exact hp (by rw [<- e])), World.cell?_setCell_other _ _ _ _ (by intro e; exact hp (by rw [<- e]))]
theorem KeptG.of2 {w : World} {g : Nat} {a b : Value} (t : Two w g a b) (f : Fs a b) (a' b' : Value) : KeptG g w ((w.setCell ⟨g, 0, none⟩ a').setCell ⟨g, 1, none⟩ b') := by
  have k := Kept.of t f.nint.1 f.nint.2 a' b'
  exact ⟨fun _ hp => cell_far2 hp, fun _ => by rw [World.frozen?_setCell, World.frozen?_setCell], k.zc, k.zi, k.bel, k.size, fun A xs h => by
    have hsz := k.size
    exact (Rd.set2' t f.nint.1 f.nint.2 h _ _).more (by rw [hsz]; exact Nat.le_refl _)⟩

section
variable {ac : Act} {w : World} {K : Act -> World -> Prop} {Q : Exit -> Act -> World -> Prop} {d : Option Tmp} {ty : TypeId} {pos : String} {after : Array Edge} {guard : Option (Nat × Bool)}
theorem wp_store_z {g : Nat} {x y x0 y0 : Value} {p v : Operand} (hp : ac.eval p = .pointer (some ⟨g, 0, none⟩)) (hv : ac.eval v = .agg #[x, y]) (t : Two w g x0 y0) (f0 : Fs x0 y0) (f1 : Fs x y)
    (h : ∀ V : World, Two V g x y -> KeptG g w V -> K (ac.put d undef) V) :
    Oper.wp Tryz.prog ⟨d, .store 24 p v, ty, pos, after, guard⟩ ac w K Q := by
  have h1 := h _ (t.set _ _) (KeptG.of2 t f0 _ _)
  obtain ⟨n1, A1, k1, c1, rfl, rfl⟩ := f1
  have u0 := t.c0
  have u1 := t.c1
  have v0 := t.f0
  have v1 := t.f1
  clear h t
  simp only [Oper.wp, execOp, hp, hv]
  go_simp
  exact h1
theorem wp_store_q {g : Nat} {a b c e a0 b0 c0 e0 : Value} {p v : Operand} (hp : ac.eval p = .pointer (some ⟨g, 0, none⟩)) (hv : ac.eval v = .agg #[a, b, c, e]) (t : Four w g a0 b0 c0 e0) (f0 : Fq a0 b0 c0 e0) (f1 : Fq a b c e)
    (h : ∀ V : World, Four V g a b c e -> KeptG g w V -> K (ac.put d undef) V) :
    Oper.wp Tryz.prog ⟨d, .store 26 p v, ty, pos, after, guard⟩ ac w K Q := by
  have h1 := h _ (t.set a b c e) (KeptG.of4 t f0 a b c e)
  obtain ⟨⟨n1, A1, k1, l1, rfl, rfl⟩, ⟨n2, A2, k2, l2, rfl, rfl⟩⟩ := f1
  have u0 := t.c0
  have u1 := t.c1
  have u2 := t.c2
  have u3 := t.c3
  have v0 := t.f0
  have v1 := t.f1
  have v2 := t.f2
  have v3 := t.f3
  clear h t
  unfold put4 at h1
  simp only [Oper.wp, execOp, hp, hv]
  go_simp
  exact h1
end

/-- A load of a rational's four cells. -/
theorem load_four {W : World} {g t : Nat} {a b c e : Value} {ac : Act} {d : Option Tmp} {ty : TypeId} {pos : String} {after : Array Edge} {guard : Option (Nat × Bool)} (ht : ac.eval (.tmp t) = .pointer (some ⟨g, 0, none⟩)) (h : Four W g a b c e) :
    (execOp ac.eval ⟨d, .load 26 (.tmp t), ty, pos, after, guard⟩).run Tryz.prog W = .ok (.value (.agg #[a, b, c, e])) W := by
  have h0 := h.c0
  have h1 := h.c1
  have h2 := h.c2
  have h3 := h.c3
  simp only [execOp, ht]
  go_simp

end Go.Proofs.YtgkfbhdaheoecaaGreat

namespace Go.Proofs.YtgkfbhdaheoecaaGreat
open Go

section
variable {P : Program} {w W : World} {t kt et : TypeId} {es : Array MapEntry} {c : Nat} {k : Int} {kd : IntKind} {v : Value}
end
end Go.Proofs.YtgkfbhdaheoecaaGreat

namespace Go.Proofs.YtgkfbhdaheoecaaGreat
open Go.RowKit Go.Shelf

end Go.Proofs.YtgkfbhdaheoecaaGreat
