/- The law's divides. -/
import Derived.Test.YtoaghihhobggoaaDv27
import Derived.Test.YtoaghihhobggoaaDv14
set_option linter.unusedVariables false
set_option linter.unusedSimpArgs false
namespace Go.Proofs.Ytoaghihhobggoaa
open Go.RowKit Go.Shelf

/-- A variable that holds an integer of at most 10000 words. -/
structure Zm (W : World) (g : Nat) (x y : Value) (z : Int) : Prop where
  two : Two W g x y
  zl : Zl W x y z
theorem Zm.to {W V : World} {g : Nat} {x y : Value} {z : Int} (h : Zm W g x y z) (hb : Below W.heap.size W V) : Zm V g x y z := ⟨h.two.to hb, h.zl.to hb⟩

theorem Zl.sm {W : World} {x y : Value} {z : Int} (h : Zl W x y z) : Sm 10000 z := by
  obtain ⟨n, A, c, xs, _, _, h3, h4, rfl⟩ := h
  exact Sm.zof h3.dg h4
theorem Sm.gcd {k : Nat} {a b : Int} (ha : Sm k a) (hb : Sm k b) : Sm k ((Int.gcd a b : Nat) : Int) := by
  unfold Sm at *
  rw [Int.natAbs_natCast]
  unfold Int.gcd
  rcases Nat.eq_zero_or_pos a.natAbs with h | h
  · rw [h, Nat.gcd_zero_left]; exact hb
  · exact Nat.lt_of_le_of_lt (Nat.gcd_le_left _ h) ha
theorem Sm.emod {k : Nat} {a b : Int} (hb : Sm k b) (h0 : b ≠ 0) : Sm k (a % b) := by
  unfold Sm at *
  have h1 := Int.emod_nonneg a h0
  have h2 := Int.emod_lt a h0
  omega
theorem Sm.ediv {k : Nat} {a b : Int} (ha : Sm k a) : Sm k (a / b) := by
  unfold Sm at *
  exact Nat.lt_of_le_of_lt (Int.natAbs_ediv_le_natAbs a b) ha
theorem sgn_zero (z : Int) : sgn z = 0 ↔ z = 0 := by
  unfold sgn
  repeat' split
  all_goals omega
theorem sgv {w : World} {x y : Value} {a v : Int} (h : Zi w x y a) (hv : sgn a = v) : Calls Try.prog 29 #[.agg #[x, y]] w fun e w' => e = .returned (.int .i64 v) ∧ Below w.heap.size w w' := by
  subst hv; exact sign_z h
theorem cmv {w : World} {x y x' y' : Value} {a b v : Int} (h : Zi w x y a) (h' : Zi w x' y' b) (hv : cmpZ a b = v) : Calls Try.prog 31 #[.agg #[x, y], .agg #[x', y']] w fun e w' => e = .returned (.int .i64 v) ∧ Below w.heap.size w w' := by
  subst hv; exact cmp_z h h'

set_option maxRecDepth 100000 in
set_option maxHeartbeats 8000000 in
theorem divides_0 {w : World} {x y x' y' : Value} {d a : Int} (hd : Zl w x y d) (ha : Zl w x' y' a) (h0 : d = 0) {v : Bool} (hv : decide (d ∣ a) = v) :
    Calls Try.prog 41 #[.agg #[x, y], .agg #[x', y']] w fun e w' => e = .returned (.bool v) ∧ Below w.heap.size w w' := by
  obtain ⟨W0, hW0⟩ : ∃ W0, W0 = (w.alloc (.cells #[x, y] 24)).alloc (.cells #[x', y'] 24) := ⟨_, rfl⟩
  have hb : Below w.heap.size w W0 := by rw [hW0]; exact ((Below.refl _ _).alloc (Nat.le_refl _) _).alloc (by simp) _
  have D : Zm W0 w.heap.size x y d := ⟨by rw [hW0]; exact (Two.new w _ _ _).alloc _, hd.to hb⟩
  have A : Zm W0 (w.heap.size + 1) x' y' a := ⟨by
    have h := Two.new (w.alloc (.cells #[x, y] 24)) x' y' 24
    rw [World.size_alloc] at h
    rw [hW0]; exact h, ha.to hb⟩
  have HW0 := Lib.hid hW0
  have HB0 := Lib.hid hb
  clear hd ha hW0 hb
  have hs : sgn d = 0 := by rw [h0]; rfl
  obtain ⟨s, es⟩ : ∃ s, Hid (sgn a = s) := ⟨_, rfl⟩
  have HV : Hid ((s == 0) = v) := by
    show _ = _
    rw [← hv, ← es.out, h0, Bool.eq_iff_iff, beq_iff_eq, decide_eq_true_iff, sgn_zero, Int.zero_dvd]
  clear hv h0
  go_enter Try.func41, Try.ntmps41
  go_wp2_with fail
  rw [← HW0.out]
  refine (sgv D.zl.zi hs).mono ?_
  rintro e W1 ⟨rfl, HB⟩
  replace A := A.to HB
  replace HB0 := Lib.hid (HB0.out.trans (HB.mono HB0.out.size))
  clear HB
  clear D HW0 hs
  have q1 := A.two.c0
  have q2 := A.two.c1
  go_wp2_with fail
  refine (sgv A.zl.zi es.out).mono ?_
  rintro e W2 ⟨rfl, HB⟩
  replace HB0 := Lib.hid (HB0.out.trans (HB.mono HB0.out.size))
  clear HB
  clear A q1 q2
  go_wp2
  go_ret
  exact ⟨by rw [← HV.out]; rfl, HB0.out⟩

set_option maxRecDepth 100000 in
set_option maxHeartbeats 8000000 in
theorem divides_n {w : World} {x y x' y' : Value} {d a : Int} (hd : Zl w x y d) (ha : Zl w x' y' a) (h0 : d ≠ 0) {v : Bool} (hv : decide (d ∣ a) = v) :
    Calls Try.prog 41 #[.agg #[x, y], .agg #[x', y']] w fun e w' => e = .returned (.bool v) ∧ Below w.heap.size w w' := by
  obtain ⟨W0, hW0⟩ : ∃ W0, W0 = (w.alloc (.cells #[x, y] 24)).alloc (.cells #[x', y'] 24) := ⟨_, rfl⟩
  have hb : Below w.heap.size w W0 := by rw [hW0]; exact ((Below.refl _ _).alloc (Nat.le_refl _) _).alloc (by simp) _
  have D : Zm W0 w.heap.size x y d := ⟨by rw [hW0]; exact (Two.new w _ _ _).alloc _, hd.to hb⟩
  have A : Zm W0 (w.heap.size + 1) x' y' a := ⟨by
    have h := Two.new (w.alloc (.cells #[x, y] 24)) x' y' 24
    rw [World.size_alloc] at h
    rw [hW0]; exact h, ha.to hb⟩
  have HW0 := Lib.hid hW0
  have HB0 := Lib.hid hb
  clear hd ha hW0 hb
  obtain ⟨s, es⟩ : ∃ s, Hid (sgn d = s) := ⟨_, rfl⟩
  have hs : (s == 0) = false := by
    rw [← es.out, beq_eq_false_iff_ne]
    exact fun h => h0 ((sgn_zero d).1 h)
  obtain ⟨q, eq⟩ : ∃ q : Int, Hid (a / d = q) := ⟨_, rfl⟩
  obtain ⟨r, er⟩ : ∃ r : Int, Hid (a % d = r) := ⟨_, rfl⟩
  have SR : Sm 10000 r := by rw [← er.out]; exact D.zl.sm.emod h0
  have hdm : ∀ V, Below W0.heap.size W0 V → Calls Try.prog 33 #[.agg #[x', y'], .agg #[x, y]] V (ZE V q r 0) := by
    intro V hV
    have h := dm_x (A.zl.to hV) (D.zl.to hV)
    unfold dr de at h
    rw [if_neg h0, if_neg h0, eq.out, er.out] at h
    exact h
  have HDM := Lib.hid hdm
  obtain ⟨t, et⟩ : ∃ t, Hid (sgn r = t) := ⟨_, rfl⟩
  have HV : Hid ((t == 0) = v) := by
    show _ = _
    rw [← hv, ← et.out, ← er.out, Bool.eq_iff_iff, beq_iff_eq, decide_eq_true_iff, sgn_zero, Int.dvd_iff_emod_eq_zero]
  clear hv hdm h0
  go_enter Try.func41, Try.ntmps41
  go_wp2_with fail
  rw [← HW0.out]
  refine (sgv D.zl.zi es.out).mono ?_
  rintro e W1 ⟨rfl, HB⟩
  have HDM1 := Lib.hid (HDM.out W1 HB)
  replace A := A.to HB
  replace D := D.to HB
  replace HB0 := Lib.hid (HB0.out.trans (HB.mono HB0.out.size))
  clear HB
  clear HDM HW0
  have q1 := A.two.c0
  have q2 := A.two.c1
  have q3 := D.two.c0
  have q4 := D.two.c1
  go_wp2_with fail
  refine HDM1.out.mono ?_
  rintro e W3 ⟨_, _, _, _, rfl, ⟨Aq, cq, rfl, rfl, a1, a2, a3⟩, ⟨Ar, cr, rfl, rfl, b1, b2, b3⟩, HB⟩
  have RR : Hid (Zc W3 (.bool (decide (r < 0))) (.slice Ar (dig b32 r.natAbs).length cr) r) := ⟨Ar, cr, rfl, rfl, b1, b2, b3⟩
  clear q1 q2 q3 q4 a1 a2 a3 b1 b2 b3 HDM1 A D
  replace HB0 := Lib.hid (HB0.out.trans (HB.mono HB0.out.size))
  clear HB
  obtain ⟨W4, hW4⟩ : ∃ W4, W4 = (W3.alloc (.cells #[.bool (decide (q < 0)), .slice Aq (dig b32 q.natAbs).length cq] 24)).alloc (.cells #[.bool (decide (r < 0)), .slice Ar (dig b32 r.natAbs).length cr] 24) := ⟨_, rfl⟩
  have HB : Below W3.heap.size W3 W4 := by rw [hW4]; exact ((Below.refl _ _).alloc (Nat.le_refl _) _).alloc (by simp) _
  have RZ := Lib.hid ((Zc.to RR.out HB).zi SR (by decide))
  replace HB0 := Lib.hid (HB0.out.trans (HB.mono HB0.out.size))
  clear HB
  have HW4 := Lib.hid hW4
  clear hW4 RR SR hs
  go_wp2_with fail
  rw [← HW4.out]
  refine (sgv RZ.out et.out).mono ?_
  rintro e W5 ⟨rfl, HB⟩
  replace HB0 := Lib.hid (HB0.out.trans (HB.mono HB0.out.size))
  clear HB
  clear HW4
  go_wp2
  go_ret
  exact ⟨by rw [← HV.out]; rfl, HB0.out⟩

theorem dvz {w : World} {x y x' y' : Value} {d a : Int} (hd : Zl w x y d) (ha : Zl w x' y' a) {v : Bool} (hv : decide (d ∣ a) = v) :
    Calls Try.prog 41 #[.agg #[x, y], .agg #[x', y']] w fun e w' => e = .returned (.bool v) ∧ Below w.heap.size w w' := by
  by_cases h : d = 0
  · exact divides_0 hd ha h hv
  · exact divides_n hd ha h hv
end Go.Proofs.Ytoaghihhobggoaa
