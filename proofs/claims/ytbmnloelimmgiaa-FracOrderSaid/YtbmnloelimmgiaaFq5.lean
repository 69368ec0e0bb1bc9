/- Parts: DivMod, Ops, MulMath, Buf. -/
import Derived.Test.YtbmnloelimmgiaaFq1
import Derived.Test.YtbmnloelimmgiaaFq3
import Derived.Test.YtbmnloelimmgiaaFq4
import Derived.Deep.RegionHeld3
set_option linter.unusedVariables false
set_option linter.unusedSimpArgs false

namespace Go.Proofs.Ytbmnloelimmgiaa
set_option maxRecDepth 100000
open Go.RowKit Go.Shelf

theorem divide_small {A A' : Option Addr} {c c' : Nat} {xs ys : List Nat} {w : World} (hx : Arg w A c xs) (hy : Arg w A' c' ys) (h0 : 0 < val b32 ys) (hl : (trimL xs).length ≤ 2) :
    Calls Try.prog 57 #[.slice A (trimL xs).length c, .slice A' (trimL ys).length c'] w (DivRet w (val b32 xs / val b32 ys) (val b32 xs % val b32 ys)) := by
  have tt : ∀ {zs : List Nat}, Dg b32 zs → trimL (trimL zs) = trimL zs := fun h => by rw [trimL_dig b32_one h, trimL_of_dig b32_one]
  have hxt := hx.trim
  have hyt := hy.trim
  rw [← val_trimL (b := b32) xs, ← val_trimL (b := b32) ys]
  rw [← val_trimL (b := b32) ys] at h0
  rcases Nat.lt_or_ge (val b32 (trimL xs)) (val b32 (trimL ys)) with h | h
  · exact divide_less hxt hyt (tt hx.dg) (tt hy.dg) h
  · refine divide_two hxt hyt (tt hx.dg) (tt hy.dg) h h0 hl ?_
    have h1 := val_lt hxt.dg
    have h2 : b32 ^ (trimL xs).length ≤ b32 ^ 2 := Nat.pow_le_pow_right (by decide) hl
    rw [trimL_dig b32_one hy.dg]
    rw [val_trimL] at h h1
    rw [val_trimL] at h
    exact dig_length_le b32_one (by omega)

/-- What DivMod promises where the divisor is not 0. -/
def DRet (w : World) (q r : Int) (e : Ending) (w' : World) : Prop := ∃ A1 c1 A2 c2, e = .returned (.tuple #[.agg #[.bool (decide (q < 0)), .slice A1 (dig b32 q.natAbs).length c1], .agg #[.bool (decide (r < 0)), .slice A2 (dig b32 r.natAbs).length c2], .int .i64 0]) ∧
  Rd .u32 w' w'.heap.size A1 (dig b32 q.natAbs) ∧ Rd .u32 w' w'.heap.size A2 (dig b32 r.natAbs) ∧ (dig b32 q.natAbs).length ≤ c1 ∧ c1 ≤ 9223372036854775807 ∧ (dig b32 r.natAbs).length ≤ c2 ∧ c2 ≤ 9223372036854775807 ∧ Below w.heap.size w w'

theorem Rd.set2 {kd : IntKind} {w : World} {B g : Nat} {A : Option Addr} {xs : List Nat} {x : Bool} {A0 : Option Addr} {n0 c0 : Nat} (t : Two w g (.bool x) (.slice A0 n0 c0)) (h : Rd kd w B A xs) (a b : Value) : Rd kd ((w.setCell ⟨g, 0, none⟩ a).setCell ⟨g, 1, none⟩ b) B A xs := by
  have h1 : (w.setCell ⟨g, 0, none⟩ a).cell? ⟨g, 1, none⟩ = some (.slice A0 n0 c0) := (World.cell?_setCell_other _ _ _ _ (by simp)).trans t.c1
  exact (h.set t.c0 (fun n e => by cases e) a).set h1 (fun n e => by cases e) b

theorem Two.far {w : World} {g g' : Nat} {a b : Value} (t : Two w g a b) (hne : g ≠ g') (u v : Value) : Two ((w.setCell ⟨g', 0, none⟩ u).setCell ⟨g', 1, none⟩ v) g a b := by
  refine ⟨?_, ?_, ?_, ?_, by simpa [World.setCell] using t.lt⟩
  · rw [World.cell?_setCell_other _ _ _ _ (by simp), World.cell?_setCell_other _ _ _ _ (by simp)]; exact t.c0
  · rw [World.cell?_setCell_other _ _ _ _ (by simp), World.cell?_setCell_other _ _ _ _ (by simp)]; exact t.c1
  · rw [World.frozen?_setCell, World.frozen?_setCell]; exact t.f0
  · rw [World.frozen?_setCell, World.frozen?_setCell]; exact t.f1

/-- Two integers that are stored into two results' cells and handed back. -/
theorem dret_stored {w w3 : World} {g g' : Nat} {x x' : Bool} {A0 A0' : Option Addr} {n0 c0 n0' c0' : Nat} {q r : Int} {A1 A2 : Option Addr} {c1 c2 : Nat} (t : Two w3 g (.bool x) (.slice A0 n0 c0)) (t' : Two w3 g' (.bool x') (.slice A0' n0' c0')) (hne : g ≠ g')
    (hg : w.heap.size ≤ g) (hg' : w.heap.size ≤ g') (h1 : Rd .u32 w3 w3.heap.size A1 (dig b32 q.natAbs)) (h2 : Rd .u32 w3 w3.heap.size A2 (dig b32 r.natAbs)) (l1 : (dig b32 q.natAbs).length ≤ c1) (m1 : c1 ≤ 9223372036854775807) (l2 : (dig b32 r.natAbs).length ≤ c2) (m2 : c2 ≤ 9223372036854775807) (hb : Below w.heap.size w w3) :
    DRet w q r (.returned (.tuple #[.agg #[.bool (decide (q < 0)), .slice A1 (dig b32 q.natAbs).length c1], .agg #[.bool (decide (r < 0)), .slice A2 (dig b32 r.natAbs).length c2], .int .i64 0]))
      ((((w3.setCell ⟨g, 0, none⟩ (.bool (decide (q < 0)))).setCell ⟨g, 1, none⟩ (.slice A1 (dig b32 q.natAbs).length c1)).setCell ⟨g', 0, none⟩ (.bool (decide (r < 0)))).setCell ⟨g', 1, none⟩ (.slice A2 (dig b32 r.natAbs).length c2)) := by
  have t2 := t'.far hne.symm (.bool (decide (q < 0))) (.slice A1 (dig b32 q.natAbs).length c1)
  refine ⟨A1, c1, A2, c2, rfl, ?_, ?_, l1, m1, l2, m2, (((hb.setCell (p := ⟨g, 0, none⟩) hg _).setCell (p := ⟨g, 1, none⟩) hg _).setCell (p := ⟨g', 0, none⟩) hg' _).setCell (p := ⟨g', 1, none⟩) hg' _⟩
  · exact (Rd.set2 t2 (Rd.set2 t h1 _ _) _ _).more (by simp [World.setCell])
  · exact (Rd.set2 t2 (Rd.set2 t h2 _ _) _ _).more (by simp [World.setCell])

set_option maxHeartbeats 2000000 in
theorem dm_ff {A A' : Option Addr} {c c' : Nat} {xs ys : List Nat} {w : World} (hx : Arg w A c xs) (hy : Arg w A' c' ys) (hxl : (trimL xs).length ≤ 2) (h0 : 0 < val b32 ys) :
    Calls Try.prog 36 #[.agg #[.bool false, .slice A xs.length c], .agg #[.bool false, .slice A' ys.length c']] w (DRet w (zof false (val b32 xs / val b32 ys)) ((val b32 xs % val b32 ys : Nat) : Int)) := by
  have HX := Lib.hid hx
  have HY := Lib.hid hy
  have H0 := Lib.hid h0
  have hlen : ((trimL ys).length = 0) ↔ val b32 ys = 0 := by
    rw [trimL_dig b32_one hy.dg]
    exact ⟨fun h => (dig_nil b32_one).1 (List.eq_nil_of_length_eq_zero h), fun h => by rw [h]; rfl⟩
  have hq : ((((trimL ys).length : Nat) : Int) == 0) = false := by
    have : (trimL ys).length ≠ 0 := fun h => by have := hlen.1 h; omega
    rw [beq_eq_false_iff_ne]; omega
  clear hx hy h0 hlen
  obtain ⟨W0, hW0⟩ : ∃ W0, W0 = (((w.alloc (.cells #[.bool false, .slice A xs.length c] 24)).alloc (.cells #[.bool false, .slice A' ys.length c'] 24)).alloc (.cells #[.bool false, .slice none 0 0] 24)).alloc (.cells #[.bool false, .slice none 0 0] 24) := ⟨_, rfl⟩
  have hb : Below w.heap.size w W0 := by rw [hW0]; exact ((((Below.refl _ _).alloc (Nat.le_refl _) _).alloc (by simp) _).alloc (by simp; omega) _).alloc (by simp; omega) _
  have tX : Zat W0 w.heap.size (.bool false) (.slice A xs.length c) := by rw [hW0]; exact (((Zat.new w _ _).alloc _).alloc _).alloc _
  have tY : Zat W0 (w.heap.size + 1) (.bool false) (.slice A' ys.length c') := by
    have h := Zat.new (w.alloc (.cells #[.bool false, .slice A xs.length c] 24)) (.bool false) (.slice A' ys.length c')
    rw [World.size_alloc] at h
    rw [hW0]; exact (h.alloc _).alloc _
  have tQ : Zat W0 (w.heap.size + 1 + 1) (.bool false) (.slice none 0 0) := by
    have h := Zat.new ((w.alloc (.cells #[.bool false, .slice A xs.length c] 24)).alloc (.cells #[.bool false, .slice A' ys.length c'] 24)) (.bool false) (.slice none 0 0)
    rw [World.size_alloc, World.size_alloc] at h
    rw [hW0]; exact h.alloc _
  have tR : Zat W0 (w.heap.size + 1 + 1 + 1) (.bool false) (.slice none 0 0) := by
    have h := Zat.new (((w.alloc (.cells #[.bool false, .slice A xs.length c] 24)).alloc (.cells #[.bool false, .slice A' ys.length c'] 24)).alloc (.cells #[.bool false, .slice none 0 0] 24)) (.bool false) (.slice none 0 0)
    rw [World.size_alloc, World.size_alloc, World.size_alloc] at h
    rw [hW0]; exact h
  have q1 := tX.two.c1
  have q2 := tY.two.c1
  have HW0 := Lib.hid hW0
  clear hW0
  go_enter Try.func36, Try.ntmps36
  go_wp2_with fail
  rw [← HW0.out]
  go_quiet ((first | (go_at_call 45; with_reducible exact Calls.quiet_of_same (trim_q (HX.out.to (hb.trans (bel_drewN (Below.refl _ _) _))))) | (go_at_call 45; with_reducible exact Calls.quiet_of_same (trim_q (HY.out.to (hb.trans (bel_drewN (Below.refl _ _) _)))))))
  rename_i nq
  have hb1 : Below w.heap.size w (W0.drewN nq) := bel_drewN hb _
  have tX1 : Two (W0.drewN nq) w.heap.size _ _ := tX.two.to (bel_drewN (Below.refl _ _) _)
  have tY1 : Two (W0.drewN nq) (w.heap.size + 1) _ _ := tY.two.to (bel_drewN (Below.refl _ _) _)
  have tQ1 : Two (W0.drewN nq) (w.heap.size + 1 + 1) _ _ := tQ.two.to (bel_drewN (Below.refl _ _) _)
  have tR1 : Two (W0.drewN nq) (w.heap.size + 1 + 1 + 1) _ _ := tR.two.to (bel_drewN (Below.refl _ _) _)
  generalize W0.drewN nq = W1 at hb1 tX1 tY1 tQ1 tR1 ⊢
  clear q1 q2 tX tY tQ tR hb HW0
  go_wp2_with fail
  refine (divide_small (HX.out.to hb1) (HY.out.to hb1) H0.out hxl).mono ?_
  rintro e w2 ⟨A1, c1, rs, A2, c2, rfl, r1, r2, r3, r4, r5, r6, r7, r8, r9, hb2⟩
  have hb3 := hb1.trans (hb2.mono hb1.size)
  have tX2 := tX1.to hb2
  have tY2 := tY1.to hb2
  have tQ2 := tQ1.to hb2
  have tR2 := tR1.to hb2
  have R4 := Lib.hid r4
  have AR := Lib.hid (⟨r2, r3, r7, r8, r9⟩ : Arg w2 A2 c2 rs)
  have R1 := Lib.hid r1
  have hql : (dig b32 (val b32 xs / val b32 ys)).length ≤ 4294967295 := by
    have h := dig_length_le b32_one (n := val b32 xs / val b32 ys) (k := xs.length) (Nat.lt_of_le_of_lt (Nat.div_le_self _ _) (val_lt HX.out.dg))
    have := HX.out.small
    omega
  have AQ := Lib.hid (⟨r1, Dg_dig b32_one _, r5, r6, hql⟩ : Arg w2 A1 c1 (dig b32 (val b32 xs / val b32 ys)))
  clear r1 r2 r4 hb1 hb2 tX1 tY1 tQ1 tR1
  have p1 := tX2.c0
  have p2 := tY2.c0
  have I1 := Lib.hid (integer_l false R1.out (Dg_dig b32_one _) r5 r6)
  rw [val_dig b32_one] at I1
  obtain ⟨q, eq⟩ : ∃ q : Int, Hid (zof false (val b32 xs / val b32 ys) = q) := ⟨_, rfl⟩
  rw [eq.out] at I1
  go_wp2_with fail
  refine I1.out.mono ?_
  rintro e w5 ⟨A5, c5, rfl, s1, s2, s3, hb10⟩
  have hb11 := hb3.trans (hb10.mono hb3.size)
  have tQ5 := tQ2.to hb10
  have tR5 := tR2.to hb10
  have I2 := Lib.hid (integer_l false (AR.out.rd.to hb10) r3 r7 r8)
  rw [R4.out] at I2
  obtain ⟨r, er⟩ : ∃ r : Int, Hid (zof false (val b32 xs % val b32 ys) = r) := ⟨_, rfl⟩
  rw [er.out] at I2
  have S1 := Lib.hid s1
  clear s1 hb10 hb3 tQ2 tR2
  go_wp2_with fail
  refine I2.out.mono ?_
  rintro e w6 ⟨A6, c6, rfl, v1, v2, v3, hb12⟩
  have HB := Lib.hid (hb11.trans (hb12.mono hb11.size))
  have TQ := Lib.hid (tQ5.to hb12)
  have TR := Lib.hid (tR5.to hb12)
  obtain ⟨g1, g2, g3, g4, g5⟩ := tQ5.to hb12
  obtain ⟨k1, k2, k3, k4, k5⟩ := tR5.to hb12
  have S3 := Lib.hid (S1.out.to hb12)
  have V3 := Lib.hid v1
  clear v1 hb12 hb11 tQ5 tR5 p1 p2
  go_wp2
  have tF := TQ.out.set (.bool (decide (q < 0))) (.slice A5 (dig b32 q.natAbs).length c5)
  have tG := (TR.out.far (g' := w.heap.size + 1 + 1) (by omega) (.bool (decide (q < 0))) (.slice A5 (dig b32 q.natAbs).length c5)).set (.bool (decide (r < 0))) (.slice A6 (dig b32 r.natAbs).length c6)
  have tH := tF.far (g' := w.heap.size + 1 + 1 + 1) (by omega) (.bool (decide (r < 0))) (.slice A6 (dig b32 r.natAbs).length c6)
  refine bodyPost_ret (v := .tuple #[.agg #[.bool (decide (q < 0)), .slice A5 (dig b32 q.natAbs).length c5], .agg #[.bool (decide (r < 0)), .slice A6 (dig b32 r.natAbs).length c6], .int .i64 0])
    (by simp [results, Try.f36, go_sem, tH.c0, tH.c1, tG.c0, tG.c1]) rfl ?_
  rw [eq.out, show (((val b32 xs % val b32 ys : Nat) : Int)) = r from er.out]
  exact dret_stored TQ.out TR.out (by omega) (by omega) (by omega) S3.out V3.out s2 s3 v2 v3 HB.out

set_option maxHeartbeats 2000000 in
theorem dm_ft {A A' : Option Addr} {c c' : Nat} {xs ys : List Nat} {w : World} (hx : Arg w A c xs) (hy : Arg w A' c' ys) (hxl : (trimL xs).length ≤ 2) (h0 : 0 < val b32 ys) :
    Calls Try.prog 36 #[.agg #[.bool false, .slice A xs.length c], .agg #[.bool true, .slice A' ys.length c']] w (DRet w (zof true (val b32 xs / val b32 ys)) ((val b32 xs % val b32 ys : Nat) : Int)) := by
  have HX := Lib.hid hx
  have HY := Lib.hid hy
  have H0 := Lib.hid h0
  have hlen : ((trimL ys).length = 0) ↔ val b32 ys = 0 := by
    rw [trimL_dig b32_one hy.dg]
    exact ⟨fun h => (dig_nil b32_one).1 (List.eq_nil_of_length_eq_zero h), fun h => by rw [h]; rfl⟩
  have hq : ((((trimL ys).length : Nat) : Int) == 0) = false := by
    have : (trimL ys).length ≠ 0 := fun h => by have := hlen.1 h; omega
    rw [beq_eq_false_iff_ne]; omega
  clear hx hy h0 hlen
  obtain ⟨W0, hW0⟩ : ∃ W0, W0 = (((w.alloc (.cells #[.bool false, .slice A xs.length c] 24)).alloc (.cells #[.bool true, .slice A' ys.length c'] 24)).alloc (.cells #[.bool false, .slice none 0 0] 24)).alloc (.cells #[.bool false, .slice none 0 0] 24) := ⟨_, rfl⟩
  have hb : Below w.heap.size w W0 := by rw [hW0]; exact ((((Below.refl _ _).alloc (Nat.le_refl _) _).alloc (by simp) _).alloc (by simp; omega) _).alloc (by simp; omega) _
  have tX : Zat W0 w.heap.size (.bool false) (.slice A xs.length c) := by rw [hW0]; exact (((Zat.new w _ _).alloc _).alloc _).alloc _
  have tY : Zat W0 (w.heap.size + 1) (.bool true) (.slice A' ys.length c') := by
    have h := Zat.new (w.alloc (.cells #[.bool false, .slice A xs.length c] 24)) (.bool true) (.slice A' ys.length c')
    rw [World.size_alloc] at h
    rw [hW0]; exact (h.alloc _).alloc _
  have tQ : Zat W0 (w.heap.size + 1 + 1) (.bool false) (.slice none 0 0) := by
    have h := Zat.new ((w.alloc (.cells #[.bool false, .slice A xs.length c] 24)).alloc (.cells #[.bool true, .slice A' ys.length c'] 24)) (.bool false) (.slice none 0 0)
    rw [World.size_alloc, World.size_alloc] at h
    rw [hW0]; exact h.alloc _
  have tR : Zat W0 (w.heap.size + 1 + 1 + 1) (.bool false) (.slice none 0 0) := by
    have h := Zat.new (((w.alloc (.cells #[.bool false, .slice A xs.length c] 24)).alloc (.cells #[.bool true, .slice A' ys.length c'] 24)).alloc (.cells #[.bool false, .slice none 0 0] 24)) (.bool false) (.slice none 0 0)
    rw [World.size_alloc, World.size_alloc, World.size_alloc] at h
    rw [hW0]; exact h
  have q1 := tX.two.c1
  have q2 := tY.two.c1
  have HW0 := Lib.hid hW0
  clear hW0
  go_enter Try.func36, Try.ntmps36
  go_wp2_with fail
  rw [← HW0.out]
  go_quiet ((first | (go_at_call 45; with_reducible exact Calls.quiet_of_same (trim_q (HX.out.to (hb.trans (bel_drewN (Below.refl _ _) _))))) | (go_at_call 45; with_reducible exact Calls.quiet_of_same (trim_q (HY.out.to (hb.trans (bel_drewN (Below.refl _ _) _)))))))
  rename_i nq
  have hb1 : Below w.heap.size w (W0.drewN nq) := bel_drewN hb _
  have tX1 : Two (W0.drewN nq) w.heap.size _ _ := tX.two.to (bel_drewN (Below.refl _ _) _)
  have tY1 : Two (W0.drewN nq) (w.heap.size + 1) _ _ := tY.two.to (bel_drewN (Below.refl _ _) _)
  have tQ1 : Two (W0.drewN nq) (w.heap.size + 1 + 1) _ _ := tQ.two.to (bel_drewN (Below.refl _ _) _)
  have tR1 : Two (W0.drewN nq) (w.heap.size + 1 + 1 + 1) _ _ := tR.two.to (bel_drewN (Below.refl _ _) _)
  generalize W0.drewN nq = W1 at hb1 tX1 tY1 tQ1 tR1 ⊢
  clear q1 q2 tX tY tQ tR hb HW0
  go_wp2_with fail
  refine (divide_small (HX.out.to hb1) (HY.out.to hb1) H0.out hxl).mono ?_
  rintro e w2 ⟨A1, c1, rs, A2, c2, rfl, r1, r2, r3, r4, r5, r6, r7, r8, r9, hb2⟩
  have hb3 := hb1.trans (hb2.mono hb1.size)
  have tX2 := tX1.to hb2
  have tY2 := tY1.to hb2
  have tQ2 := tQ1.to hb2
  have tR2 := tR1.to hb2
  have R4 := Lib.hid r4
  have AR := Lib.hid (⟨r2, r3, r7, r8, r9⟩ : Arg w2 A2 c2 rs)
  have R1 := Lib.hid r1
  have hql : (dig b32 (val b32 xs / val b32 ys)).length ≤ 4294967295 := by
    have h := dig_length_le b32_one (n := val b32 xs / val b32 ys) (k := xs.length) (Nat.lt_of_le_of_lt (Nat.div_le_self _ _) (val_lt HX.out.dg))
    have := HX.out.small
    omega
  have AQ := Lib.hid (⟨r1, Dg_dig b32_one _, r5, r6, hql⟩ : Arg w2 A1 c1 (dig b32 (val b32 xs / val b32 ys)))
  clear r1 r2 r4 hb1 hb2 tX1 tY1 tQ1 tR1
  have p1 := tX2.c0
  have p2 := tY2.c0
  have I1 := Lib.hid (integer_l true R1.out (Dg_dig b32_one _) r5 r6)
  rw [val_dig b32_one] at I1
  obtain ⟨q, eq⟩ : ∃ q : Int, Hid (zof true (val b32 xs / val b32 ys) = q) := ⟨_, rfl⟩
  rw [eq.out] at I1
  go_wp2_with fail
  refine I1.out.mono ?_
  rintro e w5 ⟨A5, c5, rfl, s1, s2, s3, hb10⟩
  have hb11 := hb3.trans (hb10.mono hb3.size)
  have tQ5 := tQ2.to hb10
  have tR5 := tR2.to hb10
  have I2 := Lib.hid (integer_l false (AR.out.rd.to hb10) r3 r7 r8)
  rw [R4.out] at I2
  obtain ⟨r, er⟩ : ∃ r : Int, Hid (zof false (val b32 xs % val b32 ys) = r) := ⟨_, rfl⟩
  rw [er.out] at I2
  have S1 := Lib.hid s1
  clear s1 hb10 hb3 tQ2 tR2
  go_wp2_with fail
  refine I2.out.mono ?_
  rintro e w6 ⟨A6, c6, rfl, v1, v2, v3, hb12⟩
  have HB := Lib.hid (hb11.trans (hb12.mono hb11.size))
  have TQ := Lib.hid (tQ5.to hb12)
  have TR := Lib.hid (tR5.to hb12)
  obtain ⟨g1, g2, g3, g4, g5⟩ := tQ5.to hb12
  obtain ⟨k1, k2, k3, k4, k5⟩ := tR5.to hb12
  have S3 := Lib.hid (S1.out.to hb12)
  have V3 := Lib.hid v1
  clear v1 hb12 hb11 tQ5 tR5 p1 p2
  go_wp2
  have tF := TQ.out.set (.bool (decide (q < 0))) (.slice A5 (dig b32 q.natAbs).length c5)
  have tG := (TR.out.far (g' := w.heap.size + 1 + 1) (by omega) (.bool (decide (q < 0))) (.slice A5 (dig b32 q.natAbs).length c5)).set (.bool (decide (r < 0))) (.slice A6 (dig b32 r.natAbs).length c6)
  have tH := tF.far (g' := w.heap.size + 1 + 1 + 1) (by omega) (.bool (decide (r < 0))) (.slice A6 (dig b32 r.natAbs).length c6)
  refine bodyPost_ret (v := .tuple #[.agg #[.bool (decide (q < 0)), .slice A5 (dig b32 q.natAbs).length c5], .agg #[.bool (decide (r < 0)), .slice A6 (dig b32 r.natAbs).length c6], .int .i64 0])
    (by simp [results, Try.f36, go_sem, tH.c0, tH.c1, tG.c0, tG.c1]) rfl ?_
  rw [eq.out, show (((val b32 xs % val b32 ys : Nat) : Int)) = r from er.out]
  exact dret_stored TQ.out TR.out (by omega) (by omega) (by omega) S3.out V3.out s2 s3 v2 v3 HB.out

set_option maxHeartbeats 2000000 in
theorem dm_tfz {A A' : Option Addr} {c c' : Nat} {xs ys : List Nat} {w : World} (hx : Arg w A c xs) (hy : Arg w A' c' ys) (hxl : (trimL xs).length ≤ 2) (h0 : 0 < val b32 ys) (hm : val b32 xs % val b32 ys = 0) :
    Calls Try.prog 36 #[.agg #[.bool true, .slice A xs.length c], .agg #[.bool false, .slice A' ys.length c']] w (DRet w (zof true (val b32 xs / val b32 ys)) ((val b32 xs % val b32 ys : Nat) : Int)) := by
  have HX := Lib.hid hx
  have HY := Lib.hid hy
  have H0 := Lib.hid h0
  have HM := Lib.hid hm
  have hlen : ((trimL ys).length = 0) ↔ val b32 ys = 0 := by
    rw [trimL_dig b32_one hy.dg]
    exact ⟨fun h => (dig_nil b32_one).1 (List.eq_nil_of_length_eq_zero h), fun h => by rw [h]; rfl⟩
  have hq : ((((trimL ys).length : Nat) : Int) == 0) = false := by
    have : (trimL ys).length ≠ 0 := fun h => by have := hlen.1 h; omega
    rw [beq_eq_false_iff_ne]; omega
  clear hx hy h0 hlen hm
  obtain ⟨W0, hW0⟩ : ∃ W0, W0 = (((w.alloc (.cells #[.bool true, .slice A xs.length c] 24)).alloc (.cells #[.bool false, .slice A' ys.length c'] 24)).alloc (.cells #[.bool false, .slice none 0 0] 24)).alloc (.cells #[.bool false, .slice none 0 0] 24) := ⟨_, rfl⟩
  have hb : Below w.heap.size w W0 := by rw [hW0]; exact ((((Below.refl _ _).alloc (Nat.le_refl _) _).alloc (by simp) _).alloc (by simp; omega) _).alloc (by simp; omega) _
  have tX : Zat W0 w.heap.size (.bool true) (.slice A xs.length c) := by rw [hW0]; exact (((Zat.new w _ _).alloc _).alloc _).alloc _
  have tY : Zat W0 (w.heap.size + 1) (.bool false) (.slice A' ys.length c') := by
    have h := Zat.new (w.alloc (.cells #[.bool true, .slice A xs.length c] 24)) (.bool false) (.slice A' ys.length c')
    rw [World.size_alloc] at h
    rw [hW0]; exact (h.alloc _).alloc _
  have tQ : Zat W0 (w.heap.size + 1 + 1) (.bool false) (.slice none 0 0) := by
    have h := Zat.new ((w.alloc (.cells #[.bool true, .slice A xs.length c] 24)).alloc (.cells #[.bool false, .slice A' ys.length c'] 24)) (.bool false) (.slice none 0 0)
    rw [World.size_alloc, World.size_alloc] at h
    rw [hW0]; exact h.alloc _
  have tR : Zat W0 (w.heap.size + 1 + 1 + 1) (.bool false) (.slice none 0 0) := by
    have h := Zat.new (((w.alloc (.cells #[.bool true, .slice A xs.length c] 24)).alloc (.cells #[.bool false, .slice A' ys.length c'] 24)).alloc (.cells #[.bool false, .slice none 0 0] 24)) (.bool false) (.slice none 0 0)
    rw [World.size_alloc, World.size_alloc, World.size_alloc] at h
    rw [hW0]; exact h
  have q1 := tX.two.c1
  have q2 := tY.two.c1
  have HW0 := Lib.hid hW0
  clear hW0
  go_enter Try.func36, Try.ntmps36
  go_wp2_with fail
  rw [← HW0.out]
  go_quiet ((first | (go_at_call 45; with_reducible exact Calls.quiet_of_same (trim_q (HX.out.to (hb.trans (bel_drewN (Below.refl _ _) _))))) | (go_at_call 45; with_reducible exact Calls.quiet_of_same (trim_q (HY.out.to (hb.trans (bel_drewN (Below.refl _ _) _)))))))
  rename_i nq
  have hb1 : Below w.heap.size w (W0.drewN nq) := bel_drewN hb _
  have tX1 : Two (W0.drewN nq) w.heap.size _ _ := tX.two.to (bel_drewN (Below.refl _ _) _)
  have tY1 : Two (W0.drewN nq) (w.heap.size + 1) _ _ := tY.two.to (bel_drewN (Below.refl _ _) _)
  have tQ1 : Two (W0.drewN nq) (w.heap.size + 1 + 1) _ _ := tQ.two.to (bel_drewN (Below.refl _ _) _)
  have tR1 : Two (W0.drewN nq) (w.heap.size + 1 + 1 + 1) _ _ := tR.two.to (bel_drewN (Below.refl _ _) _)
  generalize W0.drewN nq = W1 at hb1 tX1 tY1 tQ1 tR1 ⊢
  clear q1 q2 tX tY tQ tR hb HW0
  go_wp2_with fail
  refine (divide_small (HX.out.to hb1) (HY.out.to hb1) H0.out hxl).mono ?_
  rintro e w2 ⟨A1, c1, rs, A2, c2, rfl, r1, r2, r3, r4, r5, r6, r7, r8, r9, hb2⟩
  have hb3 := hb1.trans (hb2.mono hb1.size)
  have tX2 := tX1.to hb2
  have tY2 := tY1.to hb2
  have tQ2 := tQ1.to hb2
  have tR2 := tR1.to hb2
  have R4 := Lib.hid r4
  have AR := Lib.hid (⟨r2, r3, r7, r8, r9⟩ : Arg w2 A2 c2 rs)
  have R1 := Lib.hid r1
  have hql : (dig b32 (val b32 xs / val b32 ys)).length ≤ 4294967295 := by
    have h := dig_length_le b32_one (n := val b32 xs / val b32 ys) (k := xs.length) (Nat.lt_of_le_of_lt (Nat.div_le_self _ _) (val_lt HX.out.dg))
    have := HX.out.small
    omega
  have AQ := Lib.hid (⟨r1, Dg_dig b32_one _, r5, r6, hql⟩ : Arg w2 A1 c1 (dig b32 (val b32 xs / val b32 ys)))
  clear r1 r2 r4 hb1 hb2 tX1 tY1 tQ1 tR1
  have p1 := tX2.c0
  have p2 := tY2.c0
  have hrl : (trimL rs).length = 0 := by
    rw [trimL_dig b32_one AR.out.dg, R4.out, HM.out]; rfl
  have HT := Lib.hid (trim_l AR.out)
  rw [hrl] at HT
  clear hrl
  go_wp2_with fail
  refine HT.out.mono ?_
  rintro e w' ⟨rfl, rfl⟩
  have I1 := Lib.hid (integer_l true R1.out (Dg_dig b32_one _) r5 r6)
  rw [val_dig b32_one] at I1
  obtain ⟨q, eq⟩ : ∃ q : Int, Hid (zof true (val b32 xs / val b32 ys) = q) := ⟨_, rfl⟩
  rw [eq.out] at I1
  go_wp2_with fail
  refine I1.out.mono ?_
  rintro e w5 ⟨A5, c5, rfl, s1, s2, s3, hb10⟩
  have hb11 := hb3.trans (hb10.mono hb3.size)
  have tQ5 := tQ2.to hb10
  have tR5 := tR2.to hb10
  have I2 := Lib.hid (integer_l false (AR.out.rd.to hb10) r3 r7 r8)
  rw [R4.out] at I2
  obtain ⟨r, er⟩ : ∃ r : Int, Hid (zof false (val b32 xs % val b32 ys) = r) := ⟨_, rfl⟩
  rw [er.out] at I2
  have S1 := Lib.hid s1
  clear s1 hb10 hb3 tQ2 tR2
  go_wp2_with fail
  refine I2.out.mono ?_
  rintro e w6 ⟨A6, c6, rfl, v1, v2, v3, hb12⟩
  have HB := Lib.hid (hb11.trans (hb12.mono hb11.size))
  have TQ := Lib.hid (tQ5.to hb12)
  have TR := Lib.hid (tR5.to hb12)
  obtain ⟨g1, g2, g3, g4, g5⟩ := tQ5.to hb12
  obtain ⟨k1, k2, k3, k4, k5⟩ := tR5.to hb12
  have S3 := Lib.hid (S1.out.to hb12)
  have V3 := Lib.hid v1
  clear v1 hb12 hb11 tQ5 tR5 p1 p2
  go_wp2
  have tF := TQ.out.set (.bool (decide (q < 0))) (.slice A5 (dig b32 q.natAbs).length c5)
  have tG := (TR.out.far (g' := w.heap.size + 1 + 1) (by omega) (.bool (decide (q < 0))) (.slice A5 (dig b32 q.natAbs).length c5)).set (.bool (decide (r < 0))) (.slice A6 (dig b32 r.natAbs).length c6)
  have tH := tF.far (g' := w.heap.size + 1 + 1 + 1) (by omega) (.bool (decide (r < 0))) (.slice A6 (dig b32 r.natAbs).length c6)
  refine bodyPost_ret (v := .tuple #[.agg #[.bool (decide (q < 0)), .slice A5 (dig b32 q.natAbs).length c5], .agg #[.bool (decide (r < 0)), .slice A6 (dig b32 r.natAbs).length c6], .int .i64 0])
    (by simp [results, Try.f36, go_sem, tH.c0, tH.c1, tG.c0, tG.c1]) rfl ?_
  rw [eq.out, show (((val b32 xs % val b32 ys : Nat) : Int)) = r from er.out]
  exact dret_stored TQ.out TR.out (by omega) (by omega) (by omega) S3.out V3.out s2 s3 v2 v3 HB.out

set_option maxHeartbeats 2000000 in
theorem dm_ttz {A A' : Option Addr} {c c' : Nat} {xs ys : List Nat} {w : World} (hx : Arg w A c xs) (hy : Arg w A' c' ys) (hxl : (trimL xs).length ≤ 2) (h0 : 0 < val b32 ys) (hm : val b32 xs % val b32 ys = 0) :
    Calls Try.prog 36 #[.agg #[.bool true, .slice A xs.length c], .agg #[.bool true, .slice A' ys.length c']] w (DRet w (zof false (val b32 xs / val b32 ys)) ((val b32 xs % val b32 ys : Nat) : Int)) := by
  have HX := Lib.hid hx
  have HY := Lib.hid hy
  have H0 := Lib.hid h0
  have HM := Lib.hid hm
  have hlen : ((trimL ys).length = 0) ↔ val b32 ys = 0 := by
    rw [trimL_dig b32_one hy.dg]
    exact ⟨fun h => (dig_nil b32_one).1 (List.eq_nil_of_length_eq_zero h), fun h => by rw [h]; rfl⟩
  have hq : ((((trimL ys).length : Nat) : Int) == 0) = false := by
    have : (trimL ys).length ≠ 0 := fun h => by have := hlen.1 h; omega
    rw [beq_eq_false_iff_ne]; omega
  clear hx hy h0 hlen hm
  obtain ⟨W0, hW0⟩ : ∃ W0, W0 = (((w.alloc (.cells #[.bool true, .slice A xs.length c] 24)).alloc (.cells #[.bool true, .slice A' ys.length c'] 24)).alloc (.cells #[.bool false, .slice none 0 0] 24)).alloc (.cells #[.bool false, .slice none 0 0] 24) := ⟨_, rfl⟩
  have hb : Below w.heap.size w W0 := by rw [hW0]; exact ((((Below.refl _ _).alloc (Nat.le_refl _) _).alloc (by simp) _).alloc (by simp; omega) _).alloc (by simp; omega) _
  have tX : Zat W0 w.heap.size (.bool true) (.slice A xs.length c) := by rw [hW0]; exact (((Zat.new w _ _).alloc _).alloc _).alloc _
  have tY : Zat W0 (w.heap.size + 1) (.bool true) (.slice A' ys.length c') := by
    have h := Zat.new (w.alloc (.cells #[.bool true, .slice A xs.length c] 24)) (.bool true) (.slice A' ys.length c')
    rw [World.size_alloc] at h
    rw [hW0]; exact (h.alloc _).alloc _
  have tQ : Zat W0 (w.heap.size + 1 + 1) (.bool false) (.slice none 0 0) := by
    have h := Zat.new ((w.alloc (.cells #[.bool true, .slice A xs.length c] 24)).alloc (.cells #[.bool true, .slice A' ys.length c'] 24)) (.bool false) (.slice none 0 0)
    rw [World.size_alloc, World.size_alloc] at h
    rw [hW0]; exact h.alloc _
  have tR : Zat W0 (w.heap.size + 1 + 1 + 1) (.bool false) (.slice none 0 0) := by
    have h := Zat.new (((w.alloc (.cells #[.bool true, .slice A xs.length c] 24)).alloc (.cells #[.bool true, .slice A' ys.length c'] 24)).alloc (.cells #[.bool false, .slice none 0 0] 24)) (.bool false) (.slice none 0 0)
    rw [World.size_alloc, World.size_alloc, World.size_alloc] at h
    rw [hW0]; exact h
  have q1 := tX.two.c1
  have q2 := tY.two.c1
  have HW0 := Lib.hid hW0
  clear hW0
  go_enter Try.func36, Try.ntmps36
  go_wp2_with fail
  rw [← HW0.out]
  go_quiet ((first | (go_at_call 45; with_reducible exact Calls.quiet_of_same (trim_q (HX.out.to (hb.trans (bel_drewN (Below.refl _ _) _))))) | (go_at_call 45; with_reducible exact Calls.quiet_of_same (trim_q (HY.out.to (hb.trans (bel_drewN (Below.refl _ _) _)))))))
  rename_i nq
  have hb1 : Below w.heap.size w (W0.drewN nq) := bel_drewN hb _
  have tX1 : Two (W0.drewN nq) w.heap.size _ _ := tX.two.to (bel_drewN (Below.refl _ _) _)
  have tY1 : Two (W0.drewN nq) (w.heap.size + 1) _ _ := tY.two.to (bel_drewN (Below.refl _ _) _)
  have tQ1 : Two (W0.drewN nq) (w.heap.size + 1 + 1) _ _ := tQ.two.to (bel_drewN (Below.refl _ _) _)
  have tR1 : Two (W0.drewN nq) (w.heap.size + 1 + 1 + 1) _ _ := tR.two.to (bel_drewN (Below.refl _ _) _)
  generalize W0.drewN nq = W1 at hb1 tX1 tY1 tQ1 tR1 ⊢
  clear q1 q2 tX tY tQ tR hb HW0
  go_wp2_with fail
  refine (divide_small (HX.out.to hb1) (HY.out.to hb1) H0.out hxl).mono ?_
  rintro e w2 ⟨A1, c1, rs, A2, c2, rfl, r1, r2, r3, r4, r5, r6, r7, r8, r9, hb2⟩
  have hb3 := hb1.trans (hb2.mono hb1.size)
  have tX2 := tX1.to hb2
  have tY2 := tY1.to hb2
  have tQ2 := tQ1.to hb2
  have tR2 := tR1.to hb2
  have R4 := Lib.hid r4
  have AR := Lib.hid (⟨r2, r3, r7, r8, r9⟩ : Arg w2 A2 c2 rs)
  have R1 := Lib.hid r1
  have hql : (dig b32 (val b32 xs / val b32 ys)).length ≤ 4294967295 := by
    have h := dig_length_le b32_one (n := val b32 xs / val b32 ys) (k := xs.length) (Nat.lt_of_le_of_lt (Nat.div_le_self _ _) (val_lt HX.out.dg))
    have := HX.out.small
    omega
  have AQ := Lib.hid (⟨r1, Dg_dig b32_one _, r5, r6, hql⟩ : Arg w2 A1 c1 (dig b32 (val b32 xs / val b32 ys)))
  clear r1 r2 r4 hb1 hb2 tX1 tY1 tQ1 tR1
  have p1 := tX2.c0
  have p2 := tY2.c0
  have hrl : (trimL rs).length = 0 := by
    rw [trimL_dig b32_one AR.out.dg, R4.out, HM.out]; rfl
  have HT := Lib.hid (trim_l AR.out)
  rw [hrl] at HT
  clear hrl
  go_wp2_with fail
  refine HT.out.mono ?_
  rintro e w' ⟨rfl, rfl⟩
  have I1 := Lib.hid (integer_l false R1.out (Dg_dig b32_one _) r5 r6)
  rw [val_dig b32_one] at I1
  obtain ⟨q, eq⟩ : ∃ q : Int, Hid (zof false (val b32 xs / val b32 ys) = q) := ⟨_, rfl⟩
  rw [eq.out] at I1
  go_wp2_with fail
  refine I1.out.mono ?_
  rintro e w5 ⟨A5, c5, rfl, s1, s2, s3, hb10⟩
  have hb11 := hb3.trans (hb10.mono hb3.size)
  have tQ5 := tQ2.to hb10
  have tR5 := tR2.to hb10
  have I2 := Lib.hid (integer_l false (AR.out.rd.to hb10) r3 r7 r8)
  rw [R4.out] at I2
  obtain ⟨r, er⟩ : ∃ r : Int, Hid (zof false (val b32 xs % val b32 ys) = r) := ⟨_, rfl⟩
  rw [er.out] at I2
  have S1 := Lib.hid s1
  clear s1 hb10 hb3 tQ2 tR2
  go_wp2_with fail
  refine I2.out.mono ?_
  rintro e w6 ⟨A6, c6, rfl, v1, v2, v3, hb12⟩
  have HB := Lib.hid (hb11.trans (hb12.mono hb11.size))
  have TQ := Lib.hid (tQ5.to hb12)
  have TR := Lib.hid (tR5.to hb12)
  obtain ⟨g1, g2, g3, g4, g5⟩ := tQ5.to hb12
  obtain ⟨k1, k2, k3, k4, k5⟩ := tR5.to hb12
  have S3 := Lib.hid (S1.out.to hb12)
  have V3 := Lib.hid v1
  clear v1 hb12 hb11 tQ5 tR5 p1 p2
  go_wp2
  have tF := TQ.out.set (.bool (decide (q < 0))) (.slice A5 (dig b32 q.natAbs).length c5)
  have tG := (TR.out.far (g' := w.heap.size + 1 + 1) (by omega) (.bool (decide (q < 0))) (.slice A5 (dig b32 q.natAbs).length c5)).set (.bool (decide (r < 0))) (.slice A6 (dig b32 r.natAbs).length c6)
  have tH := tF.far (g' := w.heap.size + 1 + 1 + 1) (by omega) (.bool (decide (r < 0))) (.slice A6 (dig b32 r.natAbs).length c6)
  refine bodyPost_ret (v := .tuple #[.agg #[.bool (decide (q < 0)), .slice A5 (dig b32 q.natAbs).length c5], .agg #[.bool (decide (r < 0)), .slice A6 (dig b32 r.natAbs).length c6], .int .i64 0])
    (by simp [results, Try.f36, go_sem, tH.c0, tH.c1, tG.c0, tG.c1]) rfl ?_
  rw [eq.out, show (((val b32 xs % val b32 ys : Nat) : Int)) = r from er.out]
  exact dret_stored TQ.out TR.out (by omega) (by omega) (by omega) S3.out V3.out s2 s3 v2 v3 HB.out

set_option maxHeartbeats 2000000 in
theorem dm_tfn {A A' : Option Addr} {c c' : Nat} {xs ys : List Nat} {w : World} (hx : Arg w A c xs) (hy : Arg w A' c' ys) (hxl : (trimL xs).length ≤ 2) (h0 : 0 < val b32 ys) (hm : 0 < val b32 xs % val b32 ys) :
    Calls Try.prog 36 #[.agg #[.bool true, .slice A xs.length c], .agg #[.bool false, .slice A' ys.length c']] w (DRet w (zof true (val b32 xs / val b32 ys + 1)) ((val b32 ys - val b32 xs % val b32 ys : Nat) : Int)) := by
  have HX := Lib.hid hx
  have HY := Lib.hid hy
  have H0 := Lib.hid h0
  have HM := Lib.hid hm
  have hlen : ((trimL ys).length = 0) ↔ val b32 ys = 0 := by
    rw [trimL_dig b32_one hy.dg]
    exact ⟨fun h => (dig_nil b32_one).1 (List.eq_nil_of_length_eq_zero h), fun h => by rw [h]; rfl⟩
  have hq : ((((trimL ys).length : Nat) : Int) == 0) = false := by
    have : (trimL ys).length ≠ 0 := fun h => by have := hlen.1 h; omega
    rw [beq_eq_false_iff_ne]; omega
  clear hx hy h0 hlen hm
  obtain ⟨W0, hW0⟩ : ∃ W0, W0 = (((w.alloc (.cells #[.bool true, .slice A xs.length c] 24)).alloc (.cells #[.bool false, .slice A' ys.length c'] 24)).alloc (.cells #[.bool false, .slice none 0 0] 24)).alloc (.cells #[.bool false, .slice none 0 0] 24) := ⟨_, rfl⟩
  have hb : Below w.heap.size w W0 := by rw [hW0]; exact ((((Below.refl _ _).alloc (Nat.le_refl _) _).alloc (by simp) _).alloc (by simp; omega) _).alloc (by simp; omega) _
  have tX : Zat W0 w.heap.size (.bool true) (.slice A xs.length c) := by rw [hW0]; exact (((Zat.new w _ _).alloc _).alloc _).alloc _
  have tY : Zat W0 (w.heap.size + 1) (.bool false) (.slice A' ys.length c') := by
    have h := Zat.new (w.alloc (.cells #[.bool true, .slice A xs.length c] 24)) (.bool false) (.slice A' ys.length c')
    rw [World.size_alloc] at h
    rw [hW0]; exact (h.alloc _).alloc _
  have tQ : Zat W0 (w.heap.size + 1 + 1) (.bool false) (.slice none 0 0) := by
    have h := Zat.new ((w.alloc (.cells #[.bool true, .slice A xs.length c] 24)).alloc (.cells #[.bool false, .slice A' ys.length c'] 24)) (.bool false) (.slice none 0 0)
    rw [World.size_alloc, World.size_alloc] at h
    rw [hW0]; exact h.alloc _
  have tR : Zat W0 (w.heap.size + 1 + 1 + 1) (.bool false) (.slice none 0 0) := by
    have h := Zat.new (((w.alloc (.cells #[.bool true, .slice A xs.length c] 24)).alloc (.cells #[.bool false, .slice A' ys.length c'] 24)).alloc (.cells #[.bool false, .slice none 0 0] 24)) (.bool false) (.slice none 0 0)
    rw [World.size_alloc, World.size_alloc, World.size_alloc] at h
    rw [hW0]; exact h
  have q1 := tX.two.c1
  have q2 := tY.two.c1
  have HW0 := Lib.hid hW0
  clear hW0
  go_enter Try.func36, Try.ntmps36
  go_wp2_with fail
  rw [← HW0.out]
  go_quiet ((first | (go_at_call 45; with_reducible exact Calls.quiet_of_same (trim_q (HX.out.to (hb.trans (bel_drewN (Below.refl _ _) _))))) | (go_at_call 45; with_reducible exact Calls.quiet_of_same (trim_q (HY.out.to (hb.trans (bel_drewN (Below.refl _ _) _)))))))
  rename_i nq
  have hb1 : Below w.heap.size w (W0.drewN nq) := bel_drewN hb _
  have tX1 : Two (W0.drewN nq) w.heap.size _ _ := tX.two.to (bel_drewN (Below.refl _ _) _)
  have tY1 : Two (W0.drewN nq) (w.heap.size + 1) _ _ := tY.two.to (bel_drewN (Below.refl _ _) _)
  have tQ1 : Two (W0.drewN nq) (w.heap.size + 1 + 1) _ _ := tQ.two.to (bel_drewN (Below.refl _ _) _)
  have tR1 : Two (W0.drewN nq) (w.heap.size + 1 + 1 + 1) _ _ := tR.two.to (bel_drewN (Below.refl _ _) _)
  generalize W0.drewN nq = W1 at hb1 tX1 tY1 tQ1 tR1 ⊢
  clear q1 q2 tX tY tQ tR hb HW0
  go_wp2_with fail
  refine (divide_small (HX.out.to hb1) (HY.out.to hb1) H0.out hxl).mono ?_
  rintro e w2 ⟨A1, c1, rs, A2, c2, rfl, r1, r2, r3, r4, r5, r6, r7, r8, r9, hb2⟩
  have hb3 := hb1.trans (hb2.mono hb1.size)
  have tX2 := tX1.to hb2
  have tY2 := tY1.to hb2
  have tQ2 := tQ1.to hb2
  have tR2 := tR1.to hb2
  have R4 := Lib.hid r4
  have AR := Lib.hid (⟨r2, r3, r7, r8, r9⟩ : Arg w2 A2 c2 rs)
  have R1 := Lib.hid r1
  have hql : (dig b32 (val b32 xs / val b32 ys)).length ≤ 4294967295 := by
    have h := dig_length_le b32_one (n := val b32 xs / val b32 ys) (k := xs.length) (Nat.lt_of_le_of_lt (Nat.div_le_self _ _) (val_lt HX.out.dg))
    have := HX.out.small
    omega
  have AQ := Lib.hid (⟨r1, Dg_dig b32_one _, r5, r6, hql⟩ : Arg w2 A1 c1 (dig b32 (val b32 xs / val b32 ys)))
  clear r1 r2 r4 hb1 hb2 tX1 tY1 tQ1 tR1
  have p1 := tX2.c0
  have p2 := tY2.c0
  have hrl : (0 : Int) < ((trimL rs).length : Nat) := by
    rcases Nat.eq_zero_or_pos (trimL rs).length with h | h
    · exfalso
      rw [trimL_dig b32_one AR.out.dg, R4.out] at h
      have h1 := (dig_nil b32_one).1 (List.eq_nil_of_length_eq_zero h)
      have h2 := HM.out
      omega
    · omega
  have HT := Lib.hid (trim_l AR.out)
  go_wp2_with fail
  refine HT.out.mono ?_
  rintro e w' ⟨rfl, rfl⟩
  clear HT
  have ho : Arg (w2.alloc (.cells #[.int .u32 1] 73)) (some ⟨w2.heap.size, 0, none⟩) 1 [1] := by
    have h := Rd.new .u32 w2 73 [1]
    exact ⟨by simpa [ints] using h, Dg.one (by decide), by simp, by omega, by simp⟩
  have hb4 : Below w2.heap.size w2 (w2.alloc (.cells #[.int .u32 1] 73)) := (Below.refl _ _).alloc (Nat.le_refl _) _
  have C1 := Lib.hid (combine_l (q := 1) (.inl rfl) (AQ.out.to hb4) ho (by omega))
  have HB4 := Lib.hid hb4
  clear ho hb4
  go_wp2_with fail
  refine C1.out.mono ?_
  rintro e w3 ⟨A3, c3, zs, rfl, u1, u2, u3, u4, u5, u6, hb5⟩
  rw [val_dig b32_one] at u6
  have hb6 := HB4.out.trans (hb5.mono HB4.out.size)
  have hb7 := hb3.trans (hb6.mono hb3.size)
  have tX3 := tX2.to hb6
  have tY3 := tY2.to hb6
  have tQ3 := tQ2.to hb6
  have tR3 := tR2.to hb6
  have hmod := Nat.mod_lt (val b32 xs) H0.out
  have C2 := Lib.hid (combine_l (q := -1) (.inr rfl) (HY.out.to hb7).trim (AR.out.to hb6) (by rw [val_trimL, R4.out]; omega))
  have V1 : Hid (val b32 zs = val b32 xs / val b32 ys + 1) := by
    show _ = _
    have h1 : val b32 [1] = 1 := rfl
    rw [h1] at u6
    omega
  have U1 := Lib.hid u1
  clear u1 u6 hb5 hb6 hb3 tX2 tY2 tQ2 tR2 p1 p2 hmod
  go_wp2_with fail
  refine C2.out.mono ?_
  rintro e w4 ⟨A4, c4, ms, rfl, m1, m2, m3, m4, m5, m6, hb8⟩
  have V2 : Hid (val b32 ms = val b32 ys - val b32 xs % val b32 ys) := by
    show _ = _
    rw [val_trimL, R4.out] at m6
    have := Nat.mod_lt (val b32 xs) H0.out
    omega
  have hb9 := hb7.trans (hb8.mono hb7.size)
  have tX4 := tX3.to hb8
  have tY4 := tY3.to hb8
  have tQ4 := tQ3.to hb8
  have tR4 := tR3.to hb8
  have p1 := tX4.c0
  have p2 := tY4.c0
  have I1 := Lib.hid (integer_l true (U1.out.to hb8) u4 u2 u3)
  rw [V1.out] at I1
  have M1 := Lib.hid m1
  clear m1 m6 hb7 hb8 tX3 tY3 tQ3 tR3
  obtain ⟨q, eq⟩ : ∃ q : Int, Hid (zof true (val b32 xs / val b32 ys + 1) = q) := ⟨_, rfl⟩
  rw [eq.out] at I1
  go_wp2_with fail
  refine I1.out.mono ?_
  rintro e w5 ⟨A5, c5, rfl, s1, s2, s3, hb10⟩
  have hb11 := hb9.trans (hb10.mono hb9.size)
  have tQ5 := tQ4.to hb10
  have tR5 := tR4.to hb10
  have I2 := Lib.hid (integer_l false (M1.out.to hb10) m4 m2 m3)
  rw [V2.out] at I2
  obtain ⟨r, er⟩ : ∃ r : Int, Hid (zof false (val b32 ys - val b32 xs % val b32 ys) = r) := ⟨_, rfl⟩
  rw [er.out] at I2
  have S1 := Lib.hid s1
  clear s1 hb10 hb9 tQ4 tR4
  go_wp2_with fail
  refine I2.out.mono ?_
  rintro e w6 ⟨A6, c6, rfl, v1, v2, v3, hb12⟩
  have HB := Lib.hid (hb11.trans (hb12.mono hb11.size))
  have TQ := Lib.hid (tQ5.to hb12)
  have TR := Lib.hid (tR5.to hb12)
  obtain ⟨g1, g2, g3, g4, g5⟩ := tQ5.to hb12
  obtain ⟨k1, k2, k3, k4, k5⟩ := tR5.to hb12
  have S3 := Lib.hid (S1.out.to hb12)
  have V3 := Lib.hid v1
  clear v1 hb12 hb11 tQ5 tR5 p1 p2
  go_wp2
  have tF := TQ.out.set (.bool (decide (q < 0))) (.slice A5 (dig b32 q.natAbs).length c5)
  have tG := (TR.out.far (g' := w.heap.size + 1 + 1) (by omega) (.bool (decide (q < 0))) (.slice A5 (dig b32 q.natAbs).length c5)).set (.bool (decide (r < 0))) (.slice A6 (dig b32 r.natAbs).length c6)
  have tH := tF.far (g' := w.heap.size + 1 + 1 + 1) (by omega) (.bool (decide (r < 0))) (.slice A6 (dig b32 r.natAbs).length c6)
  refine bodyPost_ret (v := .tuple #[.agg #[.bool (decide (q < 0)), .slice A5 (dig b32 q.natAbs).length c5], .agg #[.bool (decide (r < 0)), .slice A6 (dig b32 r.natAbs).length c6], .int .i64 0])
    (by simp [results, Try.f36, go_sem, tH.c0, tH.c1, tG.c0, tG.c1]) rfl ?_
  rw [eq.out, show (((val b32 ys - val b32 xs % val b32 ys : Nat) : Int)) = r from er.out]
  exact dret_stored TQ.out TR.out (by omega) (by omega) (by omega) S3.out V3.out s2 s3 v2 v3 HB.out

set_option maxHeartbeats 2000000 in
theorem dm_ttn {A A' : Option Addr} {c c' : Nat} {xs ys : List Nat} {w : World} (hx : Arg w A c xs) (hy : Arg w A' c' ys) (hxl : (trimL xs).length ≤ 2) (h0 : 0 < val b32 ys) (hm : 0 < val b32 xs % val b32 ys) :
    Calls Try.prog 36 #[.agg #[.bool true, .slice A xs.length c], .agg #[.bool true, .slice A' ys.length c']] w (DRet w (zof false (val b32 xs / val b32 ys + 1)) ((val b32 ys - val b32 xs % val b32 ys : Nat) : Int)) := by
  have HX := Lib.hid hx
  have HY := Lib.hid hy
  have H0 := Lib.hid h0
  have HM := Lib.hid hm
  have hlen : ((trimL ys).length = 0) ↔ val b32 ys = 0 := by
    rw [trimL_dig b32_one hy.dg]
    exact ⟨fun h => (dig_nil b32_one).1 (List.eq_nil_of_length_eq_zero h), fun h => by rw [h]; rfl⟩
  have hq : ((((trimL ys).length : Nat) : Int) == 0) = false := by
    have : (trimL ys).length ≠ 0 := fun h => by have := hlen.1 h; omega
    rw [beq_eq_false_iff_ne]; omega
  clear hx hy h0 hlen hm
  obtain ⟨W0, hW0⟩ : ∃ W0, W0 = (((w.alloc (.cells #[.bool true, .slice A xs.length c] 24)).alloc (.cells #[.bool true, .slice A' ys.length c'] 24)).alloc (.cells #[.bool false, .slice none 0 0] 24)).alloc (.cells #[.bool false, .slice none 0 0] 24) := ⟨_, rfl⟩
  have hb : Below w.heap.size w W0 := by rw [hW0]; exact ((((Below.refl _ _).alloc (Nat.le_refl _) _).alloc (by simp) _).alloc (by simp; omega) _).alloc (by simp; omega) _
  have tX : Zat W0 w.heap.size (.bool true) (.slice A xs.length c) := by rw [hW0]; exact (((Zat.new w _ _).alloc _).alloc _).alloc _
  have tY : Zat W0 (w.heap.size + 1) (.bool true) (.slice A' ys.length c') := by
    have h := Zat.new (w.alloc (.cells #[.bool true, .slice A xs.length c] 24)) (.bool true) (.slice A' ys.length c')
    rw [World.size_alloc] at h
    rw [hW0]; exact (h.alloc _).alloc _
  have tQ : Zat W0 (w.heap.size + 1 + 1) (.bool false) (.slice none 0 0) := by
    have h := Zat.new ((w.alloc (.cells #[.bool true, .slice A xs.length c] 24)).alloc (.cells #[.bool true, .slice A' ys.length c'] 24)) (.bool false) (.slice none 0 0)
    rw [World.size_alloc, World.size_alloc] at h
    rw [hW0]; exact h.alloc _
  have tR : Zat W0 (w.heap.size + 1 + 1 + 1) (.bool false) (.slice none 0 0) := by
    have h := Zat.new (((w.alloc (.cells #[.bool true, .slice A xs.length c] 24)).alloc (.cells #[.bool true, .slice A' ys.length c'] 24)).alloc (.cells #[.bool false, .slice none 0 0] 24)) (.bool false) (.slice none 0 0)
    rw [World.size_alloc, World.size_alloc, World.size_alloc] at h
    rw [hW0]; exact h
  have q1 := tX.two.c1
  have q2 := tY.two.c1
  have HW0 := Lib.hid hW0
  clear hW0
  go_enter Try.func36, Try.ntmps36
  go_wp2_with fail
  rw [← HW0.out]
  go_quiet ((first | (go_at_call 45; with_reducible exact Calls.quiet_of_same (trim_q (HX.out.to (hb.trans (bel_drewN (Below.refl _ _) _))))) | (go_at_call 45; with_reducible exact Calls.quiet_of_same (trim_q (HY.out.to (hb.trans (bel_drewN (Below.refl _ _) _)))))))
  rename_i nq
  have hb1 : Below w.heap.size w (W0.drewN nq) := bel_drewN hb _
  have tX1 : Two (W0.drewN nq) w.heap.size _ _ := tX.two.to (bel_drewN (Below.refl _ _) _)
  have tY1 : Two (W0.drewN nq) (w.heap.size + 1) _ _ := tY.two.to (bel_drewN (Below.refl _ _) _)
  have tQ1 : Two (W0.drewN nq) (w.heap.size + 1 + 1) _ _ := tQ.two.to (bel_drewN (Below.refl _ _) _)
  have tR1 : Two (W0.drewN nq) (w.heap.size + 1 + 1 + 1) _ _ := tR.two.to (bel_drewN (Below.refl _ _) _)
  generalize W0.drewN nq = W1 at hb1 tX1 tY1 tQ1 tR1 ⊢
  clear q1 q2 tX tY tQ tR hb HW0
  go_wp2_with fail
  refine (divide_small (HX.out.to hb1) (HY.out.to hb1) H0.out hxl).mono ?_
  rintro e w2 ⟨A1, c1, rs, A2, c2, rfl, r1, r2, r3, r4, r5, r6, r7, r8, r9, hb2⟩
  have hb3 := hb1.trans (hb2.mono hb1.size)
  have tX2 := tX1.to hb2
  have tY2 := tY1.to hb2
  have tQ2 := tQ1.to hb2
  have tR2 := tR1.to hb2
  have R4 := Lib.hid r4
  have AR := Lib.hid (⟨r2, r3, r7, r8, r9⟩ : Arg w2 A2 c2 rs)
  have R1 := Lib.hid r1
  have hql : (dig b32 (val b32 xs / val b32 ys)).length ≤ 4294967295 := by
    have h := dig_length_le b32_one (n := val b32 xs / val b32 ys) (k := xs.length) (Nat.lt_of_le_of_lt (Nat.div_le_self _ _) (val_lt HX.out.dg))
    have := HX.out.small
    omega
  have AQ := Lib.hid (⟨r1, Dg_dig b32_one _, r5, r6, hql⟩ : Arg w2 A1 c1 (dig b32 (val b32 xs / val b32 ys)))
  clear r1 r2 r4 hb1 hb2 tX1 tY1 tQ1 tR1
  have p1 := tX2.c0
  have p2 := tY2.c0
  have hrl : (0 : Int) < ((trimL rs).length : Nat) := by
    rcases Nat.eq_zero_or_pos (trimL rs).length with h | h
    · exfalso
      rw [trimL_dig b32_one AR.out.dg, R4.out] at h
      have h1 := (dig_nil b32_one).1 (List.eq_nil_of_length_eq_zero h)
      have h2 := HM.out
      omega
    · omega
  have HT := Lib.hid (trim_l AR.out)
  go_wp2_with fail
  refine HT.out.mono ?_
  rintro e w' ⟨rfl, rfl⟩
  clear HT
  have ho : Arg (w2.alloc (.cells #[.int .u32 1] 73)) (some ⟨w2.heap.size, 0, none⟩) 1 [1] := by
    have h := Rd.new .u32 w2 73 [1]
    exact ⟨by simpa [ints] using h, Dg.one (by decide), by simp, by omega, by simp⟩
  have hb4 : Below w2.heap.size w2 (w2.alloc (.cells #[.int .u32 1] 73)) := (Below.refl _ _).alloc (Nat.le_refl _) _
  have C1 := Lib.hid (combine_l (q := 1) (.inl rfl) (AQ.out.to hb4) ho (by omega))
  have HB4 := Lib.hid hb4
  clear ho hb4
  go_wp2_with fail
  refine C1.out.mono ?_
  rintro e w3 ⟨A3, c3, zs, rfl, u1, u2, u3, u4, u5, u6, hb5⟩
  rw [val_dig b32_one] at u6
  have hb6 := HB4.out.trans (hb5.mono HB4.out.size)
  have hb7 := hb3.trans (hb6.mono hb3.size)
  have tX3 := tX2.to hb6
  have tY3 := tY2.to hb6
  have tQ3 := tQ2.to hb6
  have tR3 := tR2.to hb6
  have hmod := Nat.mod_lt (val b32 xs) H0.out
  have C2 := Lib.hid (combine_l (q := -1) (.inr rfl) (HY.out.to hb7).trim (AR.out.to hb6) (by rw [val_trimL, R4.out]; omega))
  have V1 : Hid (val b32 zs = val b32 xs / val b32 ys + 1) := by
    show _ = _
    have h1 : val b32 [1] = 1 := rfl
    rw [h1] at u6
    omega
  have U1 := Lib.hid u1
  clear u1 u6 hb5 hb6 hb3 tX2 tY2 tQ2 tR2 p1 p2 hmod
  go_wp2_with fail
  refine C2.out.mono ?_
  rintro e w4 ⟨A4, c4, ms, rfl, m1, m2, m3, m4, m5, m6, hb8⟩
  have V2 : Hid (val b32 ms = val b32 ys - val b32 xs % val b32 ys) := by
    show _ = _
    rw [val_trimL, R4.out] at m6
    have := Nat.mod_lt (val b32 xs) H0.out
    omega
  have hb9 := hb7.trans (hb8.mono hb7.size)
  have tX4 := tX3.to hb8
  have tY4 := tY3.to hb8
  have tQ4 := tQ3.to hb8
  have tR4 := tR3.to hb8
  have p1 := tX4.c0
  have p2 := tY4.c0
  have I1 := Lib.hid (integer_l false (U1.out.to hb8) u4 u2 u3)
  rw [V1.out] at I1
  have M1 := Lib.hid m1
  clear m1 m6 hb7 hb8 tX3 tY3 tQ3 tR3
  obtain ⟨q, eq⟩ : ∃ q : Int, Hid (zof false (val b32 xs / val b32 ys + 1) = q) := ⟨_, rfl⟩
  rw [eq.out] at I1
  go_wp2_with fail
  refine I1.out.mono ?_
  rintro e w5 ⟨A5, c5, rfl, s1, s2, s3, hb10⟩
  have hb11 := hb9.trans (hb10.mono hb9.size)
  have tQ5 := tQ4.to hb10
  have tR5 := tR4.to hb10
  have I2 := Lib.hid (integer_l false (M1.out.to hb10) m4 m2 m3)
  rw [V2.out] at I2
  obtain ⟨r, er⟩ : ∃ r : Int, Hid (zof false (val b32 ys - val b32 xs % val b32 ys) = r) := ⟨_, rfl⟩
  rw [er.out] at I2
  have S1 := Lib.hid s1
  clear s1 hb10 hb9 tQ4 tR4
  go_wp2_with fail
  refine I2.out.mono ?_
  rintro e w6 ⟨A6, c6, rfl, v1, v2, v3, hb12⟩
  have HB := Lib.hid (hb11.trans (hb12.mono hb11.size))
  have TQ := Lib.hid (tQ5.to hb12)
  have TR := Lib.hid (tR5.to hb12)
  obtain ⟨g1, g2, g3, g4, g5⟩ := tQ5.to hb12
  obtain ⟨k1, k2, k3, k4, k5⟩ := tR5.to hb12
  have S3 := Lib.hid (S1.out.to hb12)
  have V3 := Lib.hid v1
  clear v1 hb12 hb11 tQ5 tR5 p1 p2
  go_wp2
  have tF := TQ.out.set (.bool (decide (q < 0))) (.slice A5 (dig b32 q.natAbs).length c5)
  have tG := (TR.out.far (g' := w.heap.size + 1 + 1) (by omega) (.bool (decide (q < 0))) (.slice A5 (dig b32 q.natAbs).length c5)).set (.bool (decide (r < 0))) (.slice A6 (dig b32 r.natAbs).length c6)
  have tH := tF.far (g' := w.heap.size + 1 + 1 + 1) (by omega) (.bool (decide (r < 0))) (.slice A6 (dig b32 r.natAbs).length c6)
  refine bodyPost_ret (v := .tuple #[.agg #[.bool (decide (q < 0)), .slice A5 (dig b32 q.natAbs).length c5], .agg #[.bool (decide (r < 0)), .slice A6 (dig b32 r.natAbs).length c6], .int .i64 0])
    (by simp [results, Try.f36, go_sem, tH.c0, tH.c1, tG.c0, tG.c1]) rfl ?_
  rw [eq.out, show (((val b32 ys - val b32 xs % val b32 ys : Nat) : Int)) = r from er.out]
  exact dret_stored TQ.out TR.out (by omega) (by omega) (by omega) S3.out V3.out s2 s3 v2 v3 HB.out

end Go.Proofs.Ytbmnloelimmgiaa

namespace Go.Proofs.Ytbmnloelimmgiaa
set_option maxRecDepth 100000
open Go.RowKit Go.Shelf

set_option maxHeartbeats 4000000 in
theorem neg_any (n : Bool) {A : Option Addr} {c : Nat} {xs : List Nat} {w : World} (hx : Arg w A c xs) :
    Calls Try.prog 37 #[.agg #[.bool n, .slice A xs.length c]] w (ZRet w (zof (!n) (val b32 xs))) := by
  have HX := Lib.hid hx
  clear hx
  obtain ⟨W0, hW0⟩ : ∃ W0, W0 = (w.alloc (.cells #[.bool n, .slice A xs.length c] 24)).alloc (.cells #[.bool false, .slice none 0 0] 24) := ⟨_, rfl⟩
  have hb : Below w.heap.size w W0 := by rw [hW0]; exact ((Below.refl _ _).alloc (Nat.le_refl _) _).alloc (by simp) _
  have tX : Two W0 w.heap.size (.bool n) (.slice A xs.length c) := by rw [hW0]; exact (Two.new w _ _ _).alloc _
  have tR : Two W0 (w.heap.size + 1) (.bool false) (.slice none 0 0) := by
    have h := Two.new (w.alloc (.cells #[.bool n, .slice A xs.length c] 24)) (.bool false) (.slice none 0 0) 24
    rw [World.size_alloc] at h
    rw [hW0]; exact h
  have HW0 := Lib.hid hW0
  clear hW0
  go_enter Try.func37, Try.ntmps37
  go_wp2_with fail
  rw [← HW0.out]
  have q1 := tX.c0
  have q2 := tX.c1
  have tXd := tX.to ((Below.refl _ W0).drew)
  have tRd := tR.to ((Below.refl _ W0).drew)
  obtain ⟨z, ez⟩ : ∃ z, Hid (zof (!n) (val b32 xs) = z) := ⟨_, rfl⟩
  go_region_held3 (fun w' => w'.cell? ⟨w.heap.size, 0, none⟩ = some (.bool n) ∧ w'.cell? ⟨w.heap.size, 1, none⟩ = some (.slice A xs.length c))
    (first | exact ⟨q1, q2⟩ | exact ⟨(tXd.to hb2).c0, (tXd.to hb2).c1⟩ | exact ⟨t3.c0, t3.c1⟩ | exact ⟨(t3.far (by omega) _ _).c0, (t3.far (by omega) _ _).c1⟩)
    (first | (go_at_call 56; refine (clone_l (HX.out.to hb.drew)).mono ?_; rintro e w2 ⟨A1, c1, rfl, r1, r2, r3, hb2⟩) | (go_at_call 46; refine (integer_l (!n) r1 HX.out.dg r2 r3).mono ?_; rw [ez.out]; rintro e w3 ⟨A3, c3, rfl, s1, s2, s3, hb3⟩; have t3 := (tXd.to hb2).to hb3; have t4 := (tRd.to hb2).to hb3; have u0 := t4.c0; have u1 := t4.c1; have u2 := t4.f0; have u3 := t4.f1))
  have HB3 : Below w.heap.size w w3 := (hb.drew.trans (hb2.mono hb.size)).trans (hb3.mono (hb.drew.trans (hb2.mono hb.size)).size)
  go_wp2
  have tF := t4.set (.bool (decide (z < 0))) (.slice A3 (dig b32 z.natAbs).length c3)
  refine bodyPost_ret (v := .agg #[.bool (decide (z < 0)), .slice A3 (dig b32 z.natAbs).length c3]) (by simp [results, Try.f37, go_sem, tF.c0, tF.c1]) rfl ?_
  rw [ez.out]
  exact zret_stored t4 (by omega) s1 s2 s3 HB3

theorem zof_not (n : Bool) (v : Nat) : zof (!n) v = -zof n v := by cases n <;> simp [zof]

theorem sum_any (n m : Bool) {A A' : Option Addr} {c c' : Nat} {xs ys : List Nat} {w : World} (hx : Arg w A c xs) (hy : Arg w A' c' ys) :
    Calls Try.prog 61 #[.agg #[.bool n, .slice A xs.length c], .bool m, .slice A' ys.length c'] w (ZRet w (zof n (val b32 xs) + zof m (val b32 ys))) := by
  by_cases h : m = n
  · subst h
    have h := sum_same m hx hy
    rw [show zof m (val b32 xs + val b32 ys) = zof m (val b32 xs) + zof m (val b32 ys) from by cases m <;> simp [zof] <;> omega] at h
    exact h
  · obtain rfl : m = !n := by cases n <;> cases m <;> simp_all
    rcases Nat.lt_or_ge (val b32 xs) (val b32 ys) with hlt | hge
    · have h := sum_less n hx hy hlt
      rw [show zof (!n) (val b32 ys - val b32 xs) = zof n (val b32 xs) + zof (!n) (val b32 ys) from by cases n <;> simp [zof] <;> omega] at h
      exact h
    · have h := sum_more n hx hy hge
      rw [show zof n (val b32 xs - val b32 ys) = zof n (val b32 xs) + zof (!n) (val b32 ys) from by cases n <;> simp [zof] <;> omega] at h
      exact h

set_option maxHeartbeats 2000000 in
theorem add_any (na nb : Bool) {A A' : Option Addr} {c c' : Nat} {xs ys : List Nat} {w : World} (hx : Arg w A c xs) (hy : Arg w A' c' ys) :
    Calls Try.prog 35 #[.agg #[.bool na, .slice A xs.length c], .agg #[.bool nb, .slice A' ys.length c']] w (ZRet w (zof na (val b32 xs) + zof nb (val b32 ys))) := by
  have HX := Lib.hid hx
  have HY := Lib.hid hy
  clear hx hy
  obtain ⟨W0, hW0⟩ : ∃ W0, W0 = ((w.alloc (.cells #[.bool na, .slice A xs.length c] 24)).alloc (.cells #[.bool nb, .slice A' ys.length c'] 24)).alloc (.cells #[.bool false, .slice none 0 0] 24) := ⟨_, rfl⟩
  have hb : Below w.heap.size w W0 := by rw [hW0]; exact (((Below.refl _ _).alloc (Nat.le_refl _) _).alloc (by simp) _).alloc (by simp; omega) _
  have tX : Two W0 w.heap.size (.bool na) (.slice A xs.length c) := by rw [hW0]; exact ((Two.new w _ _ _).alloc _).alloc _
  have tY : Two W0 (w.heap.size + 1) (.bool nb) (.slice A' ys.length c') := by
    have h := Two.new (w.alloc (.cells #[.bool na, .slice A xs.length c] 24)) (.bool nb) (.slice A' ys.length c') 24
    rw [World.size_alloc] at h
    rw [hW0]; exact h.alloc _
  have tR : Two W0 (w.heap.size + 1 + 1) (.bool false) (.slice none 0 0) := by
    have h := Two.new ((w.alloc (.cells #[.bool na, .slice A xs.length c] 24)).alloc (.cells #[.bool nb, .slice A' ys.length c'] 24)) (.bool false) (.slice none 0 0) 24
    rw [World.size_alloc, World.size_alloc] at h
    rw [hW0]; exact h
  have HW0 := Lib.hid hW0
  clear hW0
  go_enter Try.func35, Try.ntmps35
  go_wp2_with fail
  rw [← HW0.out]
  have q1 := tX.c0
  have q2 := tX.c1
  have q3 := tY.c0
  have q4 := tY.c1
  obtain ⟨z, ez⟩ : ∃ z, Hid (zof na (val b32 xs) + zof nb (val b32 ys) = z) := ⟨_, rfl⟩
  have HI := Lib.hid (sum_any na (nb) (HX.out.to hb) (HY.out.to hb))
  rw [show zof na (val b32 xs) + zof (nb) (val b32 ys) = zof na (val b32 xs) + zof nb (val b32 ys) from rfl, ez.out] at HI
  go_wp2_with fail
  refine HI.out.mono ?_
  rintro e w3 ⟨A3, c3, rfl, s1, s2, s3, hb3⟩
  have t4 := tR.to hb3
  have u0 := t4.c0
  have u1 := t4.c1
  have u2 := t4.f0
  have u3 := t4.f1
  have S1 := Lib.hid s1
  have HB3 := Lib.hid (hb.trans (hb3.mono hb.size))
  clear s1 hb3 tX tY tR q1 q2 q3 q4
  go_wp2
  have tF := t4.set (.bool (decide (z < 0))) (.slice A3 (dig b32 z.natAbs).length c3)
  refine bodyPost_ret (v := .agg #[.bool (decide (z < 0)), .slice A3 (dig b32 z.natAbs).length c3]) (by simp [results, Try.f35, go_sem, tF.c0, tF.c1]) rfl ?_
  rw [ez.out]
  exact zret_stored t4 (by omega) S1.out s2 s3 HB3.out

set_option maxHeartbeats 2000000 in
theorem sub_any (na nb : Bool) {A A' : Option Addr} {c c' : Nat} {xs ys : List Nat} {w : World} (hx : Arg w A c xs) (hy : Arg w A' c' ys) :
    Calls Try.prog 51 #[.agg #[.bool na, .slice A xs.length c], .agg #[.bool nb, .slice A' ys.length c']] w (ZRet w (zof na (val b32 xs) - zof nb (val b32 ys))) := by
  have HX := Lib.hid hx
  have HY := Lib.hid hy
  clear hx hy
  obtain ⟨W0, hW0⟩ : ∃ W0, W0 = ((w.alloc (.cells #[.bool na, .slice A xs.length c] 24)).alloc (.cells #[.bool nb, .slice A' ys.length c'] 24)).alloc (.cells #[.bool false, .slice none 0 0] 24) := ⟨_, rfl⟩
  have hb : Below w.heap.size w W0 := by rw [hW0]; exact (((Below.refl _ _).alloc (Nat.le_refl _) _).alloc (by simp) _).alloc (by simp; omega) _
  have tX : Two W0 w.heap.size (.bool na) (.slice A xs.length c) := by rw [hW0]; exact ((Two.new w _ _ _).alloc _).alloc _
  have tY : Two W0 (w.heap.size + 1) (.bool nb) (.slice A' ys.length c') := by
    have h := Two.new (w.alloc (.cells #[.bool na, .slice A xs.length c] 24)) (.bool nb) (.slice A' ys.length c') 24
    rw [World.size_alloc] at h
    rw [hW0]; exact h.alloc _
  have tR : Two W0 (w.heap.size + 1 + 1) (.bool false) (.slice none 0 0) := by
    have h := Two.new ((w.alloc (.cells #[.bool na, .slice A xs.length c] 24)).alloc (.cells #[.bool nb, .slice A' ys.length c'] 24)) (.bool false) (.slice none 0 0) 24
    rw [World.size_alloc, World.size_alloc] at h
    rw [hW0]; exact h
  have HW0 := Lib.hid hW0
  clear hW0
  go_enter Try.func51, Try.ntmps51
  go_wp2_with fail
  rw [← HW0.out]
  have q1 := tX.c0
  have q2 := tX.c1
  have q3 := tY.c0
  have q4 := tY.c1
  obtain ⟨z, ez⟩ : ∃ z, Hid (zof na (val b32 xs) - zof nb (val b32 ys) = z) := ⟨_, rfl⟩
  have HI := Lib.hid (sum_any na (!nb) (HX.out.to hb) (HY.out.to hb))
  rw [show zof na (val b32 xs) + zof (!nb) (val b32 ys) = zof na (val b32 xs) - zof nb (val b32 ys) from by rw [zof_not]; omega, ez.out] at HI
  go_wp2_with fail
  refine HI.out.mono ?_
  rintro e w3 ⟨A3, c3, rfl, s1, s2, s3, hb3⟩
  have t4 := tR.to hb3
  have u0 := t4.c0
  have u1 := t4.c1
  have u2 := t4.f0
  have u3 := t4.f1
  have S1 := Lib.hid s1
  have HB3 := Lib.hid (hb.trans (hb3.mono hb.size))
  clear s1 hb3 tX tY tR q1 q2 q3 q4
  go_wp2
  have tF := t4.set (.bool (decide (z < 0))) (.slice A3 (dig b32 z.natAbs).length c3)
  refine bodyPost_ret (v := .agg #[.bool (decide (z < 0)), .slice A3 (dig b32 z.natAbs).length c3]) (by simp [results, Try.f51, go_sem, tF.c0, tF.c1]) rfl ?_
  rw [ez.out]
  exact zret_stored t4 (by omega) S1.out s2 s3 HB3.out
end Go.Proofs.Ytbmnloelimmgiaa

namespace Go.Proofs.Ytbmnloelimmgiaa
set_option maxRecDepth 100000

theorem val_set {b : Nat} : ∀ (P : List Nat) (j v : Nat), j < P.length → val b (P.set j v) + b ^ j * P.getD j 0 = val b P + b ^ j * v
  | [], j, v, h => by simp at h
  | x :: r, 0, v, _ => by simp [val]; omega
  | x :: r, j + 1, v, h => by
    have ih := val_set (b := b) r j v (by simpa using h)
    have h1 := congrArg (b * ·) ih
    simp only [Nat.mul_add] at h1
    simp only [List.set_cons_succ, val, List.getD_cons_succ, Nat.pow_succ']
    rw [Nat.mul_assoc, Nat.mul_assoc]
    omega

theorem getD_set_other (P : List Nat) {j i : Nat} (v : Nat) (h : j ≠ i) : (P.set j v).getD i 0 = P.getD i 0 := by
  simp [List.getD, h]

theorem Dg.set {b : Nat} {P : List Nat} (h : Dg b P) (j : Nat) {v : Nat} (hv : v < b) : Dg b (P.set j v) := by
  intro d hd
  rcases List.mem_or_eq_of_mem_set hd with h1 | h1
  · exact h d h1
  · rw [h1]; exact hv

/-- One round of the inner loop. -/
theorem mul_step {b i k f u v r S T : Nat} {P : List Nat} (hP : i + k < P.length) (hv : P.getD (i + k) 0 = v) (h : val b P + b ^ (i + k) * r = S + b ^ i * (f * T)) :
    val b (P.set (i + k) ((f * u + v + r) % b)) + b ^ (i + (k + 1)) * ((f * u + v + r) / b) = S + b ^ i * (f * (T + b ^ k * u)) := by
  have h1 := val_set (b := b) P (i + k) ((f * u + v + r) % b) hP
  rw [hv] at h1
  have h2 := Nat.div_add_mod (f * u + v + r) b
  have h3 : b ^ (i + (k + 1)) * ((f * u + v + r) / b) = b ^ (i + k) * (b * ((f * u + v + r) / b)) := by
    rw [← Nat.add_assoc, Nat.pow_succ, Nat.mul_assoc]
  have h4 : b ^ i * (f * (T + b ^ k * u)) = b ^ i * (f * T) + b ^ (i + k) * (f * u) := by
    rw [Nat.mul_add, Nat.mul_add, Nat.pow_add, Nat.mul_assoc (b ^ i) (b ^ k), ← Nat.mul_assoc f (b ^ k) u, Nat.mul_comm f (b ^ k), Nat.mul_assoc (b ^ k) f u]
  have h5 : b ^ (i + k) * (b * ((f * u + v + r) / b)) + b ^ (i + k) * ((f * u + v + r) % b) = b ^ (i + k) * (f * u) + b ^ (i + k) * v + b ^ (i + k) * r := by
    rw [← Nat.mul_add, h2, Nat.mul_add, Nat.mul_add]
  rw [h3, h4]
  omega

/-- The word behind the inner loop. -/
theorem mul_last {b i m f r S T : Nat} {P : List Nat} (hP : i + m < P.length) (hv : P.getD (i + m) 0 = 0) (h : val b P + b ^ (i + m) * r = S + b ^ i * (f * T)) :
    val b (P.set (i + m) r) = S + b ^ i * (f * T) := by
  have h1 := val_set (b := b) P (i + m) r hP
  rw [hv] at h1
  omega

theorem carry_lt {b f u v r : Nat} (hf : f < b) (hu : u < b) (hv : v < b) (hr : r < b) : f * u + v + r < b * b := by
  have h1 : f * u ≤ (b - 1) * (b - 1) := Nat.mul_le_mul (by omega) (by omega)
  have h2 : (b - 1) * (b - 1) + 2 * (b - 1) + 1 = b * b := by
    obtain ⟨c, rfl⟩ : ∃ c, b = c + 1 := ⟨b - 1, by omega⟩
    simp only [Nat.add_sub_cancel]
    rw [Nat.add_mul, Nat.mul_add]
    omega
  omega
end Go.Proofs.Ytbmnloelimmgiaa

namespace Go.Proofs.Ytbmnloelimmgiaa
set_option maxRecDepth 100000
open Go.RowKit

/-- Block g has sz cells, may be written, and begins with the numbers. -/
def Buf (kd : IntKind) (ty : TypeId) (g sz : Nat) (xs : List Nat) (w : World) : Prop := ∃ cur, w.heap[g]? = some (.cells cur ty (0, 0)) ∧ cur.size = sz ∧ cur.toList.take xs.length = ints kd xs

section
variable {kd : IntKind} {ty : TypeId} {g sz : Nat} {xs : List Nat} {w w' : World}

theorem Buf.lt (h : Buf kd ty g sz xs w) : g < w.heap.size := by
  obtain ⟨cur, h1, _⟩ := h
  exact (Array.getElem?_eq_some_iff.1 h1).1

theorem Buf.le (h : Buf kd ty g sz xs w) : xs.length ≤ sz := by
  obtain ⟨cur, _, h2, h3⟩ := h
  have := congrArg List.length h3
  simp [ints] at this
  omega

theorem Buf.cell (h : Buf kd ty g sz xs w) {j : Nat} (hj : j < xs.length) : w.cell? ⟨g, j, none⟩ = some (.int kd (xs[j] : Nat)) := by
  obtain ⟨cur, h1, h2, h3⟩ := h
  have h4 : (ints kd xs)[j]? = some (.int kd (xs[j] : Nat)) := by simp [ints, hj]
  rw [← h3, List.getElem?_take, if_pos hj] at h4
  simpa [World.cell?, h1] using h4

theorem Buf.frozen (h : Buf kd ty g sz xs w) (j : Nat) : w.frozen? ⟨g, j, none⟩ = false := by
  obtain ⟨cur, h1, _⟩ := h
  simp [World.frozen?, h1]

theorem Buf.kept {row : Option Nat} (h : Buf kd ty g sz xs w) (hg : w.grownBy w' row) (hne : some g ≠ row) : Buf kd ty g sz xs w' := by
  have hl := h.lt
  obtain ⟨cur, h1, h2, h3⟩ := h
  exact ⟨cur, (hg.block g hl hne).trans h1, h2, h3⟩

theorem Buf.rd (h : Buf kd ty g sz xs w) {B : Nat} (hB : g < B) : Rd kd w B (some ⟨g, 0, none⟩) xs := fun k hk => ⟨g, 0, rfl, hB, by rw [Nat.zero_add]; exact h.cell hk⟩

theorem Buf.set (h : Buf kd ty g sz xs w) (m v : Nat) : Buf kd ty g sz (xs.set m v) (w.setCell ⟨g, m, none⟩ (.int kd (v : Nat))) := by
  obtain ⟨cur, h1, h2, h3⟩ := h
  obtain ⟨hlt, hk⟩ := Array.getElem?_eq_some_iff.1 h1
  refine ⟨cur.setIfInBounds m (.int kd (v : Nat)), ?_, by simp [h2], ?_⟩
  · show (w.heap.modify g _)[g]? = _
    rw [Array.getElem?_eq_getElem (by rw [Array.size_modify]; exact hlt), Array.getElem_modify_self, hk]
    rfl
  · rw [Array.toList_setIfInBounds, List.length_set, List.take_set, h3]
    simp [ints, List.map_set]

theorem buf_own {β : Type} (kd : IntKind) (ty : TypeId) (g sz : Nat) (f : β → List Nat) : Own (fun s W => Buf kd ty g sz (f s) W) := fun s X Y row hs hg hrow =>
  hs.kept hg (fun e' => by obtain ⟨o, ho, hc⟩ := hrow g e'.symm; obtain ⟨cur, h1, _⟩ := hs; rw [h1] at ho; cases ho; cases hc)

theorem grownBy_at (W : World) (b o : Nat) (v : Value) : W.grownBy (W.setCell ⟨b, o, none⟩ v) (some b) :=
  ⟨rfl, rfl, rfl, (KeepsWalks.setCell W _ v).size, fun k _ hk => Below.heap_setCell _ _ _ k (fun e => hk (by rw [e]))⟩

theorem Grown.trans {a b c : World} {row : Option Nat} (h : a.grownBy b row) (k : b.grownBy c row) : a.grownBy c row :=
  ⟨k.os.trans h.os, k.tape.trans h.tape, k.output.trans h.output, Nat.le_trans h.size k.size, fun i hi hne => (k.block i (Nat.lt_of_lt_of_le hi h.size) hne).trans (h.block i hi hne)⟩

/-- A later block's change is none of it. -/
theorem Grown.later {a b c : World} {row row' : Option Nat} (h : a.grownBy b row) (k : b.grownBy c row') (hr : ∀ r, row' = some r → a.heap.size ≤ r) : a.grownBy c row :=
  ⟨k.os.trans h.os, k.tape.trans h.tape, k.output.trans h.output, Nat.le_trans h.size k.size, fun i hi hne => (k.block i (Nat.lt_of_lt_of_le hi h.size) (fun e => absurd (hr i e.symm) (by omega))).trans (h.block i hi hne)⟩

theorem ownFrom_grown {β : Type} {B : Nat} {w₀ : World} {row : Option Nat} (hB : w₀.heap.size ≤ B) : OwnFrom B (fun (_ : β) W => w₀.grownBy W row) :=
  fun _ _ _ _ hs hg hr => Grown.later hs hg fun r e => Nat.le_trans hB (hr r e).1

theorem Grown.below {a b : World} {g B : Nat} (h : a.grownBy b (some g)) (hB : B ≤ g) (ha : B ≤ a.heap.size) : Below B a b :=
  ⟨h.os, h.tape, h.output, h.size, fun i hi => h.block i (by omega) (by simp; omega)⟩

theorem Grown.drew {a b : World} {row : Option Nat} (h : a.grownBy b row) : a.grownBy b.drew row := ⟨h.os, h.tape, h.output, h.size, h.block⟩
end
end Go.Proofs.Ytbmnloelimmgiaa
