/- Parts: RefDivZ, KDivZ. -/
import Derived.Test.YtoaghihhobggoaaDv21
import Derived.Test.YtoaghihhobggoaaDv25
import Derived.Test.YtoaghihhobggoaaDv26
set_option linter.unusedVariables false
set_option linter.unusedSimpArgs false

namespace Go.Proofs.Ytoaghihhobggoaa
open Go.RowKit Go.Shelf

/-- A call hands back two integers and no error. -/
def ZZ (w : World) (a b : Int) (e : Ending) (w' : World) : Prop := ∃ xq yq xr yr, e = .returned (.tuple #[.agg #[xq, yq], .agg #[xr, yr], .int .i64 0]) ∧ Zc w' xq yq a ∧ Zc w' xr yr b ∧ Below w.heap.size w w'


set_option maxRecDepth 100000 in
set_option maxHeartbeats 8000000 in
theorem rDiv_f (m : Bool) {A A' : Option Addr} {c c' : Nat} {xs ys : List Nat} {w : World} (hx : Arg w A c xs) (sx : xs.length ≤ 10000) (hy : Arg w A' c' ys) (sy : ys.length ≤ 10000) (h0 : 0 < val b32 ys) :
    Calls Try.prog 34 #[.agg #[.bool false, .slice A xs.length c], .agg #[.bool m, .slice A' ys.length c']] w (ZZ w (zof m (val b32 xs / val b32 ys)) (zof false (val b32 xs % val b32 ys))) := by
  obtain ⟨W0, hW0⟩ : ∃ W0, W0 = ((((w.alloc (.cells #[.bool false, .slice A xs.length c] 24)).alloc (.cells #[.bool m, .slice A' ys.length c'] 24)).alloc (.cells #[.bool false, .slice none 0 0] 24)).alloc (.cells #[.bool false, .slice none 0 0] 24)) := ⟨_, rfl⟩
  have hb : Below w.heap.size w W0 := by rw [hW0]; exact ((((Below.refl _ _).alloc (Nat.le_refl _) _).alloc (by simp) _).alloc (by simp; omega) _).alloc (by simp; omega) _
  have tX : Two W0 (w.heap.size) (.bool false) (.slice A xs.length c) := by
    have h := Two.new w (.bool false) (.slice A xs.length c) 24
    rw [hW0]; exact (((h.alloc _).alloc _).alloc _)
  have tY : Two W0 (w.heap.size + 1) (.bool m) (.slice A' ys.length c') := by
    have h := Two.new (w.alloc (.cells #[.bool false, .slice A xs.length c] 24)) (.bool m) (.slice A' ys.length c') 24
    rw [World.size_alloc] at h
    rw [hW0]; exact ((h.alloc _).alloc _)
  have tR : Two W0 (w.heap.size + 1 + 1) (.bool false) (.slice none 0 0) := by
    have h := Two.new ((w.alloc (.cells #[.bool false, .slice A xs.length c] 24)).alloc (.cells #[.bool m, .slice A' ys.length c'] 24)) (.bool false) (.slice none 0 0) 24
    rw [World.size_alloc, World.size_alloc] at h
    rw [hW0]; exact (h.alloc _)
  have tS : Two W0 (w.heap.size + 1 + 1 + 1) (.bool false) (.slice none 0 0) := by
    have h := Two.new (((w.alloc (.cells #[.bool false, .slice A xs.length c] 24)).alloc (.cells #[.bool m, .slice A' ys.length c'] 24)).alloc (.cells #[.bool false, .slice none 0 0] 24)) (.bool false) (.slice none 0 0) 24
    rw [World.size_alloc, World.size_alloc, World.size_alloc] at h
    rw [hW0]; exact h
  have HW0 := Lib.hid hW0
  have HB0 := Lib.hid hb
  have HX := Lib.hid hx
  have HY := Lib.hid hy
  have hBW : w.heap.size + 1 + 1 ≤ W0.heap.size := by rw [hW0]; simp
  have Dsx : val b32 xs < b16 ^ (2 * xs.length) := by rw [← pow_2k]; exact val_lt hx.dg
  have Dsy : val b32 ys < b16 ^ (2 * ys.length) := by rw [← pow_2k]; exact val_lt hy.dg
  clear hW0 hb hx hy
  go_enter Try.func34, Try.ntmps34
  go_wp2_with fail
  rw [← HW0.out]
  refine wp_region_plan (S := fun w' => Below (w.heap.size + 1 + 1) W0 w') [(0, true), (1, true), (3, true), (4, true), (2, false), (5, false), (6, true), (7, true)] (by kernel_rfl) (by kernel_rfl) (Below.refl _ _).drew ?_
  have HB := (Below.refl W0.heap.size W0).drew
  repeat (refine plan_take (v := ?_) rfl (by rfl) ?_ ?_; rotate_left; (focus (intro w' hS; have k0 := (tX.toB hS (by omega)).c0; have k1 := (tX.toB hS (by omega)).c1; have k2 := (tY.toB hS (by omega)).c0; have k3 := (tY.toB hS (by omega)).c1; go_simp; try with_reducible rfl)); simp only [Act.put, List.setIfInBounds_toArray, List.set_cons_zero, List.set_cons_succ])
  refine plan_call rfl (by rfl) (fun K hK => ?_)
  go_simp
  refine (halves_r (HX.out.to (HB0.out.trans (HB.mono HB0.out.size)))).mono ?_
  rintro e V ⟨A1, c1, rfl, r1, l1, m1, bb⟩
  replace HB := HB.trans (bb.mono HB.size)
  have H1 := Hr.of_ret r1 l1 m1 Dsx (by omega)
  clear r1 l1 m1 bb
  refine hK.out _ _ (HB.mono hBW) ?_
  clear hK K
  refine plan_call rfl (by rfl) (fun K hK => ?_)
  go_simp
  refine (halves_r (HY.out.to (HB0.out.trans (HB.mono HB0.out.size)))).mono ?_
  rintro e V ⟨A2, c2, rfl, r1, l1, m1, bb⟩
  replace HB := HB.trans (bb.mono HB.size)
  have H2 := Hr.of_ret r1 l1 m1 Dsy (by omega)
  replace H1 := H1.to bb
  clear r1 l1 m1 bb
  refine hK.out _ _ (HB.mono hBW) ?_
  clear hK K
  repeat (refine plan_take (v := ?_) rfl (by rfl) ?_ ?_; rotate_left; (focus (intro w' hS; have k0 := (tX.toB hS (by omega)).c0; have k1 := (tX.toB hS (by omega)).c1; have k2 := (tY.toB hS (by omega)).c0; have k3 := (tY.toB hS (by omega)).c1; go_simp; try with_reducible rfl)); simp only [Act.put, List.setIfInBounds_toArray, List.set_cons_zero, List.set_cons_succ])
  refine plan_done ?_
  have l1 : (dig b16 (val b32 xs)).length ≤ 100000 := Nat.le_trans (dig_length_le b16_one Dsx) (by omega)
  have l2 : (dig b16 (val b32 ys)).length ≤ 100000 := Nat.le_trans (dig_length_le b16_one Dsy) (by omega)
  have HD := div_r H1 H2 l1 l2 h0
  have hQ : val b32 xs / val b32 ys < b16 ^ (2 * xs.length) := Nat.lt_of_le_of_lt (Nat.div_le_self _ _) Dsx
  have hRY := Nat.mod_lt (val b32 xs) h0
  have hly : 0 < (dig b16 (val b32 ys)).length := by
    refine Nat.pos_of_ne_zero fun h => ?_
    rw [dig_len0 b16_one] at h; omega
  clear l1 l2
  obtain ⟨X, eX⟩ : ∃ X, Hid (val b32 xs = X) := ⟨_, rfl⟩
  obtain ⟨Y, eY⟩ : ∃ Y, Hid (val b32 ys = Y) := ⟨_, rfl⟩
  obtain ⟨Q, eQ⟩ : ∃ Q, Hid (X / Y = Q) := ⟨_, rfl⟩
  obtain ⟨R, eR⟩ : ∃ R, Hid (X % Y = R) := ⟨_, rfl⟩
  rw [eX.out, eY.out, eQ.out, eR.out] at HD
  rw [eX.out, eY.out, eQ.out] at hQ
  rw [eX.out, eY.out, eR.out] at hRY
  rw [eX.out] at H1 ⊢
  rw [eY.out] at H2 hly Dsy ⊢
  clear h0
  have hly' : (0 : Int) < ((dig b16 Y).length : Int) := by omega
  have hlz : (((dig b16 Y).length : Int) == 0) = false := by rw [beq_eq_false_iff_ne]; omega
  have HD2 := Lib.hid HD
  have HHY := Lib.hid H2
  have FF := Lib.hid (show Q < b16 ^ (2 * xs.length) ∧ R < b16 ^ (2 * ys.length) from ⟨hQ, by omega⟩)
  clear HD H1 H2 hQ hRY Dsx Dsy HX HY hly
  go_wp2_with fail
  refine HD2.out.mono ?_
  rintro e V2 ⟨A5, c5, A6, c6, rfl, q1, q2, q3, z1, z2, z3, bb⟩
  have H5 := Lib.hid (Hr.of_ret q1 q2 q3 FF.out.1 (by omega))
  have H6 := Lib.hid (Hr.of_ret z1 z2 z3 FF.out.2 (by omega))
  have HY2 := Lib.hid (HHY.out.to bb)
  replace HB := HB.trans (bb.mono HB.size)
  clear q1 q2 q3 z1 z2 z3 bb HD2 HHY
  have k1 := (tX.to HB).c0
  have k2 := (tX.to HB).c1
  have k3 := (tY.to HB).c0
  have k4 := (tY.to HB).c1
  go_wp2_with fail
  clear k1 k2 k3 k4
  obtain ⟨q, eq⟩ : ∃ q : Int, Hid (zof m Q = q) := ⟨_, rfl⟩
  obtain ⟨r, er⟩ : ∃ r : Int, Hid (zof false R = r) := ⟨_, rfl⟩
  have O1 := of_r m H5.out
  rw [eq.out] at O1
  refine O1.mono ?_
  rintro e V5 ⟨xq, yq, rfl, rq, bb⟩
  obtain ⟨A9, c9, rfl, rfl, s1, s2, s3⟩ := rq
  have O2 := of_r false (H6.out.to bb)
  rw [er.out] at O2
  have O2' := Lib.hid O2
  have S1 := Lib.hid s1
  replace HB := HB.trans (bb.mono HB.size)
  clear O1 O2 s1 bb H5 H6
  go_wp2_with fail
  refine O2'.out.mono ?_
  rintro e V6 ⟨xr, yr, rfl, rr, bb⟩
  obtain ⟨A10, c10, rfl, rfl, v1, v2, v3⟩ := rr
  have S3 := Lib.hid (S1.out.to bb)
  have V3' := Lib.hid v1
  have HBF := Lib.hid (HB0.out.trans ((HB.trans (bb.mono HB.size)).mono HB0.out.size))
  have TQ := Lib.hid (tR.to (HB.trans (bb.mono HB.size)))
  have TR := Lib.hid (tS.to (HB.trans (bb.mono HB.size)))
  obtain ⟨g1, g2, g3, g4, g5⟩ := tR.to (HB.trans (bb.mono HB.size))
  obtain ⟨k1, k2, k3, k4, k5⟩ := tS.to (HB.trans (bb.mono HB.size))
  clear v1 bb HB O2' S1 tX tY tR tS
  go_wp2
  have tF := TQ.out.set (.bool (decide (q < 0))) (.slice A9 (dig b32 q.natAbs).length c9)
  have K1 := Kept.of TQ.out (fun n e => by cases e) (fun n e => by cases e) (.bool (decide (q < 0))) (.slice A9 (dig b32 q.natAbs).length c9)
  have tG0 := K1.two _ _ _ (by omega) TR.out
  have tG := tG0.set (.bool (decide (r < 0))) (.slice A10 (dig b32 r.natAbs).length c10)
  have K2 := Kept.of tG0 (fun n e => by cases e) (fun n e => by cases e) (.bool (decide (r < 0))) (.slice A10 (dig b32 r.natAbs).length c10)
  have tH := K2.two _ _ _ (by omega) tF
  refine bodyPost_ret (v := .tuple #[.agg #[.bool (decide (q < 0)), .slice A9 (dig b32 q.natAbs).length c9], .agg #[.bool (decide (r < 0)), .slice A10 (dig b32 r.natAbs).length c10], .int .i64 0])
    (by simp [results, Try.f34, go_sem, tH.c0, tH.c1, tG.c0, tG.c1]) rfl ?_
  have ZQ : Zc V6 (.bool (decide (q < 0))) (.slice A9 (dig b32 q.natAbs).length c9) q := ⟨A9, c9, rfl, rfl, S3.out, s2, s3⟩
  have ZR' : Zc V6 (.bool (decide (r < 0))) (.slice A10 (dig b32 r.natAbs).length c10) r := ⟨A10, c10, rfl, rfl, V3'.out, v2, v3⟩
  rw [eX.out, eY.out, eQ.out, eR.out, eq.out, er.out]
  exact ⟨_, _, _, _, rfl, K2.zc _ _ _ (K1.zc _ _ _ ZQ), K2.zc _ _ _ (K1.zc _ _ _ ZR'), K2.bel _ _ (K1.bel _ _ HBF.out (by omega)) (by omega)⟩
  
set_option maxRecDepth 100000 in
set_option maxHeartbeats 8000000 in
theorem rDiv_z (m : Bool) {A A' : Option Addr} {c c' : Nat} {xs ys : List Nat} {w : World} (hx : Arg w A c xs) (sx : xs.length ≤ 10000) (hy : Arg w A' c' ys) (sy : ys.length ≤ 10000) (h0 : 0 < val b32 ys) (hr : val b32 xs % val b32 ys = 0) :
    Calls Try.prog 34 #[.agg #[.bool true, .slice A xs.length c], .agg #[.bool m, .slice A' ys.length c']] w (ZZ w (zof (!m) (val b32 xs / val b32 ys)) (zof false (val b32 xs % val b32 ys))) := by
  obtain ⟨W0, hW0⟩ : ∃ W0, W0 = ((((w.alloc (.cells #[.bool true, .slice A xs.length c] 24)).alloc (.cells #[.bool m, .slice A' ys.length c'] 24)).alloc (.cells #[.bool false, .slice none 0 0] 24)).alloc (.cells #[.bool false, .slice none 0 0] 24)) := ⟨_, rfl⟩
  have hb : Below w.heap.size w W0 := by rw [hW0]; exact ((((Below.refl _ _).alloc (Nat.le_refl _) _).alloc (by simp) _).alloc (by simp; omega) _).alloc (by simp; omega) _
  have tX : Two W0 (w.heap.size) (.bool true) (.slice A xs.length c) := by
    have h := Two.new w (.bool true) (.slice A xs.length c) 24
    rw [hW0]; exact (((h.alloc _).alloc _).alloc _)
  have tY : Two W0 (w.heap.size + 1) (.bool m) (.slice A' ys.length c') := by
    have h := Two.new (w.alloc (.cells #[.bool true, .slice A xs.length c] 24)) (.bool m) (.slice A' ys.length c') 24
    rw [World.size_alloc] at h
    rw [hW0]; exact ((h.alloc _).alloc _)
  have tR : Two W0 (w.heap.size + 1 + 1) (.bool false) (.slice none 0 0) := by
    have h := Two.new ((w.alloc (.cells #[.bool true, .slice A xs.length c] 24)).alloc (.cells #[.bool m, .slice A' ys.length c'] 24)) (.bool false) (.slice none 0 0) 24
    rw [World.size_alloc, World.size_alloc] at h
    rw [hW0]; exact (h.alloc _)
  have tS : Two W0 (w.heap.size + 1 + 1 + 1) (.bool false) (.slice none 0 0) := by
    have h := Two.new (((w.alloc (.cells #[.bool true, .slice A xs.length c] 24)).alloc (.cells #[.bool m, .slice A' ys.length c'] 24)).alloc (.cells #[.bool false, .slice none 0 0] 24)) (.bool false) (.slice none 0 0) 24
    rw [World.size_alloc, World.size_alloc, World.size_alloc] at h
    rw [hW0]; exact h
  have HW0 := Lib.hid hW0
  have HB0 := Lib.hid hb
  have HX := Lib.hid hx
  have HY := Lib.hid hy
  have hBW : w.heap.size + 1 + 1 ≤ W0.heap.size := by rw [hW0]; simp
  have Dsx : val b32 xs < b16 ^ (2 * xs.length) := by rw [← pow_2k]; exact val_lt hx.dg
  have Dsy : val b32 ys < b16 ^ (2 * ys.length) := by rw [← pow_2k]; exact val_lt hy.dg
  clear hW0 hb hx hy
  go_enter Try.func34, Try.ntmps34
  go_wp2_with fail
  rw [← HW0.out]
  refine wp_region_plan (S := fun w' => Below (w.heap.size + 1 + 1) W0 w') [(0, true), (1, true), (3, true), (4, true), (2, false), (5, false), (6, true), (7, true)] (by kernel_rfl) (by kernel_rfl) (Below.refl _ _).drew ?_
  have HB := (Below.refl W0.heap.size W0).drew
  repeat (refine plan_take (v := ?_) rfl (by rfl) ?_ ?_; rotate_left; (focus (intro w' hS; have k0 := (tX.toB hS (by omega)).c0; have k1 := (tX.toB hS (by omega)).c1; have k2 := (tY.toB hS (by omega)).c0; have k3 := (tY.toB hS (by omega)).c1; go_simp; try with_reducible rfl)); simp only [Act.put, List.setIfInBounds_toArray, List.set_cons_zero, List.set_cons_succ])
  refine plan_call rfl (by rfl) (fun K hK => ?_)
  go_simp
  refine (halves_r (HX.out.to (HB0.out.trans (HB.mono HB0.out.size)))).mono ?_
  rintro e V ⟨A1, c1, rfl, r1, l1, m1, bb⟩
  replace HB := HB.trans (bb.mono HB.size)
  have H1 := Hr.of_ret r1 l1 m1 Dsx (by omega)
  clear r1 l1 m1 bb
  refine hK.out _ _ (HB.mono hBW) ?_
  clear hK K
  refine plan_call rfl (by rfl) (fun K hK => ?_)
  go_simp
  refine (halves_r (HY.out.to (HB0.out.trans (HB.mono HB0.out.size)))).mono ?_
  rintro e V ⟨A2, c2, rfl, r1, l1, m1, bb⟩
  replace HB := HB.trans (bb.mono HB.size)
  have H2 := Hr.of_ret r1 l1 m1 Dsy (by omega)
  replace H1 := H1.to bb
  clear r1 l1 m1 bb
  refine hK.out _ _ (HB.mono hBW) ?_
  clear hK K
  repeat (refine plan_take (v := ?_) rfl (by rfl) ?_ ?_; rotate_left; (focus (intro w' hS; have k0 := (tX.toB hS (by omega)).c0; have k1 := (tX.toB hS (by omega)).c1; have k2 := (tY.toB hS (by omega)).c0; have k3 := (tY.toB hS (by omega)).c1; go_simp; try with_reducible rfl)); simp only [Act.put, List.setIfInBounds_toArray, List.set_cons_zero, List.set_cons_succ])
  refine plan_done ?_
  have l1 : (dig b16 (val b32 xs)).length ≤ 100000 := Nat.le_trans (dig_length_le b16_one Dsx) (by omega)
  have l2 : (dig b16 (val b32 ys)).length ≤ 100000 := Nat.le_trans (dig_length_le b16_one Dsy) (by omega)
  have HD := div_r H1 H2 l1 l2 h0
  have hQ : val b32 xs / val b32 ys < b16 ^ (2 * xs.length) := Nat.lt_of_le_of_lt (Nat.div_le_self _ _) Dsx
  have hRY := Nat.mod_lt (val b32 xs) h0
  have hly : 0 < (dig b16 (val b32 ys)).length := by
    refine Nat.pos_of_ne_zero fun h => ?_
    rw [dig_len0 b16_one] at h; omega
  clear l1 l2
  obtain ⟨X, eX⟩ : ∃ X, Hid (val b32 xs = X) := ⟨_, rfl⟩
  obtain ⟨Y, eY⟩ : ∃ Y, Hid (val b32 ys = Y) := ⟨_, rfl⟩
  obtain ⟨Q, eQ⟩ : ∃ Q, Hid (X / Y = Q) := ⟨_, rfl⟩
  obtain ⟨R, eR⟩ : ∃ R, Hid (X % Y = R) := ⟨_, rfl⟩
  rw [eX.out, eY.out, eR.out] at hr
  rw [eX.out, eY.out, eQ.out, eR.out] at HD
  rw [eX.out, eY.out, eQ.out] at hQ
  rw [eX.out, eY.out, eR.out] at hRY
  rw [eX.out] at H1 ⊢
  rw [eY.out] at H2 hly Dsy ⊢
  clear h0
  subst hr
  have hly' : (0 : Int) < ((dig b16 Y).length : Int) := by omega
  have hlz : (((dig b16 Y).length : Int) == 0) = false := by rw [beq_eq_false_iff_ne]; omega
  have hl0 : (dig b16 0).length = 0 := by rw [dig_zero]; rfl
  have HD2 := Lib.hid HD
  have HHY := Lib.hid H2
  have FF := Lib.hid (show Q < b16 ^ (2 * xs.length) ∧ 0 < b16 ^ (2 * ys.length) from ⟨hQ, by omega⟩)
  clear HD H1 H2 hQ hRY Dsx Dsy HX HY hly
  go_wp2_with fail
  refine HD2.out.mono ?_
  rintro e V2 ⟨A5, c5, A6, c6, rfl, q1, q2, q3, z1, z2, z3, bb⟩
  have H5 := Lib.hid (Hr.of_ret q1 q2 q3 FF.out.1 (by omega))
  have H6 := Lib.hid (Hr.of_ret z1 z2 z3 FF.out.2 (by omega))
  have HY2 := Lib.hid (HHY.out.to bb)
  replace HB := HB.trans (bb.mono HB.size)
  clear q1 q2 q3 z1 z2 z3 bb HD2 HHY
  have k1 := (tX.to HB).c0
  have k2 := (tX.to HB).c1
  have k3 := (tY.to HB).c0
  have k4 := (tY.to HB).c1
  go_wp2_with fail
  clear k1 k2 k3 k4
  obtain ⟨q, eq⟩ : ∃ q : Int, Hid (zof (!m) Q = q) := ⟨_, rfl⟩
  obtain ⟨r, er⟩ : ∃ r : Int, Hid (zof false 0 = r) := ⟨_, rfl⟩
  have O1 := of_r (!m) H5.out
  rw [eq.out] at O1
  refine O1.mono ?_
  rintro e V5 ⟨xq, yq, rfl, rq, bb⟩
  obtain ⟨A9, c9, rfl, rfl, s1, s2, s3⟩ := rq
  have O2 := of_r false (H6.out.to bb)
  rw [er.out] at O2
  have O2' := Lib.hid O2
  have S1 := Lib.hid s1
  replace HB := HB.trans (bb.mono HB.size)
  clear O1 O2 s1 bb H5 H6
  go_wp2_with fail
  refine O2'.out.mono ?_
  rintro e V6 ⟨xr, yr, rfl, rr, bb⟩
  obtain ⟨A10, c10, rfl, rfl, v1, v2, v3⟩ := rr
  have S3 := Lib.hid (S1.out.to bb)
  have V3' := Lib.hid v1
  have HBF := Lib.hid (HB0.out.trans ((HB.trans (bb.mono HB.size)).mono HB0.out.size))
  have TQ := Lib.hid (tR.to (HB.trans (bb.mono HB.size)))
  have TR := Lib.hid (tS.to (HB.trans (bb.mono HB.size)))
  obtain ⟨g1, g2, g3, g4, g5⟩ := tR.to (HB.trans (bb.mono HB.size))
  obtain ⟨k1, k2, k3, k4, k5⟩ := tS.to (HB.trans (bb.mono HB.size))
  clear v1 bb HB O2' S1 tX tY tR tS
  go_wp2
  have tF := TQ.out.set (.bool (decide (q < 0))) (.slice A9 (dig b32 q.natAbs).length c9)
  have K1 := Kept.of TQ.out (fun n e => by cases e) (fun n e => by cases e) (.bool (decide (q < 0))) (.slice A9 (dig b32 q.natAbs).length c9)
  have tG0 := K1.two _ _ _ (by omega) TR.out
  have tG := tG0.set (.bool (decide (r < 0))) (.slice A10 (dig b32 r.natAbs).length c10)
  have K2 := Kept.of tG0 (fun n e => by cases e) (fun n e => by cases e) (.bool (decide (r < 0))) (.slice A10 (dig b32 r.natAbs).length c10)
  have tH := K2.two _ _ _ (by omega) tF
  refine bodyPost_ret (v := .tuple #[.agg #[.bool (decide (q < 0)), .slice A9 (dig b32 q.natAbs).length c9], .agg #[.bool (decide (r < 0)), .slice A10 (dig b32 r.natAbs).length c10], .int .i64 0])
    (by simp [results, Try.f34, go_sem, tH.c0, tH.c1, tG.c0, tG.c1]) rfl ?_
  have ZQ : Zc V6 (.bool (decide (q < 0))) (.slice A9 (dig b32 q.natAbs).length c9) q := ⟨A9, c9, rfl, rfl, S3.out, s2, s3⟩
  have ZR' : Zc V6 (.bool (decide (r < 0))) (.slice A10 (dig b32 r.natAbs).length c10) r := ⟨A10, c10, rfl, rfl, V3'.out, v2, v3⟩
  rw [eX.out, eY.out, eQ.out, eR.out, eq.out, er.out]
  exact ⟨_, _, _, _, rfl, K2.zc _ _ _ (K1.zc _ _ _ ZQ), K2.zc _ _ _ (K1.zc _ _ _ ZR'), K2.bel _ _ (K1.bel _ _ HBF.out (by omega)) (by omega)⟩
  
set_option maxRecDepth 100000 in
set_option maxHeartbeats 8000000 in
theorem rDiv_r (m : Bool) {A A' : Option Addr} {c c' : Nat} {xs ys : List Nat} {w : World} (hx : Arg w A c xs) (sx : xs.length ≤ 10000) (hy : Arg w A' c' ys) (sy : ys.length ≤ 10000) (h0 : 0 < val b32 ys) (hr : 0 < val b32 xs % val b32 ys) :
    Calls Try.prog 34 #[.agg #[.bool true, .slice A xs.length c], .agg #[.bool m, .slice A' ys.length c']] w (ZZ w (zof (!m) (val b32 xs / val b32 ys + 1)) (zof false (val b32 ys - val b32 xs % val b32 ys))) := by
  obtain ⟨W0, hW0⟩ : ∃ W0, W0 = ((((w.alloc (.cells #[.bool true, .slice A xs.length c] 24)).alloc (.cells #[.bool m, .slice A' ys.length c'] 24)).alloc (.cells #[.bool false, .slice none 0 0] 24)).alloc (.cells #[.bool false, .slice none 0 0] 24)) := ⟨_, rfl⟩
  have hb : Below w.heap.size w W0 := by rw [hW0]; exact ((((Below.refl _ _).alloc (Nat.le_refl _) _).alloc (by simp) _).alloc (by simp; omega) _).alloc (by simp; omega) _
  have tX : Two W0 (w.heap.size) (.bool true) (.slice A xs.length c) := by
    have h := Two.new w (.bool true) (.slice A xs.length c) 24
    rw [hW0]; exact (((h.alloc _).alloc _).alloc _)
  have tY : Two W0 (w.heap.size + 1) (.bool m) (.slice A' ys.length c') := by
    have h := Two.new (w.alloc (.cells #[.bool true, .slice A xs.length c] 24)) (.bool m) (.slice A' ys.length c') 24
    rw [World.size_alloc] at h
    rw [hW0]; exact ((h.alloc _).alloc _)
  have tR : Two W0 (w.heap.size + 1 + 1) (.bool false) (.slice none 0 0) := by
    have h := Two.new ((w.alloc (.cells #[.bool true, .slice A xs.length c] 24)).alloc (.cells #[.bool m, .slice A' ys.length c'] 24)) (.bool false) (.slice none 0 0) 24
    rw [World.size_alloc, World.size_alloc] at h
    rw [hW0]; exact (h.alloc _)
  have tS : Two W0 (w.heap.size + 1 + 1 + 1) (.bool false) (.slice none 0 0) := by
    have h := Two.new (((w.alloc (.cells #[.bool true, .slice A xs.length c] 24)).alloc (.cells #[.bool m, .slice A' ys.length c'] 24)).alloc (.cells #[.bool false, .slice none 0 0] 24)) (.bool false) (.slice none 0 0) 24
    rw [World.size_alloc, World.size_alloc, World.size_alloc] at h
    rw [hW0]; exact h
  have HW0 := Lib.hid hW0
  have HB0 := Lib.hid hb
  have HX := Lib.hid hx
  have HY := Lib.hid hy
  have hBW : w.heap.size + 1 + 1 ≤ W0.heap.size := by rw [hW0]; simp
  have Dsx : val b32 xs < b16 ^ (2 * xs.length) := by rw [← pow_2k]; exact val_lt hx.dg
  have Dsy : val b32 ys < b16 ^ (2 * ys.length) := by rw [← pow_2k]; exact val_lt hy.dg
  clear hW0 hb hx hy
  go_enter Try.func34, Try.ntmps34
  go_wp2_with fail
  rw [← HW0.out]
  refine wp_region_plan (S := fun w' => Below (w.heap.size + 1 + 1) W0 w') [(0, true), (1, true), (3, true), (4, true), (2, false), (5, false), (6, true), (7, true)] (by kernel_rfl) (by kernel_rfl) (Below.refl _ _).drew ?_
  have HB := (Below.refl W0.heap.size W0).drew
  repeat (refine plan_take (v := ?_) rfl (by rfl) ?_ ?_; rotate_left; (focus (intro w' hS; have k0 := (tX.toB hS (by omega)).c0; have k1 := (tX.toB hS (by omega)).c1; have k2 := (tY.toB hS (by omega)).c0; have k3 := (tY.toB hS (by omega)).c1; go_simp; try with_reducible rfl)); simp only [Act.put, List.setIfInBounds_toArray, List.set_cons_zero, List.set_cons_succ])
  refine plan_call rfl (by rfl) (fun K hK => ?_)
  go_simp
  refine (halves_r (HX.out.to (HB0.out.trans (HB.mono HB0.out.size)))).mono ?_
  rintro e V ⟨A1, c1, rfl, r1, l1, m1, bb⟩
  replace HB := HB.trans (bb.mono HB.size)
  have H1 := Hr.of_ret r1 l1 m1 Dsx (by omega)
  clear r1 l1 m1 bb
  refine hK.out _ _ (HB.mono hBW) ?_
  clear hK K
  refine plan_call rfl (by rfl) (fun K hK => ?_)
  go_simp
  refine (halves_r (HY.out.to (HB0.out.trans (HB.mono HB0.out.size)))).mono ?_
  rintro e V ⟨A2, c2, rfl, r1, l1, m1, bb⟩
  replace HB := HB.trans (bb.mono HB.size)
  have H2 := Hr.of_ret r1 l1 m1 Dsy (by omega)
  replace H1 := H1.to bb
  clear r1 l1 m1 bb
  refine hK.out _ _ (HB.mono hBW) ?_
  clear hK K
  repeat (refine plan_take (v := ?_) rfl (by rfl) ?_ ?_; rotate_left; (focus (intro w' hS; have k0 := (tX.toB hS (by omega)).c0; have k1 := (tX.toB hS (by omega)).c1; have k2 := (tY.toB hS (by omega)).c0; have k3 := (tY.toB hS (by omega)).c1; go_simp; try with_reducible rfl)); simp only [Act.put, List.setIfInBounds_toArray, List.set_cons_zero, List.set_cons_succ])
  refine plan_done ?_
  have l1 : (dig b16 (val b32 xs)).length ≤ 100000 := Nat.le_trans (dig_length_le b16_one Dsx) (by omega)
  have l2 : (dig b16 (val b32 ys)).length ≤ 100000 := Nat.le_trans (dig_length_le b16_one Dsy) (by omega)
  have HD := div_r H1 H2 l1 l2 h0
  have hQ : val b32 xs / val b32 ys < b16 ^ (2 * xs.length) := Nat.lt_of_le_of_lt (Nat.div_le_self _ _) Dsx
  have hRY := Nat.mod_lt (val b32 xs) h0
  have hly : 0 < (dig b16 (val b32 ys)).length := by
    refine Nat.pos_of_ne_zero fun h => ?_
    rw [dig_len0 b16_one] at h; omega
  clear l1 l2
  obtain ⟨X, eX⟩ : ∃ X, Hid (val b32 xs = X) := ⟨_, rfl⟩
  obtain ⟨Y, eY⟩ : ∃ Y, Hid (val b32 ys = Y) := ⟨_, rfl⟩
  obtain ⟨Q, eQ⟩ : ∃ Q, Hid (X / Y = Q) := ⟨_, rfl⟩
  obtain ⟨R, eR⟩ : ∃ R, Hid (X % Y = R) := ⟨_, rfl⟩
  rw [eX.out, eY.out, eR.out] at hr
  rw [eX.out, eY.out, eQ.out, eR.out] at HD
  rw [eX.out, eY.out, eQ.out] at hQ
  rw [eX.out, eY.out, eR.out] at hRY
  rw [eX.out] at H1 ⊢
  rw [eY.out] at H2 hly Dsy ⊢
  clear h0
  have hly' : (0 : Int) < ((dig b16 Y).length : Int) := by omega
  have hlz : (((dig b16 Y).length : Int) == 0) = false := by rw [beq_eq_false_iff_ne]; omega
  have hlr : 0 < (dig b16 R).length := by
    refine Nat.pos_of_ne_zero fun h => ?_
    rw [dig_len0 b16_one] at h; omega
  have hlr' : (0 : Int) < ((dig b16 R).length : Int) := by omega
  have FR := Lib.hid (show R ≤ Y ∧ Y - R < b16 ^ (2 * ys.length) from ⟨by omega, by omega⟩)
  have FQ : Hid (Q + 1 < b16 ^ (2 * xs.length + 1)) := by
    show _ < _
    rw [Nat.pow_succ]
    have h2 : b16 ^ (2 * xs.length) * 2 ≤ b16 ^ (2 * xs.length) * b16 := Nat.mul_le_mul_left _ (by decide)
    omega
  clear hlr
  have HD2 := Lib.hid HD
  have HHY := Lib.hid H2
  have FF := Lib.hid (show Q < b16 ^ (2 * xs.length) ∧ R < b16 ^ (2 * ys.length) from ⟨hQ, by omega⟩)
  clear HD H1 H2 hQ hRY Dsx Dsy HX HY hly
  go_wp2_with fail
  refine HD2.out.mono ?_
  rintro e V2 ⟨A5, c5, A6, c6, rfl, q1, q2, q3, z1, z2, z3, bb⟩
  have H5 := Lib.hid (Hr.of_ret q1 q2 q3 FF.out.1 (by omega))
  have H6 := Lib.hid (Hr.of_ret z1 z2 z3 FF.out.2 (by omega))
  have HY2 := Lib.hid (HHY.out.to bb)
  replace HB := HB.trans (bb.mono HB.size)
  clear q1 q2 q3 z1 z2 z3 bb HD2 HHY
  have k1 := (tX.to HB).c0
  have k2 := (tX.to HB).c1
  have k3 := (tY.to HB).c0
  have k4 := (tY.to HB).c1
  go_wp2_with fail
  clear k1 k2 k3 k4
  have hn1 := @unit_new V2
  have ha := add_r (H5.out.to hn1.2) hn1.1
  rw [one_len] at ha
  refine ha.mono ?_
  rintro e V3 ⟨A7, c7, rfl, z1, z2, z3, bb⟩
  have H7 := Lib.hid (Hr.of_ret z1 z2 z3 FQ.out (by omega))
  have bb2 := hn1.2.trans (bb.mono hn1.2.size)
  have H6' := Lib.hid (H6.out.to bb2)
  have HY3 := Lib.hid (HY2.out.to bb2)
  replace HB := HB.trans (bb2.mono HB.size)
  clear z1 z2 z3 bb bb2 H5 H6 HY2 ha hn1
  go_wp2_with fail
  refine (sub_r HY3.out H6'.out FR.out.1).mono ?_
  rintro e V4 ⟨A8, c8, rfl, z1, z2, z3, bb⟩
  have H8 := Lib.hid (Hr.of_ret z1 z2 z3 FR.out.2 (by omega))
  have H9 := Lib.hid (H7.out.to bb)
  replace HB := HB.trans (bb.mono HB.size)
  clear z1 z2 z3 bb H6' H7 HY3
  have k1 := (tX.to HB).c0
  have k2 := (tX.to HB).c1
  have k3 := (tY.to HB).c0
  have k4 := (tY.to HB).c1
  go_wp2_with fail
  clear k1 k2 k3 k4
  obtain ⟨q, eq⟩ : ∃ q : Int, Hid (zof (!m) (Q + 1) = q) := ⟨_, rfl⟩
  obtain ⟨r, er⟩ : ∃ r : Int, Hid (zof false (Y - R) = r) := ⟨_, rfl⟩
  have O1 := of_r (!m) H9.out
  rw [eq.out] at O1
  refine O1.mono ?_
  rintro e V5 ⟨xq, yq, rfl, rq, bb⟩
  obtain ⟨A9, c9, rfl, rfl, s1, s2, s3⟩ := rq
  have O2 := of_r false (H8.out.to bb)
  rw [er.out] at O2
  have O2' := Lib.hid O2
  have S1 := Lib.hid s1
  replace HB := HB.trans (bb.mono HB.size)
  clear O1 O2 s1 bb H9 H8
  go_wp2_with fail
  refine O2'.out.mono ?_
  rintro e V6 ⟨xr, yr, rfl, rr, bb⟩
  obtain ⟨A10, c10, rfl, rfl, v1, v2, v3⟩ := rr
  have S3 := Lib.hid (S1.out.to bb)
  have V3' := Lib.hid v1
  have HBF := Lib.hid (HB0.out.trans ((HB.trans (bb.mono HB.size)).mono HB0.out.size))
  have TQ := Lib.hid (tR.to (HB.trans (bb.mono HB.size)))
  have TR := Lib.hid (tS.to (HB.trans (bb.mono HB.size)))
  obtain ⟨g1, g2, g3, g4, g5⟩ := tR.to (HB.trans (bb.mono HB.size))
  obtain ⟨k1, k2, k3, k4, k5⟩ := tS.to (HB.trans (bb.mono HB.size))
  clear v1 bb HB O2' S1 tX tY tR tS
  go_wp2
  have tF := TQ.out.set (.bool (decide (q < 0))) (.slice A9 (dig b32 q.natAbs).length c9)
  have K1 := Kept.of TQ.out (fun n e => by cases e) (fun n e => by cases e) (.bool (decide (q < 0))) (.slice A9 (dig b32 q.natAbs).length c9)
  have tG0 := K1.two _ _ _ (by omega) TR.out
  have tG := tG0.set (.bool (decide (r < 0))) (.slice A10 (dig b32 r.natAbs).length c10)
  have K2 := Kept.of tG0 (fun n e => by cases e) (fun n e => by cases e) (.bool (decide (r < 0))) (.slice A10 (dig b32 r.natAbs).length c10)
  have tH := K2.two _ _ _ (by omega) tF
  refine bodyPost_ret (v := .tuple #[.agg #[.bool (decide (q < 0)), .slice A9 (dig b32 q.natAbs).length c9], .agg #[.bool (decide (r < 0)), .slice A10 (dig b32 r.natAbs).length c10], .int .i64 0])
    (by simp [results, Try.f34, go_sem, tH.c0, tH.c1, tG.c0, tG.c1]) rfl ?_
  have ZQ : Zc V6 (.bool (decide (q < 0))) (.slice A9 (dig b32 q.natAbs).length c9) q := ⟨A9, c9, rfl, rfl, S3.out, s2, s3⟩
  have ZR' : Zc V6 (.bool (decide (r < 0))) (.slice A10 (dig b32 r.natAbs).length c10) r := ⟨A10, c10, rfl, rfl, V3'.out, v2, v3⟩
  rw [eX.out, eY.out, eQ.out, eR.out, eq.out, er.out]
  exact ⟨_, _, _, _, rfl, K2.zc _ _ _ (K1.zc _ _ _ ZQ), K2.zc _ _ _ (K1.zc _ _ _ ZR'), K2.bel _ _ (K1.bel _ _ HBF.out (by omega)) (by omega)⟩
  
set_option maxRecDepth 100000 in
set_option maxHeartbeats 8000000 in
theorem rDiv_0 (m : Bool) {A A' : Option Addr} {c c' : Nat} {xs ys : List Nat} {w : World} (hx : Arg w A c xs) (sx : xs.length ≤ 10000) (hy : Arg w A' c' ys) (sy : ys.length ≤ 10000) (n : Bool) (h0 : val b32 ys = 0) :
    Calls Try.prog 34 #[.agg #[.bool n, .slice A xs.length c], .agg #[.bool m, .slice A' ys.length c']] w fun e w' => e = .returned (.tuple #[.agg #[.bool false, .slice none 0 0], .agg #[.bool false, .slice none 0 0], .int .i64 7]) ∧ Below w.heap.size w w' := by
  obtain ⟨W0, hW0⟩ : ∃ W0, W0 = ((((w.alloc (.cells #[.bool n, .slice A xs.length c] 24)).alloc (.cells #[.bool m, .slice A' ys.length c'] 24)).alloc (.cells #[.bool false, .slice none 0 0] 24)).alloc (.cells #[.bool false, .slice none 0 0] 24)) := ⟨_, rfl⟩
  have hb : Below w.heap.size w W0 := by rw [hW0]; exact ((((Below.refl _ _).alloc (Nat.le_refl _) _).alloc (by simp) _).alloc (by simp; omega) _).alloc (by simp; omega) _
  have tX : Two W0 (w.heap.size) (.bool n) (.slice A xs.length c) := by
    have h := Two.new w (.bool n) (.slice A xs.length c) 24
    rw [hW0]; exact (((h.alloc _).alloc _).alloc _)
  have tY : Two W0 (w.heap.size + 1) (.bool m) (.slice A' ys.length c') := by
    have h := Two.new (w.alloc (.cells #[.bool n, .slice A xs.length c] 24)) (.bool m) (.slice A' ys.length c') 24
    rw [World.size_alloc] at h
    rw [hW0]; exact ((h.alloc _).alloc _)
  have tR : Two W0 (w.heap.size + 1 + 1) (.bool false) (.slice none 0 0) := by
    have h := Two.new ((w.alloc (.cells #[.bool n, .slice A xs.length c] 24)).alloc (.cells #[.bool m, .slice A' ys.length c'] 24)) (.bool false) (.slice none 0 0) 24
    rw [World.size_alloc, World.size_alloc] at h
    rw [hW0]; exact (h.alloc _)
  have tS : Two W0 (w.heap.size + 1 + 1 + 1) (.bool false) (.slice none 0 0) := by
    have h := Two.new (((w.alloc (.cells #[.bool n, .slice A xs.length c] 24)).alloc (.cells #[.bool m, .slice A' ys.length c'] 24)).alloc (.cells #[.bool false, .slice none 0 0] 24)) (.bool false) (.slice none 0 0) 24
    rw [World.size_alloc, World.size_alloc, World.size_alloc] at h
    rw [hW0]; exact h
  have HW0 := Lib.hid hW0
  have HB0 := Lib.hid hb
  have HX := Lib.hid hx
  have HY := Lib.hid hy
  have hBW : w.heap.size + 1 + 1 ≤ W0.heap.size := by rw [hW0]; simp
  have Dsx : val b32 xs < b16 ^ (2 * xs.length) := by rw [← pow_2k]; exact val_lt hx.dg
  have Dsy : val b32 ys < b16 ^ (2 * ys.length) := by rw [← pow_2k]; exact val_lt hy.dg
  clear hW0 hb hx hy
  go_enter Try.func34, Try.ntmps34
  go_wp2_with fail
  rw [← HW0.out]
  refine wp_region_plan (S := fun w' => Below (w.heap.size + 1 + 1) W0 w') [(0, true), (1, true), (3, true), (4, true), (2, false), (5, false), (6, true), (7, true)] (by kernel_rfl) (by kernel_rfl) (Below.refl _ _).drew ?_
  have HB := (Below.refl W0.heap.size W0).drew
  repeat (refine plan_take (v := ?_) rfl (by rfl) ?_ ?_; rotate_left; (focus (intro w' hS; have k0 := (tX.toB hS (by omega)).c0; have k1 := (tX.toB hS (by omega)).c1; have k2 := (tY.toB hS (by omega)).c0; have k3 := (tY.toB hS (by omega)).c1; go_simp; try with_reducible rfl)); simp only [Act.put, List.setIfInBounds_toArray, List.set_cons_zero, List.set_cons_succ])
  refine plan_call rfl (by rfl) (fun K hK => ?_)
  go_simp
  refine (halves_r (HX.out.to (HB0.out.trans (HB.mono HB0.out.size)))).mono ?_
  rintro e V ⟨A1, c1, rfl, r1, l1, m1, bb⟩
  replace HB := HB.trans (bb.mono HB.size)
  have H1 := Hr.of_ret r1 l1 m1 Dsx (by omega)
  clear r1 l1 m1 bb
  refine hK.out _ _ (HB.mono hBW) ?_
  clear hK K
  refine plan_call rfl (by rfl) (fun K hK => ?_)
  go_simp
  refine (halves_r (HY.out.to (HB0.out.trans (HB.mono HB0.out.size)))).mono ?_
  rintro e V ⟨A2, c2, rfl, r1, l1, m1, bb⟩
  replace HB := HB.trans (bb.mono HB.size)
  have H2 := Hr.of_ret r1 l1 m1 Dsy (by omega)
  replace H1 := H1.to bb
  clear r1 l1 m1 bb
  refine hK.out _ _ (HB.mono hBW) ?_
  clear hK K
  repeat (refine plan_take (v := ?_) rfl (by rfl) ?_ ?_; rotate_left; (focus (intro w' hS; have k0 := (tX.toB hS (by omega)).c0; have k1 := (tX.toB hS (by omega)).c1; have k2 := (tY.toB hS (by omega)).c0; have k3 := (tY.toB hS (by omega)).c1; go_simp; try with_reducible rfl)); simp only [Act.put, List.setIfInBounds_toArray, List.set_cons_zero, List.set_cons_succ])
  refine plan_done ?_
  rw [h0] at H2 ⊢
  have hl0 : (dig b16 0).length = 0 := by rw [dig_zero]; rfl
  have HE := Lib.hid (HB0.out.trans (HB.mono HB0.out.size))
  have TQ := Lib.hid (tR.to HB)
  have TR := Lib.hid (tS.to HB)
  obtain ⟨g1, g2, g3, g4, g5⟩ := tR.to HB
  obtain ⟨k1, k2, k3, k4, k5⟩ := tS.to HB
  clear HB tX tY tR tS H1 H2 Dsx Dsy h0 HX HY
  go_wp2
  have tF := TQ.out.set (.bool false) (.slice none 0 0)
  have K1 := Kept.of TQ.out (fun n e => by cases e) (fun n e => by cases e) (.bool false) (.slice none 0 0)
  have tG0 := K1.two _ _ _ (by omega) TR.out
  have tG := tG0.set (.bool false) (.slice none 0 0)
  have K2 := Kept.of tG0 (fun n e => by cases e) (fun n e => by cases e) (.bool false) (.slice none 0 0)
  have tH := K2.two _ _ _ (by omega) tF
  refine bodyPost_ret (v := .tuple #[.agg #[.bool false, .slice none 0 0], .agg #[.bool false, .slice none 0 0], .int .i64 7])
    (by simp [results, Try.f34, go_sem, tH.c0, tH.c1, tG.c0, tG.c1]) rfl ?_
  exact ⟨rfl, K2.bel _ _ (K1.bel _ _ HE.out (by omega)) (by omega)⟩
  

theorem ediv_one {a b q r : Int} (hb : b ≠ 0) (h : a = q * b + r) (h0 : 0 ≤ r) (h1 : r < b.natAbs) : a / b = q ∧ a % b = r := by
  have h2 := Int.emod_add_mul_ediv a b
  have h5 : a % b = r := by
    rw [h, Int.add_comm, Int.mul_comm, Int.add_mul_emod_self_left]
    rcases Int.lt_or_le b 0 with hn | hp
    · rw [← Int.emod_neg, Int.emod_eq_of_lt h0 (by omega)]
    · rw [Int.emod_eq_of_lt h0 (by omega)]
  refine ⟨?_, h5⟩
  have h6 : b * (a / b) = b * q := by rw [Int.mul_comm b q]; omega
  exact Int.eq_of_mul_eq_mul_left hb h6

/-- Division with a sign, by magnitudes. -/
theorem zdiv_f {X Y : Nat} (m : Bool) (hY : 0 < Y) : zof false X / zof m Y = zof m (X / Y) ∧ zof false X % zof m Y = zof false (X % Y) := by
  have h1 := Nat.mod_add_div X Y
  have h2 := Nat.mod_lt X hY
  obtain ⟨q, eq⟩ : ∃ q, X / Y = q := ⟨_, rfl⟩
  obtain ⟨r, er⟩ : ∃ r, X % Y = r := ⟨_, rfl⟩
  rw [eq, er] at h1 ⊢
  rw [er] at h2
  have h3 : (X : Int) = (q : Int) * (Y : Int) + (r : Int) := by rw [← h1, Int.mul_comm]; push_cast; omega
  cases m
  · exact ediv_one (by simp [zof]; omega) (by simpa [zof] using h3) (by simp [zof]) (by simp [zof]; omega)
  · exact ediv_one (by simp [zof]; omega) (by simp only [zof, if_true, Bool.false_eq_true, if_false, Int.neg_mul, Int.mul_neg]; omega) (by simp [zof]) (by simp [zof]; omega)
theorem zdiv_t {X Y : Nat} (m : Bool) (hY : 0 < Y) (hr : X % Y = 0) : zof true X / zof m Y = zof (!m) (X / Y) ∧ zof true X % zof m Y = zof false 0 := by
  have h1 := Nat.mod_add_div X Y
  obtain ⟨q, eq⟩ : ∃ q, X / Y = q := ⟨_, rfl⟩
  rw [hr, eq] at h1
  rw [eq]
  have h3 : (X : Int) = (q : Int) * (Y : Int) := by rw [← h1, Int.mul_comm]; push_cast; omega
  cases m
  · exact ediv_one (by simp [zof]; omega) (by simp only [zof, if_true, Bool.false_eq_true, if_false, Int.neg_mul, Int.mul_neg, Bool.not_false]; omega) (by simp [zof]) (by simp [zof]; omega)
  · exact ediv_one (by simp [zof]; omega) (by simp only [zof, if_true, Bool.false_eq_true, if_false, Int.neg_mul, Int.mul_neg, Bool.not_true]; omega) (by simp [zof]) (by simp [zof]; omega)
theorem zdiv_r {X Y : Nat} (m : Bool) (hY : 0 < Y) (hr : 0 < X % Y) : zof true X / zof m Y = zof (!m) (X / Y + 1) ∧ zof true X % zof m Y = zof false (Y - X % Y) := by
  have h1 := Nat.mod_add_div X Y
  have h2 := Nat.mod_lt X hY
  obtain ⟨q, eq⟩ : ∃ q, X / Y = q := ⟨_, rfl⟩
  obtain ⟨r, er⟩ : ∃ r, X % Y = r := ⟨_, rfl⟩
  rw [eq, er] at h1 ⊢
  rw [er] at h2 hr
  have h3 : (X : Int) = (q : Int) * (Y : Int) + (r : Int) := by rw [← h1, Int.mul_comm]; push_cast; omega
  cases m
  · exact ediv_one (by simp [zof]; omega) (by simp only [zof, if_true, Bool.false_eq_true, if_false, Int.neg_mul, Int.mul_neg, Bool.not_false]; push_cast [Nat.le_of_lt h2]; rw [Int.add_mul]; omega) (by simp [zof]) (by simp [zof]; omega)
  · exact ediv_one (by simp [zof]; omega) (by simp only [zof, if_true, Bool.false_eq_true, if_false, Int.neg_mul, Int.mul_neg, Bool.not_true]; push_cast [Nat.le_of_lt h2]; rw [Int.add_mul]; omega) (by simp [zof]) (by simp [zof]; omega)

theorem rdiv_z {w : World} {x y x' y' : Value} {a b : Int} (ha : Zl w x y a) (hb : Zl w x' y' b) (hb0 : b ≠ 0) : Calls Try.prog 34 #[.agg #[x, y], .agg #[x', y']] w (ZZ w (a / b) (a % b)) := by
  obtain ⟨n, A, c, xs, rfl, rfl, h3, h4, rfl⟩ := ha
  obtain ⟨m, B, d, ys, rfl, rfl, k3, k4, rfl⟩ := hb
  have hY : 0 < val b32 ys := Nat.pos_of_ne_zero fun e => hb0 (by rw [e]; cases m <;> simp [zof])
  cases n
  · rw [(zdiv_f m hY).1, (zdiv_f m hY).2]
    exact rDiv_f m h3 h4 k3 k4 hY
  · rcases Nat.eq_zero_or_pos (val b32 xs % val b32 ys) with hr | hr
    · have h := rDiv_z m h3 h4 k3 k4 hY hr
      rw [(zdiv_t m hY hr).1, (zdiv_t m hY hr).2]
      rwa [hr] at h
    · rw [(zdiv_r m hY hr).1, (zdiv_r m hY hr).2]
      exact rDiv_r m h3 h4 k3 k4 hY hr
theorem rdiv_z0 {w : World} {x y x' y' : Value} {a : Int} (ha : Zl w x y a) (hb : Zl w x' y' 0) : Calls Try.prog 34 #[.agg #[x, y], .agg #[x', y']] w (fun e w' => e = .returned (.tuple #[.agg #[.bool false, .slice none 0 0], .agg #[.bool false, .slice none 0 0], .int .i64 7]) ∧ Below w.heap.size w w') := by
  obtain ⟨n, A, c, xs, rfl, rfl, h3, h4, rfl⟩ := ha
  obtain ⟨m, B, d, ys, rfl, rfl, k3, k4, h0⟩ := hb
  exact rDiv_0 m h3 h4 k3 k4 n (by cases m <;> simp [zof] at h0 <;> omega)

end Go.Proofs.Ytoaghihhobggoaa

namespace Go.Proofs.Ytoaghihhobggoaa
open Go.RowKit Go.Shelf

/-- A call hands back two integers and a number that says what was wrong. -/
def ZE (w : World) (a b : Int) (k : Int) (e : Ending) (w' : World) : Prop := ∃ xq yq xr yr, e = .returned (.tuple #[.agg #[xq, yq], .agg #[xr, yr], .int .i64 k]) ∧ Zc w' xq yq a ∧ Zc w' xr yr b ∧ Below w.heap.size w w'

theorem zc_nil (W : World) : Zc W (.bool false) (.slice none 0 0) 0 := ⟨none, 0, rfl, rfl, Rd.nil, Nat.le_refl _, by decide⟩

theorem DRet.ze {w w' : World} {q r : Int} {e : Ending} (h : DRet w q r e w') : ZE w q r 0 e w' := by
  obtain ⟨A1, c1, A2, c2, rfl, h1, h2, h3, h4, h5, h6, h7⟩ := h
  exact ⟨_, _, _, _, rfl, ⟨A1, c1, rfl, rfl, h1, h3, h4⟩, ⟨A2, c2, rfl, rfl, h2, h5, h6⟩, h7⟩

set_option maxRecDepth 100000 in
set_option maxHeartbeats 2000000 in
theorem dx_zero (n m : Bool) {A A' : Option Addr} {c c' : Nat} {xs ys : List Nat} {w : World} (hx : Arg w A c xs) (hy : Arg w A' c' ys) (h0 : val b32 ys = 0) :
    Calls Try.prog 33 #[.agg #[.bool n, .slice A xs.length c], .agg #[.bool m, .slice A' ys.length c']] w (ZE w 0 0 7) := by
  have HX := Lib.hid hx
  have HY := Lib.hid hy
  have hq : ((((trimL ys).length : Nat) : Int) == 0) = true := by
    rw [trimL_dig b32_one hy.dg, h0]; rfl
  clear hx hy h0
  obtain ⟨W0, hW0⟩ : ∃ W0, W0 = (((w.alloc (.cells #[.bool n, .slice A xs.length c] 24)).alloc (.cells #[.bool m, .slice A' ys.length c'] 24)).alloc (.cells #[.bool false, .slice none 0 0] 24)).alloc (.cells #[.bool false, .slice none 0 0] 24) := ⟨_, rfl⟩
  have hb : Below w.heap.size w W0 := by rw [hW0]; exact ((((Below.refl _ _).alloc (Nat.le_refl _) _).alloc (by simp) _).alloc (by simp; omega) _).alloc (by simp; omega) _
  have tX : Zat W0 w.heap.size (.bool n) (.slice A xs.length c) := by rw [hW0]; exact (((Zat.new w _ _).alloc _).alloc _).alloc _
  have tY : Zat W0 (w.heap.size + 1) (.bool m) (.slice A' ys.length c') := by
    have h := Zat.new (w.alloc (.cells #[.bool n, .slice A xs.length c] 24)) (.bool m) (.slice A' ys.length c')
    rw [World.size_alloc] at h
    rw [hW0]; exact (h.alloc _).alloc _
  have tQ : Zat W0 (w.heap.size + 1 + 1) (.bool false) (.slice none 0 0) := by
    have h := Zat.new ((w.alloc (.cells #[.bool n, .slice A xs.length c] 24)).alloc (.cells #[.bool m, .slice A' ys.length c'] 24)) (.bool false) (.slice none 0 0)
    rw [World.size_alloc, World.size_alloc] at h
    rw [hW0]; exact h.alloc _
  have tR : Zat W0 (w.heap.size + 1 + 1 + 1) (.bool false) (.slice none 0 0) := by
    have h := Zat.new (((w.alloc (.cells #[.bool n, .slice A xs.length c] 24)).alloc (.cells #[.bool m, .slice A' ys.length c'] 24)).alloc (.cells #[.bool false, .slice none 0 0] 24)) (.bool false) (.slice none 0 0)
    rw [World.size_alloc, World.size_alloc, World.size_alloc] at h
    rw [hW0]; exact h
  have q1 := tX.two.c1
  have q2 := tY.two.c1
  have HW0 := Lib.hid hW0
  clear hW0
  go_enter Try.func33, Try.ntmps33
  go_wp2_with fail
  rw [← HW0.out]
  go_quiet ((first | (go_at_call 44; with_reducible exact Calls.quiet_of_same (trim_q (HX.out.to (hb.trans (bel_drewN (Below.refl _ _) _))))) | (go_at_call 44; with_reducible exact Calls.quiet_of_same (trim_q (HY.out.to (hb.trans (bel_drewN (Below.refl _ _) _)))))))
  rename_i nq
  have hb1 : Below w.heap.size w (W0.drewN nq) := bel_drewN hb _
  have tX1 : Two (W0.drewN nq) w.heap.size _ _ := tX.two.to (bel_drewN (Below.refl _ _) _)
  have tY1 : Two (W0.drewN nq) (w.heap.size + 1) _ _ := tY.two.to (bel_drewN (Below.refl _ _) _)
  have tQ1 : Two (W0.drewN nq) (w.heap.size + 1 + 1) _ _ := tQ.two.to (bel_drewN (Below.refl _ _) _)
  have tR1 : Two (W0.drewN nq) (w.heap.size + 1 + 1 + 1) _ _ := tR.two.to (bel_drewN (Below.refl _ _) _)
  generalize W0.drewN nq = W1 at hb1 tX1 tY1 tQ1 tR1 ⊢
  clear q1 q2 tX tY tQ tR hb HW0
  have HB := Lib.hid hb1
  have TQ := Lib.hid tQ1
  have TR := Lib.hid tR1
  obtain ⟨g1, g2, g3, g4, g5⟩ := tQ1
  obtain ⟨k1, k2, k3, k4, k5⟩ := tR1
  clear tX1 tY1 hb1 HX HY
  go_wp2
  have tF := TQ.out.set (.bool false) (.slice none 0 0)
  have K1 := Kept.of TQ.out (fun n e => by cases e) (fun n e => by cases e) (.bool false) (.slice none 0 0)
  have tG0 := K1.two _ _ _ (by omega) TR.out
  have tG := tG0.set (.bool false) (.slice none 0 0)
  have K2 := Kept.of tG0 (fun n e => by cases e) (fun n e => by cases e) (.bool false) (.slice none 0 0)
  have tH := K2.two _ _ _ (by omega) tF
  refine bodyPost_ret (v := .tuple #[.agg #[.bool false, .slice none 0 0], .agg #[.bool false, .slice none 0 0], .int .i64 7])
    (by simp [results, Try.f33, go_sem, tH.c0, tH.c1, tG.c0, tG.c1]) rfl ?_
  exact ⟨_, _, _, _, rfl, zc_nil _, zc_nil _, K2.bel _ _ (K1.bel _ _ HB.out (by omega)) (by omega)⟩

/-- The remainder, 0 where the divisor is 0. -/
def dr (a b : Int) : Int := if b = 0 then 0 else a % b
/-- What was wrong. -/
def de (b : Int) : Int := if b = 0 then 7 else 0

theorem dm_x {w : World} {x y x' y' : Value} {a b : Int} (ha : Zl w x y a) (hb : Zl w x' y' b) : Calls Try.prog 33 #[.agg #[x, y], .agg #[x', y']] w (ZE w (a / b) (dr a b) (de b)) := by
  obtain ⟨n, A, c, xs, rfl, rfl, h3, h4, rfl⟩ := ha
  obtain ⟨m, B, d, ys, rfl, rfl, k3, k4, rfl⟩ := hb
  rcases Nat.eq_zero_or_pos (val b32 ys) with hY | hY
  · have e0 : zof m (val b32 ys) = 0 := by rw [hY]; cases m <;> rfl
    unfold dr de
    rw [e0, if_pos rfl, if_pos rfl, Int.ediv_zero]
    exact dx_zero n m h3 k3 hY
  · have e0 : zof m (val b32 ys) ≠ 0 := by cases m <;> simp [zof] <;> omega
    unfold dr de
    rw [if_neg e0, if_neg e0]
    have hl : xs.length ≤ 4294967293 := by omega
    cases n
    · rw [(zdiv_f m hY).1, (zdiv_f m hY).2]
      cases m
      · exact (dx_ff h3 k3 hl hY).mono fun _ _ h => h.ze
      · exact (dx_ft h3 k3 hl hY).mono fun _ _ h => h.ze
    · rcases Nat.eq_zero_or_pos (val b32 xs % val b32 ys) with hr | hr
      · rw [(zdiv_t m hY hr).1, (zdiv_t m hY hr).2]
        cases m
        · have h := dx_tfz h3 k3 hl hY hr
          rw [hr] at h
          exact h.mono fun _ _ h => h.ze
        · have h := dx_ttz h3 k3 hl hY hr
          rw [hr] at h
          exact h.mono fun _ _ h => h.ze
      · rw [(zdiv_r m hY hr).1, (zdiv_r m hY hr).2]
        cases m
        · exact (dx_tfn h3 k3 hl hY hr).mono fun _ _ h => h.ze
        · exact (dx_ttn h3 k3 hl hY hr).mono fun _ _ h => h.ze

theorem rd_x {w : World} {x y x' y' : Value} {a b : Int} (ha : Zl w x y a) (hb : Zl w x' y' b) : Calls Try.prog 34 #[.agg #[x, y], .agg #[x', y']] w (ZE w (a / b) (dr a b) (de b)) := by
  by_cases h : b = 0
  · subst h
    unfold dr de
    rw [if_pos rfl, if_pos rfl, Int.ediv_zero]
    exact (rdiv_z0 ha hb).mono fun _ _ ⟨h, hb⟩ => ⟨_, _, _, _, h, zc_nil _, zc_nil _, hb⟩
  · unfold dr de
    rw [if_neg h, if_neg h]
    exact rdiv_z ha hb h

theorem gcd_x {w : World} {x y x' y' : Value} {a b : Int} (ha : Zl w x y a) (hb : Zl w x' y' b) : Calls Try.prog 35 #[.agg #[x, y], .agg #[x', y']] w (ZR w (Int.gcd a b : Nat)) := by
  obtain ⟨n, A, c, xs, rfl, rfl, h3, h4, rfl⟩ := ha
  obtain ⟨m, B, d, ys, rfl, rfl, k3, k4, rfl⟩ := hb
  have h := gcd_all n m h3 k3 (by omega) (by omega)
  rw [show Int.gcd (zof n (val b32 xs)) (zof m (val b32 ys)) = Nat.gcd (val b32 xs) (val b32 ys) from by unfold Int.gcd; rw [zof_abs, zof_abs]]
  exact h.mono fun _ _ h => h.zr
end Go.Proofs.Ytoaghihhobggoaa
