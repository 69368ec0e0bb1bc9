/- Mul. -/
import Derived.Test.YtlnjnoingiohjaaOps
import Derived.Test.YtlnjnoingiohjaaMul
import Derived.Test.YtlnjnoingiohjaaPlan
namespace Go.Proofs.Ytlnjnoingiohjaa
open Go.RowKit Go.Shelf

set_option maxRecDepth 100000 in
set_option maxHeartbeats 4000000 in
theorem mul_any (na nb : Bool) {A A' : Option Addr} {c c' : Nat} {xs ys : List Nat} {w : World} (hx : Arg w A c xs) (hy : Arg w A' c' ys) :
    Calls Try.prog 23 #[.agg #[.bool na, .slice A xs.length c], .agg #[.bool nb, .slice A' ys.length c']] w (ZRet w (zof (!(na == nb)) (val b32 xs * val b32 ys))) := by
  have HX := Lib.hid hx
  have HY := Lib.hid hy
  clear hx hy
  obtain ⟨s, hs⟩ : ∃ s, (!(na == nb)) = s := ⟨_, rfl⟩
  rw [hs]
  obtain ⟨W0, hW0⟩ : ∃ W0, W0 = ((w.alloc (.cells #[.bool na, .slice A xs.length c] 24)).alloc (.cells #[.bool nb, .slice A' ys.length c'] 24)).alloc (.cells #[.bool false, .slice none 0 0] 24) := ⟨_, rfl⟩
  have hb : Below w.heap.size w W0 := by rw [hW0]; exact (((Below.refl _ _).alloc (Nat.le_refl _) _).alloc (by simp) _).alloc (by simp; omega) _
  have tX : Two W0 w.heap.size (.bool na) (.slice A xs.length c) := by rw [hW0]; exact ((Two.new w _ _ _).alloc _).alloc _
  have tY : Two W0 (w.heap.size + 1) (.bool nb) (.slice A' ys.length c') := by
    have h := Two.new (w.alloc (.cells #[.bool na, .slice A xs.length c] 24)) (.bool nb) (.slice A' ys.length c') 24
    rw [World.size_alloc] at h
    rw [hW0]; exact h.alloc _
  have tR : Two W0 (w.heap.size + 1 + 1) (.bool false) (.slice none 0 0) := by
    have h := Two.new ((w.alloc (.cells #[.bool na, .slice A xs.length c] 24)).alloc (.cells #[.bool nb, .slice A' ys.length c'] 24)) (.bool false) (.slice none 0 0) 24
    rw [World.size_alloc, World.size_alloc] at h
    rw [hW0]; exact h
  have HW0 := Lib.hid hW0
  clear hW0
  go_enter Try.func23, Try.ntmps23
  go_wp2_with fail
  rw [← HW0.out]
  have q1 := tX.c0
  have q2 := tX.c1
  have q3 := tY.c0
  have q4 := tY.c1
  have tXd := tX.to ((Below.refl _ W0).drew)
  have tYd := tY.to ((Below.refl _ W0).drew)
  have tRd := tR.to ((Below.refl _ W0).drew)
  obtain ⟨z, ez⟩ : ∃ z, Hid (zof s (val b32 xs * val b32 ys) = z) := ⟨_, rfl⟩
  have HM := Lib.hid (multiply_any (HX.out.to hb.drew).trim (HY.out.to hb.drew).trim)
  rw [val_trimL, val_trimL] at HM
  have q5 : W0.drew.cell? ⟨w.heap.size, 0, none⟩ = some (.bool na) := q1
  refine wp_region_plan (S := fun w' => w'.cell? ⟨w.heap.size, 0, none⟩ = some (.bool na) ∧ w'.cell? ⟨w.heap.size, 1, none⟩ = some (.slice A xs.length c) ∧ w'.cell? ⟨w.heap.size + 1, 0, none⟩ = some (.bool nb) ∧ w'.cell? ⟨w.heap.size + 1, 1, none⟩ = some (.slice A' ys.length c')) [(0, true), (1, true), (2, true), (3, true), (4, true), (5, true), (6, true), (8, true), (9, true), (7, false), (10, false), (11, false), (12, false), (13, false)] (by kernel_rfl) (by kernel_rfl) ⟨q1, q2, q3, q4⟩ ?_
  repeat (refine plan_take (v := ?_) rfl (by rfl) ?_ ?_; rotate_left; (focus (intro w' hS; obtain ⟨k1, k2, k3, k4⟩ := hS; go_simp; try with_reducible rfl)); simp only [Act.put, List.setIfInBounds_toArray, List.set_cons_zero, List.set_cons_succ])
  refine plan_call rfl (by rfl) (fun K hK => ?_)
  go_simp
  refine (trim_q (HX.out.to hb.drew)).mono ?_
  rintro e w' ⟨rfl, rfl⟩
  refine hK.out _ _ ⟨q1, q2, q3, q4⟩ ?_
  clear hK K
  refine plan_call rfl (by rfl) (fun K hK => ?_)
  go_simp
  refine (trim_q (HY.out.to hb.drew)).mono ?_
  rintro e w' ⟨rfl, rfl⟩
  refine hK.out _ _ ⟨q1, q2, q3, q4⟩ ?_
  clear hK K
  refine plan_call rfl (by rfl) (fun K hK => ?_)
  go_simp
  refine HM.out.mono ?_
  rintro e w2 ⟨A1, c1, ps, rfl, r1, rd, rv, rl, r2, r3, hb2⟩
  refine hK.out _ _ ⟨(tXd.to hb2).c0, (tXd.to hb2).c1, (tYd.to hb2).c0, (tYd.to hb2).c1⟩ ?_
  clear hK K
  have HI := Lib.hid (integer_l s r1 rd r2 r3)
  rw [rv, ez.out] at HI
  clear rl rv
  refine plan_call rfl (by rfl) (fun K hK => ?_)
  go_simp
  refine HI.out.mono ?_
  rintro e w3 ⟨A3, c3, rfl, s1, s2, s3, hb3⟩
  have t3 := (tXd.to hb2).to hb3
  have t5 := (tYd.to hb2).to hb3
  have t4 := (tRd.to hb2).to hb3
  refine hK.out _ _ ⟨t3.c0, t3.c1, t5.c0, t5.c1⟩ ?_
  clear hK K q1 q2 q3 q4 q5
  have u0 := t4.c0
  have u1 := t4.c1
  have u2 := t4.f0
  have u3 := t4.f1
  refine plan_call rfl (by rfl) (fun K hK => ?_)
  go_simp
  refine hK.out _ _ ⟨(t3.far (by omega) _ _).c0, (t3.far (by omega) _ _).c1, (t5.far (by omega) _ _).c0, (t5.far (by omega) _ _).c1⟩ ?_
  clear hK K
  refine plan_done ?_
  have HB3 : Below w.heap.size w w3 := (hb.drew.trans (hb2.mono hb.size)).trans (hb3.mono (hb.drew.trans (hb2.mono hb.size)).size)
  go_wp2
  have tF := t4.set (.bool (decide (z < 0))) (.slice A3 (dig b32 z.natAbs).length c3)
  refine bodyPost_ret (v := .agg #[.bool (decide (z < 0)), .slice A3 (dig b32 z.natAbs).length c3]) (by simp [results, Try.f23, go_sem, tF.c0, tF.c1]) rfl ?_
  rw [ez.out]
  exact zret_stored t4 (by omega) s1 s2 s3 HB3
end Go.Proofs.Ytlnjnoingiohjaa
