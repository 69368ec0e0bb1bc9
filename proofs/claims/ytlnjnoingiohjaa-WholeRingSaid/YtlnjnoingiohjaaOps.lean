/- Neg, Abs, Add, Sub, Sign of package whole. -/
import Derived.Test.YtlnjnoingiohjaaDiff
import Derived.Test.YtlnjnoingiohjaaDivMod

import Derived.Deep.RegionHeld3
namespace Go.Proofs.Ytlnjnoingiohjaa
open Go.RowKit Go.Shelf

set_option maxRecDepth 100000 in
set_option maxHeartbeats 4000000 in
theorem neg_any (n : Bool) {A : Option Addr} {c : Nat} {xs : List Nat} {w : World} (hx : Arg w A c xs) :
    Calls Try.prog 25 #[.agg #[.bool n, .slice A xs.length c]] w (ZRet w (zof (!n) (val b32 xs))) := by
  have HX := Lib.hid hx
  clear hx
  obtain ⟨W0, hW0⟩ : ∃ W0, W0 = (w.alloc (.cells #[.bool n, .slice A xs.length c] 24)).alloc (.cells #[.bool false, .slice none 0 0] 24) := ⟨_, rfl⟩
  have hb : Below w.heap.size w W0 := by rw [hW0]; exact ((Below.refl _ _).alloc (Nat.le_refl _) _).alloc (by simp) _
  have tX : Two W0 w.heap.size (.bool n) (.slice A xs.length c) := by rw [hW0]; exact (Two.new w _ _ _).alloc _
  have tR : Two W0 (w.heap.size + 1) (.bool false) (.slice none 0 0) := by
    have h := Two.new (w.alloc (.cells #[.bool n, .slice A xs.length c] 24)) (.bool false) (.slice none 0 0) 24
    rw [World.size_alloc] at h
    rw [hW0]; exact h
  have HW0 := Lib.hid hW0
  clear hW0
  go_enter Try.func25, Try.ntmps25
  go_wp2_with fail
  rw [← HW0.out]
  have q1 := tX.c0
  have q2 := tX.c1
  have tXd := tX.to ((Below.refl _ W0).drew)
  have tRd := tR.to ((Below.refl _ W0).drew)
  obtain ⟨z, ez⟩ : ∃ z, Hid (zof (!n) (val b32 xs) = z) := ⟨_, rfl⟩
  go_region_held3 (fun w' => w'.cell? ⟨w.heap.size, 0, none⟩ = some (.bool n) ∧ w'.cell? ⟨w.heap.size, 1, none⟩ = some (.slice A xs.length c))
    (first | exact ⟨q1, q2⟩ | exact ⟨(tXd.to hb2).c0, (tXd.to hb2).c1⟩ | exact ⟨t3.c0, t3.c1⟩ | exact ⟨(t3.far (by omega) _ _).c0, (t3.far (by omega) _ _).c1⟩)
    (first | (go_at_call 56; refine (clone_l (HX.out.to hb.drew)).mono ?_; rintro e w2 ⟨A1, c1, rfl, r1, r2, r3, hb2⟩) | (go_at_call 47; refine (integer_l (!n) r1 HX.out.dg r2 r3).mono ?_; rw [ez.out]; rintro e w3 ⟨A3, c3, rfl, s1, s2, s3, hb3⟩; have t3 := (tXd.to hb2).to hb3; have t4 := (tRd.to hb2).to hb3; have u0 := t4.c0; have u1 := t4.c1; have u2 := t4.f0; have u3 := t4.f1))
  have HB3 : Below w.heap.size w w3 := (hb.drew.trans (hb2.mono hb.size)).trans (hb3.mono (hb.drew.trans (hb2.mono hb.size)).size)
  go_wp2
  have tF := t4.set (.bool (decide (z < 0))) (.slice A3 (dig b32 z.natAbs).length c3)
  refine bodyPost_ret (v := .agg #[.bool (decide (z < 0)), .slice A3 (dig b32 z.natAbs).length c3]) (by simp [results, Try.f25, go_sem, tF.c0, tF.c1]) rfl ?_
  rw [ez.out]
  exact zret_stored t4 (by omega) s1 s2 s3 HB3

theorem zof_not (n : Bool) (v : Nat) : zof (!n) v = -zof n v := by cases n <;> simp [zof]

theorem sum_any (n m : Bool) {A A' : Option Addr} {c c' : Nat} {xs ys : List Nat} {w : World} (hx : Arg w A c xs) (hy : Arg w A' c' ys) :
    Calls Try.prog 50 #[.agg #[.bool n, .slice A xs.length c], .bool m, .slice A' ys.length c'] w (ZRet w (zof n (val b32 xs) + zof m (val b32 ys))) := by
  by_cases h : m = n
  · subst h
    have h := sum_same m hx hy
    rw [show zof m (val b32 xs + val b32 ys) = zof m (val b32 xs) + zof m (val b32 ys) from by cases m <;> simp [zof] <;> omega] at h
    exact h
  · obtain rfl : m = !n := by cases n <;> cases m <;> simp_all
    rcases Nat.lt_or_ge (val b32 xs) (val b32 ys) with hlt | hge
    · have h := sum_less n hx hy hlt
      rw [show zof (!n) (val b32 ys - val b32 xs) = zof n (val b32 xs) + zof (!n) (val b32 ys) from by cases n <;> simp [zof] <;> omega] at h
      exact h
    · have h := sum_more n hx hy hge
      rw [show zof n (val b32 xs - val b32 ys) = zof n (val b32 xs) + zof (!n) (val b32 ys) from by cases n <;> simp [zof] <;> omega] at h
      exact h

set_option maxRecDepth 100000 in
set_option maxHeartbeats 2000000 in
theorem add_any (na nb : Bool) {A A' : Option Addr} {c c' : Nat} {xs ys : List Nat} {w : World} (hx : Arg w A c xs) (hy : Arg w A' c' ys) :
    Calls Try.prog 19 #[.agg #[.bool na, .slice A xs.length c], .agg #[.bool nb, .slice A' ys.length c']] w (ZRet w (zof na (val b32 xs) + zof nb (val b32 ys))) := by
  have HX := Lib.hid hx
  have HY := Lib.hid hy
  clear hx hy
  obtain ⟨W0, hW0⟩ : ∃ W0, W0 = ((w.alloc (.cells #[.bool na, .slice A xs.length c] 24)).alloc (.cells #[.bool nb, .slice A' ys.length c'] 24)).alloc (.cells #[.bool false, .slice none 0 0] 24) := ⟨_, rfl⟩
  have hb : Below w.heap.size w W0 := by rw [hW0]; exact (((Below.refl _ _).alloc (Nat.le_refl _) _).alloc (by simp) _).alloc (by simp; omega) _
  have tX : Two W0 w.heap.size (.bool na) (.slice A xs.length c) := by rw [hW0]; exact ((Two.new w _ _ _).alloc _).alloc _
  have tY : Two W0 (w.heap.size + 1) (.bool nb) (.slice A' ys.length c') := by
    have h := Two.new (w.alloc (.cells #[.bool na, .slice A xs.length c] 24)) (.bool nb) (.slice A' ys.length c') 24
    rw [World.size_alloc] at h
    rw [hW0]; exact h.alloc _
  have tR : Two W0 (w.heap.size + 1 + 1) (.bool false) (.slice none 0 0) := by
    have h := Two.new ((w.alloc (.cells #[.bool na, .slice A xs.length c] 24)).alloc (.cells #[.bool nb, .slice A' ys.length c'] 24)) (.bool false) (.slice none 0 0) 24
    rw [World.size_alloc, World.size_alloc] at h
    rw [hW0]; exact h
  have HW0 := Lib.hid hW0
  clear hW0
  go_enter Try.func19, Try.ntmps19
  go_wp2_with fail
  rw [← HW0.out]
  have q1 := tX.c0
  have q2 := tX.c1
  have q3 := tY.c0
  have q4 := tY.c1
  obtain ⟨z, ez⟩ : ∃ z, Hid (zof na (val b32 xs) + zof nb (val b32 ys) = z) := ⟨_, rfl⟩
  have HI := Lib.hid (sum_any na (nb) (HX.out.to hb) (HY.out.to hb))
  rw [show zof na (val b32 xs) + zof (nb) (val b32 ys) = zof na (val b32 xs) + zof nb (val b32 ys) from rfl, ez.out] at HI
  go_wp2_with fail
  refine HI.out.mono ?_
  rintro e w3 ⟨A3, c3, rfl, s1, s2, s3, hb3⟩
  have t4 := tR.to hb3
  have u0 := t4.c0
  have u1 := t4.c1
  have u2 := t4.f0
  have u3 := t4.f1
  have S1 := Lib.hid s1
  have HB3 := Lib.hid (hb.trans (hb3.mono hb.size))
  clear s1 hb3 tX tY tR q1 q2 q3 q4
  go_wp2
  have tF := t4.set (.bool (decide (z < 0))) (.slice A3 (dig b32 z.natAbs).length c3)
  refine bodyPost_ret (v := .agg #[.bool (decide (z < 0)), .slice A3 (dig b32 z.natAbs).length c3]) (by simp [results, Try.f19, go_sem, tF.c0, tF.c1]) rfl ?_
  rw [ez.out]
  exact zret_stored t4 (by omega) S1.out s2 s3 HB3.out

set_option maxRecDepth 100000 in
set_option maxHeartbeats 2000000 in
theorem sub_any (na nb : Bool) {A A' : Option Addr} {c c' : Nat} {xs ys : List Nat} {w : World} (hx : Arg w A c xs) (hy : Arg w A' c' ys) :
    Calls Try.prog 21 #[.agg #[.bool na, .slice A xs.length c], .agg #[.bool nb, .slice A' ys.length c']] w (ZRet w (zof na (val b32 xs) - zof nb (val b32 ys))) := by
  have HX := Lib.hid hx
  have HY := Lib.hid hy
  clear hx hy
  obtain ⟨W0, hW0⟩ : ∃ W0, W0 = ((w.alloc (.cells #[.bool na, .slice A xs.length c] 24)).alloc (.cells #[.bool nb, .slice A' ys.length c'] 24)).alloc (.cells #[.bool false, .slice none 0 0] 24) := ⟨_, rfl⟩
  have hb : Below w.heap.size w W0 := by rw [hW0]; exact (((Below.refl _ _).alloc (Nat.le_refl _) _).alloc (by simp) _).alloc (by simp; omega) _
  have tX : Two W0 w.heap.size (.bool na) (.slice A xs.length c) := by rw [hW0]; exact ((Two.new w _ _ _).alloc _).alloc _
  have tY : Two W0 (w.heap.size + 1) (.bool nb) (.slice A' ys.length c') := by
    have h := Two.new (w.alloc (.cells #[.bool na, .slice A xs.length c] 24)) (.bool nb) (.slice A' ys.length c') 24
    rw [World.size_alloc] at h
    rw [hW0]; exact h.alloc _
  have tR : Two W0 (w.heap.size + 1 + 1) (.bool false) (.slice none 0 0) := by
    have h := Two.new ((w.alloc (.cells #[.bool na, .slice A xs.length c] 24)).alloc (.cells #[.bool nb, .slice A' ys.length c'] 24)) (.bool false) (.slice none 0 0) 24
    rw [World.size_alloc, World.size_alloc] at h
    rw [hW0]; exact h
  have HW0 := Lib.hid hW0
  clear hW0
  go_enter Try.func21, Try.ntmps21
  go_wp2_with fail
  rw [← HW0.out]
  have q1 := tX.c0
  have q2 := tX.c1
  have q3 := tY.c0
  have q4 := tY.c1
  obtain ⟨z, ez⟩ : ∃ z, Hid (zof na (val b32 xs) - zof nb (val b32 ys) = z) := ⟨_, rfl⟩
  have HI := Lib.hid (sum_any na (!nb) (HX.out.to hb) (HY.out.to hb))
  rw [show zof na (val b32 xs) + zof (!nb) (val b32 ys) = zof na (val b32 xs) - zof nb (val b32 ys) from by rw [zof_not]; omega, ez.out] at HI
  go_wp2_with fail
  refine HI.out.mono ?_
  rintro e w3 ⟨A3, c3, rfl, s1, s2, s3, hb3⟩
  have t4 := tR.to hb3
  have u0 := t4.c0
  have u1 := t4.c1
  have u2 := t4.f0
  have u3 := t4.f1
  have S1 := Lib.hid s1
  have HB3 := Lib.hid (hb.trans (hb3.mono hb.size))
  clear s1 hb3 tX tY tR q1 q2 q3 q4
  go_wp2
  have tF := t4.set (.bool (decide (z < 0))) (.slice A3 (dig b32 z.natAbs).length c3)
  refine bodyPost_ret (v := .agg #[.bool (decide (z < 0)), .slice A3 (dig b32 z.natAbs).length c3]) (by simp [results, Try.f21, go_sem, tF.c0, tF.c1]) rfl ?_
  rw [ez.out]
  exact zret_stored t4 (by omega) S1.out s2 s3 HB3.out
end Go.Proofs.Ytlnjnoingiohjaa
