/- whole.sum with two different signs. -/
import Derived.Test.YtlnjnoingiohjaaAdd
import Derived.RegionTactic
namespace Go.Proofs.Ytlnjnoingiohjaa
open Go.RowKit Go.Shelf

theorem compare_l {A A' : Option Addr} {c c' : Nat} {xs ys : List Nat} {w : World} (hx : Arg w A c xs) (hy : Arg w A' c' ys) :
    Calls Try.prog 58 #[.slice A (trimL xs).length c, .slice A' (trimL ys).length c'] w fun e w' => e = .returned (.int .i64 (cmpN (val b32 xs) (val b32 ys))) ∧ Below w.heap.size w w' := by
  have h := compare_any A A' c c' (trimL xs) (trimL ys) w hx.trim.rd hy.trim.rd (trim_trimmed b32_one hx.dg) (trim_trimmed b32_one hy.dg) hx.trim.dg hy.trim.dg hx.trim.le hx.cap hy.trim.le hy.cap
  rwa [val_trimL, val_trimL] at h

set_option maxHeartbeats 2000000 in
theorem sum_less (n : Bool) {A A' : Option Addr} {c c' : Nat} {xs ys : List Nat} {w : World} (hx : Arg w A c xs) (hy : Arg w A' c' ys) (hlt : val b32 xs < val b32 ys) :
    Calls Try.prog 50 #[.agg #[.bool n, .slice A xs.length c], .bool (!n), .slice A' ys.length c'] w (ZRet w (zof (!n) (val b32 ys - val b32 xs))) := by
  have h1 : (n == !n) = false := by cases n <;> rfl
  have HX := Lib.hid hx
  have HY := Lib.hid hy
  have HLT := Lib.hid hlt
  clear hx hy hlt
  obtain ⟨m, HM⟩ : ∃ m, Hid (m = !n) := ⟨_, rfl⟩
  rw [← HM.out] at h1 ⊢
  obtain ⟨W0, hW0⟩ : ∃ W0, W0 = (w.alloc (.cells #[.bool n, .slice A xs.length c] 24)).alloc (.cells #[.bool false, .slice none 0 0] 24) := ⟨_, rfl⟩
  have hb : Below w.heap.size w W0 := by rw [hW0]; exact ((Below.refl _ _).alloc (Nat.le_refl _) _).alloc (by simp) _
  have tX : Two W0 w.heap.size (.bool n) (.slice A xs.length c) := by rw [hW0]; exact (Two.new w _ _ _).alloc _
  have tR : Two W0 (w.heap.size + 1) (.bool false) (.slice none 0 0) := by
    have h := Two.new (w.alloc (.cells #[.bool n, .slice A xs.length c] 24)) (.bool false) (.slice none 0 0) 24
    rw [World.size_alloc] at h
    rw [hW0]; exact h
  have HW0 := Lib.hid hW0
  clear hW0
  go_enter Try.func50, Try.ntmps50
  go_wp2_with fail
  rw [← HW0.out]
  obtain ⟨q1, q2, q3, q4, q5⟩ := tX
  refine (trim_l (HX.out.to hb)).mono ?_
  rintro e w' ⟨rfl, rfl⟩
  go_wp2_with fail
  refine (trim_l (HY.out.to hb)).mono ?_
  rintro e w' ⟨rfl, rfl⟩
  go_wp2_with fail
  refine (compare_l (HX.out.to hb) (HY.out.to hb)).mono ?_
  rw [cmpN_lt HLT.out]
  rintro e w1 ⟨rfl, hb1⟩
  have tX1 := (⟨q1, q2, q3, q4, q5⟩ : Two W0 w.heap.size _ _).to hb1
  have tR1 := tR.to hb1
  replace hb := hb.trans (hb1.mono hb.size)
  clear q1 q2 q3 q4 q5 tR hb1 HW0
  have h0 : 0 ≤ ((val b32 (trimL ys) : Nat) : Int) + -1 * (val b32 (trimL xs) : Nat) := by have := HLT.out; rw [val_trimL, val_trimL]; omega
  have HC := Lib.hid (combine_l (q := -1) (.inr rfl) (HY.out.to hb).trim (HX.out.to hb).trim h0)
  clear h0 tX1
  go_wp2_with fail
  refine HC.out.mono ?_
  rintro e w2 ⟨A1, c1, zs, rfl, r1, r2, r3, r5, _, r6, hb2⟩
  have hv : val b32 zs = val b32 ys - val b32 xs := by
    rw [val_trimL, val_trimL] at r6
    omega
  have HI := Lib.hid (integer_l m r1 r5 r2 r3)
  rw [hv] at HI
  have tR2 := tR1.to hb2
  have HB := Lib.hid (hb.trans (hb2.mono hb.size))
  clear r1 r6 hb2 hv hb tR1
  obtain ⟨z, ez⟩ : ∃ z, Hid (zof m (val b32 ys - val b32 xs) = z) := ⟨_, rfl⟩
  rw [ez.out] at HI ⊢
  go_wp2_with fail
  refine HI.out.mono ?_
  rintro e w3 ⟨A3, c3, rfl, s1, s2, s3, hb3⟩
  obtain ⟨q1, q2, q3, q4, q5⟩ := tR2.to hb3
  have S1 := Lib.hid s1
  have HB3 := Lib.hid (HB.out.trans (hb3.mono HB.out.size))
  clear s1 hb3 tR2
  go_wp2
  have tF := (⟨q1, q2, q3, q4, q5⟩ : Two w3 (w.heap.size + 1) _ _).set (.bool (decide (z < 0))) (.slice A3 (dig b32 z.natAbs).length c3)
  refine bodyPost_ret (v := .agg #[.bool (decide (z < 0)), .slice A3 (dig b32 z.natAbs).length c3]) (by simp [results, Try.f50, go_sem, tF.c0, tF.c1]) rfl ?_
  rw [ez.out]
  exact zret_stored ⟨q1, q2, q3, q4, q5⟩ (by omega) S1.out s2 s3 HB3.out

set_option maxHeartbeats 2000000 in
theorem sum_more (n : Bool) {A A' : Option Addr} {c c' : Nat} {xs ys : List Nat} {w : World} (hx : Arg w A c xs) (hy : Arg w A' c' ys) (hlt : val b32 ys ≤ val b32 xs) :
    Calls Try.prog 50 #[.agg #[.bool n, .slice A xs.length c], .bool (!n), .slice A' ys.length c'] w (ZRet w (zof n (val b32 xs - val b32 ys))) := by
  have h1 : (n == !n) = false := by cases n <;> rfl
  have HX := Lib.hid hx
  have HY := Lib.hid hy
  have HLT := Lib.hid hlt
  clear hx hy hlt
  obtain ⟨m, HM⟩ : ∃ m, Hid (m = !n) := ⟨_, rfl⟩
  rw [← HM.out] at h1 ⊢
  obtain ⟨W0, hW0⟩ : ∃ W0, W0 = (w.alloc (.cells #[.bool n, .slice A xs.length c] 24)).alloc (.cells #[.bool false, .slice none 0 0] 24) := ⟨_, rfl⟩
  have hb : Below w.heap.size w W0 := by rw [hW0]; exact ((Below.refl _ _).alloc (Nat.le_refl _) _).alloc (by simp) _
  have tX : Two W0 w.heap.size (.bool n) (.slice A xs.length c) := by rw [hW0]; exact (Two.new w _ _ _).alloc _
  have tR : Two W0 (w.heap.size + 1) (.bool false) (.slice none 0 0) := by
    have h := Two.new (w.alloc (.cells #[.bool n, .slice A xs.length c] 24)) (.bool false) (.slice none 0 0) 24
    rw [World.size_alloc] at h
    rw [hW0]; exact h
  have HW0 := Lib.hid hW0
  clear hW0
  go_enter Try.func50, Try.ntmps50
  go_wp2_with fail
  rw [← HW0.out]
  obtain ⟨q1, q2, q3, q4, q5⟩ := tX
  refine (trim_l (HX.out.to hb)).mono ?_
  rintro e w' ⟨rfl, rfl⟩
  go_wp2_with fail
  refine (trim_l (HY.out.to hb)).mono ?_
  rintro e w' ⟨rfl, rfl⟩
  go_wp2_with fail
  refine (compare_l (HX.out.to hb) (HY.out.to hb)).mono ?_
  obtain ⟨cv, hcv, hcv0⟩ : ∃ cv, cmpN (val b32 xs) (val b32 ys) = cv ∧ 0 ≤ cv := ⟨_, rfl, by have := HLT.out; unfold cmpN; split <;> (try split) <;> omega⟩
  rw [hcv]
  clear hcv
  rintro e w1 ⟨rfl, hb1⟩
  have tX1 := (⟨q1, q2, q3, q4, q5⟩ : Two W0 w.heap.size _ _).to hb1
  have tR1 := tR.to hb1
  replace hb := hb.trans (hb1.mono hb.size)
  clear q1 q2 q3 q4 q5 tR hb1 HW0
  have h0 : 0 ≤ ((val b32 (trimL xs) : Nat) : Int) + -1 * (val b32 (trimL ys) : Nat) := by have := HLT.out; rw [val_trimL, val_trimL]; omega
  replace hb := hb.drew
  have hb1 : Below w1.heap.size w1 w1.drew := (Below.refl _ _).drew
  replace tX1 := tX1.to hb1
  have HC := Lib.hid (combine_l (w := w1.drew) (q := -1) (.inr rfl) (HX.out.to hb).trim (HY.out.to hb).trim h0)
  have cX1 := tX1.c0
  clear h0
  go_wp2_with fail
  refine wp_region_any (by kernel_rfl) ?_
  refine (show wpAny _ _ _ _ _ _ _ (World.drew _) from ?_)
  refine wpAny_take (i := 0) (v := .pointer (some ⟨w.heap.size, 0, none⟩)) rfl (by kernel_rfl) (by kernel_rfl) (by kernel_rfl) (fun _ _ _ h => h) (Or.inl ⟨by rfl, fun _ => by go_simp⟩) ?_
  refine wpAny_take (i := 2) (v := .slice A (trimL xs).length c) rfl (by kernel_rfl) (by kernel_rfl) (by kernel_rfl) (fun _ _ _ h => h) (Or.inl ⟨by rfl, fun _ => by go_simp⟩) ?_
  refine wpAny_take (i := 3) (v := .slice A' (trimL ys).length c') rfl (by kernel_rfl) (by kernel_rfl) (by kernel_rfl) (fun _ _ _ h => h) (Or.inl ⟨by rfl, fun _ => by go_simp⟩) ?_
  refine wpAny_ready (rs := [1, 4]) (by kernel_rfl) (by simp) (AllReady.cons rfl (fun K hK => ?_) (AllReady.cons rfl (fun K hK => ?_) AllReady.nil))
  · go_simp; refine hK _ _ ?_; clear hK K
    refine wpAny_ready (rs := [4]) (by kernel_rfl) (by simp) (AllReady.cons rfl (fun K hK => ?_) AllReady.nil)
    go_simp
    refine HC.out.mono ?_
    rintro e w2 ⟨A1, c1, zs, rfl, r1, r2, r3, r5, _, r6, hb2⟩
    have hv : val b32 zs = val b32 xs - val b32 ys := by
      have := HLT.out
      rw [val_trimL, val_trimL] at r6
      omega
    have HI := Lib.hid (integer_l n r1 r5 r2 r3)
    rw [hv] at HI
    have tR2 := (tR1.to hb1).to hb2
    have tX2 := tX1.to hb2
    have HB := Lib.hid (hb.trans (hb2.mono hb.size))
    have cX2 := tX2.c0
    clear r1 r6 hb2 hv hb tR1 tX1 tX2
    refine hK _ _ ?_; clear hK K
    refine wpAny_ready (rs := [5]) (by kernel_rfl) (by simp) (AllReady.cons rfl (fun K hK => ?_) AllReady.nil)
    obtain ⟨z, ez⟩ : ∃ z, Hid (zof n (val b32 xs - val b32 ys) = z) := ⟨_, rfl⟩
    rw [ez.out] at HI
    go_simp
    refine HI.out.mono ?_
    rintro e w3 ⟨A3, c3, rfl, s1, s2, s3, hb3⟩
    obtain ⟨q1, q2, q3, q4, q5⟩ := tR2.to hb3
    have S1 := Lib.hid s1
    have HB3 := Lib.hid (HB.out.trans (hb3.mono HB.out.size))
    clear s1 hb3 tR2
    refine hK _ _ ?_; clear hK K
    refine wpAny_ready (rs := [6]) (by kernel_rfl) (by simp) (AllReady.cons rfl (fun K hK => ?_) AllReady.nil)
    go_simp; refine hK _ _ ?_; clear hK K
    refine wpAny_done (by kernel_rfl) ?_ _
    go_wp2
    have tF := (⟨q1, q2, q3, q4, q5⟩ : Two w3 (w.heap.size + 1) _ _).set (.bool (decide (z < 0))) (.slice A3 (dig b32 z.natAbs).length c3)
    refine bodyPost_ret (v := .agg #[.bool (decide (z < 0)), .slice A3 (dig b32 z.natAbs).length c3]) (by simp [results, Try.f50, go_sem, tF.c0, tF.c1]) rfl ?_
    rw [ez.out]
    exact zret_stored ⟨q1, q2, q3, q4, q5⟩ (by omega) S1.out s2 s3 HB3.out
  · go_simp
    refine HC.out.mono ?_
    rintro e w2 ⟨A1, c1, zs, rfl, r1, r2, r3, r5, _, r6, hb2⟩
    have hv : val b32 zs = val b32 xs - val b32 ys := by
      have := HLT.out
      rw [val_trimL, val_trimL] at r6
      omega
    have HI := Lib.hid (integer_l n r1 r5 r2 r3)
    rw [hv] at HI
    have tR2 := (tR1.to hb1).to hb2
    have tX2 := tX1.to hb2
    have HB := Lib.hid (hb.trans (hb2.mono hb.size))
    have cX2 := tX2.c0
    clear r1 r6 hb2 hv hb tR1 tX1 tX2
    refine hK _ _ ?_; clear hK K
    refine wpAny_ready (rs := [1]) (by kernel_rfl) (by simp) (AllReady.cons rfl (fun K hK => ?_) AllReady.nil)
    go_simp; refine hK _ _ ?_; clear hK K
    refine wpAny_ready (rs := [5]) (by kernel_rfl) (by simp) (AllReady.cons rfl (fun K hK => ?_) AllReady.nil)
    obtain ⟨z, ez⟩ : ∃ z, Hid (zof n (val b32 xs - val b32 ys) = z) := ⟨_, rfl⟩
    rw [ez.out] at HI
    go_simp
    refine HI.out.mono ?_
    rintro e w3 ⟨A3, c3, rfl, s1, s2, s3, hb3⟩
    obtain ⟨q1, q2, q3, q4, q5⟩ := tR2.to hb3
    have S1 := Lib.hid s1
    have HB3 := Lib.hid (HB.out.trans (hb3.mono HB.out.size))
    clear s1 hb3 tR2
    refine hK _ _ ?_; clear hK K
    refine wpAny_ready (rs := [6]) (by kernel_rfl) (by simp) (AllReady.cons rfl (fun K hK => ?_) AllReady.nil)
    go_simp; refine hK _ _ ?_; clear hK K
    refine wpAny_done (by kernel_rfl) ?_ _
    go_wp2
    have tF := (⟨q1, q2, q3, q4, q5⟩ : Two w3 (w.heap.size + 1) _ _).set (.bool (decide (z < 0))) (.slice A3 (dig b32 z.natAbs).length c3)
    refine bodyPost_ret (v := .agg #[.bool (decide (z < 0)), .slice A3 (dig b32 z.natAbs).length c3]) (by simp [results, Try.f50, go_sem, tF.c0, tF.c1]) rfl ?_
    rw [ez.out]
    exact zret_stored ⟨q1, q2, q3, q4, q5⟩ (by omega) S1.out s2 s3 HB3.out
end Go.Proofs.Ytlnjnoingiohjaa
