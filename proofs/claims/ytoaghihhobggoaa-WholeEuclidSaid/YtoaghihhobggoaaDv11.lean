/- Parts: RefOps2, Least, RefOps3. -/
import Derived.Test.YtoaghihhobggoaaDv5
import Derived.Test.YtoaghihhobggoaaDv7
import Derived.Test.YtoaghihhobggoaaDv10
set_option linter.unusedVariables false
set_option linter.unusedSimpArgs false

namespace Go.Proofs.Ytoaghihhobggoaa
open Go.RowKit Go.Shelf

theorem add_r {A A' : Option Addr} {c c' m n : Nat} {w : World} (hx : Hr w A c (dig b16 m)) (hy : Hr w A' c' (dig b16 n)) :
    Calls Try.prog 51 #[.slice A (dig b16 m).length c, .slice A' (dig b16 n).length c'] w (HRet w (m + n)) := by
  have h := radd_any hx hy
  rw [val_dig b16_one, val_dig b16_one] at h
  exact h

theorem sub_r {A A' : Option Addr} {c c' m n : Nat} {w : World} (hx : Hr w A c (dig b16 m)) (hy : Hr w A' c' (dig b16 n)) (h : n ≤ m) :
    Calls Try.prog 53 #[.slice A (dig b16 m).length c, .slice A' (dig b16 n).length c'] w (HRet w (m - n)) := by
  have h := rsub_any hx hy (by rw [val_dig b16_one, val_dig b16_one]; exact h)
  rw [val_dig b16_one, val_dig b16_one] at h
  exact h

theorem cmp_r {A A' : Option Addr} {c c' m n : Nat} {w : World} (hx : Hr w A c (dig b16 m)) (hy : Hr w A' c' (dig b16 n)) :
    Calls Try.prog 52 #[.slice A (dig b16 m).length c, .slice A' (dig b16 n).length c'] w fun e w' => e = .returned (.int .i64 (cmpN m n)) ∧ w' = w := by
  have h := rcmp_any hx hy
  rw [val_dig b16_one, val_dig b16_one] at h
  exact h

theorem pow_max {b k l m n : Nat} (hb : 2 ≤ b) (h1 : m < b ^ k) (h2 : n < b ^ l) : m + n < b ^ (k + l + 1) := by
  have e1 : b ^ k ≤ b ^ (k + l) := Nat.pow_le_pow_right (by omega) (by omega)
  have e2 : b ^ l ≤ b ^ (k + l) := Nat.pow_le_pow_right (by omega) (by omega)
  have e3 : b ^ (k + l) * 2 ≤ b ^ (k + l) * b := Nat.mul_le_mul_left _ hb
  rw [Nat.pow_succ]; omega


set_option maxRecDepth 100000 in
set_option maxHeartbeats 8000000 in
theorem rAdd_same (n : Bool) {A A' : Option Addr} {c c' : Nat} {xs ys : List Nat} {w : World} (hx : Arg w A c xs) (sx : xs.length ≤ 10000) (hy : Arg w A' c' ys) (sy : ys.length ≤ 10000) :
    Calls Try.prog 20 #[.agg #[.bool n, .slice A xs.length c], .agg #[.bool n, .slice A' ys.length c']] w (ZR w (zof n (val b32 xs + val b32 ys))) := by
  obtain ⟨W0, hW0⟩ : ∃ W0, W0 = (((w.alloc (.cells #[.bool n, .slice A xs.length c] 24)).alloc (.cells #[.bool n, .slice A' ys.length c'] 24)).alloc (.cells #[.bool false, .slice none 0 0] 24)) := ⟨_, rfl⟩
  have hb : Below w.heap.size w W0 := by rw [hW0]; exact (((Below.refl _ _).alloc (Nat.le_refl _) _).alloc (by simp) _).alloc (by simp; omega) _
  have tX : Two W0 (w.heap.size) (.bool n) (.slice A xs.length c) := by
    have h := Two.new w (.bool n) (.slice A xs.length c) 24
    rw [hW0]; exact (h.alloc _).alloc _
  have tY : Two W0 (w.heap.size + 1) (.bool n) (.slice A' ys.length c') := by
    have h := Two.new (w.alloc (.cells #[.bool n, .slice A xs.length c] 24)) (.bool n) (.slice A' ys.length c') 24
    rw [World.size_alloc] at h
    rw [hW0]; exact h.alloc _
  have tR : Two W0 (w.heap.size + 1 + 1) (.bool false) (.slice none 0 0) := by
    have h := Two.new ((w.alloc (.cells #[.bool n, .slice A xs.length c] 24)).alloc (.cells #[.bool n, .slice A' ys.length c'] 24)) (.bool false) (.slice none 0 0) 24
    rw [World.size_alloc, World.size_alloc] at h
    rw [hW0]; exact h
  have HW0 := Lib.hid hW0
  have HB0 := Lib.hid hb
  have HX := Lib.hid hx
  have HY := Lib.hid hy
  have hBW : w.heap.size + 1 + 1 ≤ W0.heap.size := by rw [hW0]; simp
  have Dsx : val b32 xs < b16 ^ (2 * xs.length) := by rw [← pow_2k]; exact val_lt hx.dg
  have Dsy : val b32 ys < b16 ^ (2 * ys.length) := by rw [← pow_2k]; exact val_lt hy.dg
  clear hW0 hb hx hy
  have hnn : (n == n) = true := by simp
  go_enter Try.func20, Try.ntmps20
  go_wp2_with fail
  rw [← HW0.out]
  refine wp_region_plan (S := fun w' => Below (w.heap.size + 1 + 1) W0 w') [(0, true), (1, true), (3, true), (4, true), (2, false), (5, false), (6, true), (7, true)] (by kernel_rfl) (by kernel_rfl) (Below.refl _ _).drew ?_
  have HB := (Below.refl W0.heap.size W0).drew
  repeat (refine plan_take (v := ?_) rfl (by rfl) ?_ ?_; rotate_left; (focus (intro w' hS; have k0 := (tX.toB hS (by omega)).c0; have k1 := (tX.toB hS (by omega)).c1; have k2 := (tY.toB hS (by omega)).c0; have k3 := (tY.toB hS (by omega)).c1; go_simp; try with_reducible rfl)); simp only [Act.put, List.setIfInBounds_toArray, List.set_cons_zero, List.set_cons_succ])
  refine plan_call rfl (by rfl) (fun K hK => ?_)
  go_simp
  refine (halves_r (HX.out.to (HB0.out.trans (HB.mono HB0.out.size)))).mono ?_
  rintro e V ⟨A1, c1, rfl, r1, l1, m1, bb⟩
  replace HB := HB.trans (bb.mono HB.size)
  have H1 := Hr.of_ret r1 l1 m1 Dsx (by omega)
  clear r1 l1 m1 bb
  refine hK.out _ _ (HB.mono hBW) ?_
  clear hK K
  refine plan_call rfl (by rfl) (fun K hK => ?_)
  go_simp
  refine (halves_r (HY.out.to (HB0.out.trans (HB.mono HB0.out.size)))).mono ?_
  rintro e V ⟨A2, c2, rfl, r1, l1, m1, bb⟩
  replace HB := HB.trans (bb.mono HB.size)
  have H2 := Hr.of_ret r1 l1 m1 Dsy (by omega)
  replace H1 := H1.to bb
  clear r1 l1 m1 bb
  refine hK.out _ _ (HB.mono hBW) ?_
  clear hK K
  repeat (refine plan_take (v := ?_) rfl (by rfl) ?_ ?_; rotate_left; (focus (intro w' hS; have k0 := (tX.toB hS (by omega)).c0; have k1 := (tX.toB hS (by omega)).c1; have k2 := (tY.toB hS (by omega)).c0; have k3 := (tY.toB hS (by omega)).c1; go_simp; try with_reducible rfl)); simp only [Act.put, List.setIfInBounds_toArray, List.set_cons_zero, List.set_cons_succ])
  refine plan_done ?_
  have k1 := (tX.to HB).c0
  have k2 := (tX.to HB).c1
  have k3 := (tY.to HB).c0
  have k4 := (tY.to HB).c1
  go_wp2_with fail
  clear k1 k2 k3 k4
  refine wp_region_plan (S := fun w' => Below (w.heap.size + 1 + 1) W0 w') [(0, true), (1, true), (2, true), (3, true), (4, false), (5, false), (6, false)] (by kernel_rfl) (by kernel_rfl) (HB.mono hBW).drew ?_
  replace HB := HB.drew
  repeat (refine plan_take (v := ?_) rfl (by rfl) ?_ ?_; rotate_left; (focus (intro w' hS; have k0 := (tX.toB hS (by omega)).c0; have k1 := (tX.toB hS (by omega)).c1; have k2 := (tY.toB hS (by omega)).c0; have k3 := (tY.toB hS (by omega)).c1; go_simp; try with_reducible rfl)); simp only [Act.put, List.setIfInBounds_toArray, List.set_cons_zero, List.set_cons_succ])
  replace H1 := H1.to (Below.refl _ _).drew
  replace H2 := H2.to (Below.refl _ _).drew
  refine plan_call rfl (by rfl) (fun K hK => ?_)
  go_simp
  refine (add_r H1 H2).mono ?_
  rintro e V ⟨A3, c3, rfl, r1, l1, m1, bb⟩
  replace HB := HB.trans (bb.mono HB.size)
  have H3 := Hr.of_ret r1 l1 m1 (pow_max (by decide) Dsx Dsy) (by omega)
  clear r1 l1 m1 bb H1 H2
  refine hK.out _ _ (HB.mono hBW) ?_
  clear hK K
  refine plan_call rfl (by rfl) (fun K hK => ?_)
  go_simp
  refine (of_r n H3).mono ?_
  rintro e V ⟨xr, yr, rfl, rz, bb⟩
  replace HB := HB.trans (bb.mono HB.size)
  clear H3 bb
  refine hK.out _ _ (HB.mono hBW) ?_
  clear hK K
  refine plan_call rfl (by rfl) (fun K hK => ?_)
  refine wp_store_two (by rfl) (by rfl) (tR.to HB) Fs.nil rz.fs (fun V u kp => ?_)
  have HF := kp.zc _ _ _ rz
  have HE := kp.bel _ _ (HB0.out.trans (HB.mono HB0.out.size)) (by omega)
  refine hK.out _ _ (kp.bel _ _ (HB.mono hBW) (Nat.le_refl _)) ?_
  clear hK K kp
  simp only [Act.put, List.setIfInBounds_toArray, List.set_cons_zero, List.set_cons_succ]
  refine plan_done ?_
  have HF2 := Lib.hid HF
  have HE2 := Lib.hid HE
  clear HF HE
  go_wp2
  exact bodyPost_ret (v := .agg #[xr, yr]) (by simp [results, Try.f20, go_sem, u.c0, u.c1]) rfl ⟨xr, yr, rfl, HF2.out, HE2.out⟩
set_option maxRecDepth 100000 in
set_option maxHeartbeats 8000000 in
theorem rAdd_ge (n : Bool) (m : Bool) {A A' : Option Addr} {c c' : Nat} {xs ys : List Nat} {w : World} (hx : Arg w A c xs) (sx : xs.length ≤ 10000) (hy : Arg w A' c' ys) (sy : ys.length ≤ 10000) (hnm : (n == m) = false) (hge : val b32 ys ≤ val b32 xs) :
    Calls Try.prog 20 #[.agg #[.bool n, .slice A xs.length c], .agg #[.bool m, .slice A' ys.length c']] w (ZR w (zof n (val b32 xs - val b32 ys))) := by
  obtain ⟨W0, hW0⟩ : ∃ W0, W0 = (((w.alloc (.cells #[.bool n, .slice A xs.length c] 24)).alloc (.cells #[.bool m, .slice A' ys.length c'] 24)).alloc (.cells #[.bool false, .slice none 0 0] 24)) := ⟨_, rfl⟩
  have hb : Below w.heap.size w W0 := by rw [hW0]; exact (((Below.refl _ _).alloc (Nat.le_refl _) _).alloc (by simp) _).alloc (by simp; omega) _
  have tX : Two W0 (w.heap.size) (.bool n) (.slice A xs.length c) := by
    have h := Two.new w (.bool n) (.slice A xs.length c) 24
    rw [hW0]; exact (h.alloc _).alloc _
  have tY : Two W0 (w.heap.size + 1) (.bool m) (.slice A' ys.length c') := by
    have h := Two.new (w.alloc (.cells #[.bool n, .slice A xs.length c] 24)) (.bool m) (.slice A' ys.length c') 24
    rw [World.size_alloc] at h
    rw [hW0]; exact h.alloc _
  have tR : Two W0 (w.heap.size + 1 + 1) (.bool false) (.slice none 0 0) := by
    have h := Two.new ((w.alloc (.cells #[.bool n, .slice A xs.length c] 24)).alloc (.cells #[.bool m, .slice A' ys.length c'] 24)) (.bool false) (.slice none 0 0) 24
    rw [World.size_alloc, World.size_alloc] at h
    rw [hW0]; exact h
  have HW0 := Lib.hid hW0
  have HB0 := Lib.hid hb
  have HX := Lib.hid hx
  have HY := Lib.hid hy
  have hBW : w.heap.size + 1 + 1 ≤ W0.heap.size := by rw [hW0]; simp
  have Dsx : val b32 xs < b16 ^ (2 * xs.length) := by rw [← pow_2k]; exact val_lt hx.dg
  have Dsy : val b32 ys < b16 ^ (2 * ys.length) := by rw [← pow_2k]; exact val_lt hy.dg
  clear hW0 hb hx hy
  obtain ⟨o, ho⟩ : ∃ o, cmpN (val b32 xs) (val b32 ys) = o := ⟨_, rfl⟩
  have ho0 : 0 ≤ o := by rw [← ho]; unfold cmpN; split <;> (try split) <;> omega
  have HO := Lib.hid ho
  have HGE := Lib.hid hge
  clear ho hge
  go_enter Try.func20, Try.ntmps20
  go_wp2_with fail
  rw [← HW0.out]
  refine wp_region_plan (S := fun w' => Below (w.heap.size + 1 + 1) W0 w') [(0, true), (1, true), (3, true), (4, true), (2, false), (5, false), (6, true), (7, true)] (by kernel_rfl) (by kernel_rfl) (Below.refl _ _).drew ?_
  have HB := (Below.refl W0.heap.size W0).drew
  repeat (refine plan_take (v := ?_) rfl (by rfl) ?_ ?_; rotate_left; (focus (intro w' hS; have k0 := (tX.toB hS (by omega)).c0; have k1 := (tX.toB hS (by omega)).c1; have k2 := (tY.toB hS (by omega)).c0; have k3 := (tY.toB hS (by omega)).c1; go_simp; try with_reducible rfl)); simp only [Act.put, List.setIfInBounds_toArray, List.set_cons_zero, List.set_cons_succ])
  refine plan_call rfl (by rfl) (fun K hK => ?_)
  go_simp
  refine (halves_r (HX.out.to (HB0.out.trans (HB.mono HB0.out.size)))).mono ?_
  rintro e V ⟨A1, c1, rfl, r1, l1, m1, bb⟩
  replace HB := HB.trans (bb.mono HB.size)
  have H1 := Hr.of_ret r1 l1 m1 Dsx (by omega)
  clear r1 l1 m1 bb
  refine hK.out _ _ (HB.mono hBW) ?_
  clear hK K
  refine plan_call rfl (by rfl) (fun K hK => ?_)
  go_simp
  refine (halves_r (HY.out.to (HB0.out.trans (HB.mono HB0.out.size)))).mono ?_
  rintro e V ⟨A2, c2, rfl, r1, l1, m1, bb⟩
  replace HB := HB.trans (bb.mono HB.size)
  have H2 := Hr.of_ret r1 l1 m1 Dsy (by omega)
  replace H1 := H1.to bb
  clear r1 l1 m1 bb
  refine hK.out _ _ (HB.mono hBW) ?_
  clear hK K
  repeat (refine plan_take (v := ?_) rfl (by rfl) ?_ ?_; rotate_left; (focus (intro w' hS; have k0 := (tX.toB hS (by omega)).c0; have k1 := (tX.toB hS (by omega)).c1; have k2 := (tY.toB hS (by omega)).c0; have k3 := (tY.toB hS (by omega)).c1; go_simp; try with_reducible rfl)); simp only [Act.put, List.setIfInBounds_toArray, List.set_cons_zero, List.set_cons_succ])
  refine plan_done ?_
  have k1 := (tX.to HB).c0
  have k2 := (tX.to HB).c1
  have k3 := (tY.to HB).c0
  have k4 := (tY.to HB).c1
  go_wp2_with fail
  have HC := cmp_r H1 H2
  rw [HO.out] at HC
  refine HC.mono ?_
  rintro e V2 ⟨rfl, rfl⟩
  clear HC
  go_wp2_with fail
  clear k1 k2 k3 k4
  refine wp_region_plan (S := fun w' => Below (w.heap.size + 1 + 1) W0 w') [(0, true), (1, true), (2, true), (3, true), (4, false), (5, false), (6, false)] (by kernel_rfl) (by kernel_rfl) (HB.mono hBW).drew ?_
  replace HB := HB.drew
  repeat (refine plan_take (v := ?_) rfl (by rfl) ?_ ?_; rotate_left; (focus (intro w' hS; have k0 := (tX.toB hS (by omega)).c0; have k1 := (tX.toB hS (by omega)).c1; have k2 := (tY.toB hS (by omega)).c0; have k3 := (tY.toB hS (by omega)).c1; go_simp; try with_reducible rfl)); simp only [Act.put, List.setIfInBounds_toArray, List.set_cons_zero, List.set_cons_succ])
  replace H1 := H1.to (Below.refl _ _).drew
  replace H2 := H2.to (Below.refl _ _).drew
  refine plan_call rfl (by rfl) (fun K hK => ?_)
  go_simp
  refine (sub_r H1 H2 HGE.out).mono ?_
  rintro e V ⟨A3, c3, rfl, r1, l1, m1, bb⟩
  replace HB := HB.trans (bb.mono HB.size)
  have H3 := Hr.of_ret r1 l1 m1 (Nat.lt_of_le_of_lt (Nat.sub_le _ _) Dsx) (by omega)
  clear r1 l1 m1 bb H1 H2
  refine hK.out _ _ (HB.mono hBW) ?_
  clear hK K
  refine plan_call rfl (by rfl) (fun K hK => ?_)
  go_simp
  refine (of_r n H3).mono ?_
  rintro e V ⟨xr, yr, rfl, rz, bb⟩
  replace HB := HB.trans (bb.mono HB.size)
  clear H3 bb
  refine hK.out _ _ (HB.mono hBW) ?_
  clear hK K
  refine plan_call rfl (by rfl) (fun K hK => ?_)
  refine wp_store_two (by rfl) (by rfl) (tR.to HB) Fs.nil rz.fs (fun V u kp => ?_)
  have HF := kp.zc _ _ _ rz
  have HE := kp.bel _ _ (HB0.out.trans (HB.mono HB0.out.size)) (by omega)
  refine hK.out _ _ (kp.bel _ _ (HB.mono hBW) (Nat.le_refl _)) ?_
  clear hK K kp
  simp only [Act.put, List.setIfInBounds_toArray, List.set_cons_zero, List.set_cons_succ]
  refine plan_done ?_
  have HF2 := Lib.hid HF
  have HE2 := Lib.hid HE
  clear HF HE
  go_wp2
  exact bodyPost_ret (v := .agg #[xr, yr]) (by simp [results, Try.f20, go_sem, u.c0, u.c1]) rfl ⟨xr, yr, rfl, HF2.out, HE2.out⟩
set_option maxRecDepth 100000 in
set_option maxHeartbeats 8000000 in
theorem rAdd_lt (n : Bool) (m : Bool) {A A' : Option Addr} {c c' : Nat} {xs ys : List Nat} {w : World} (hx : Arg w A c xs) (sx : xs.length ≤ 10000) (hy : Arg w A' c' ys) (sy : ys.length ≤ 10000) (hnm : (n == m) = false) (hlt : val b32 xs < val b32 ys) :
    Calls Try.prog 20 #[.agg #[.bool n, .slice A xs.length c], .agg #[.bool m, .slice A' ys.length c']] w (ZR w (zof m (val b32 ys - val b32 xs))) := by
  obtain ⟨W0, hW0⟩ : ∃ W0, W0 = (((w.alloc (.cells #[.bool n, .slice A xs.length c] 24)).alloc (.cells #[.bool m, .slice A' ys.length c'] 24)).alloc (.cells #[.bool false, .slice none 0 0] 24)) := ⟨_, rfl⟩
  have hb : Below w.heap.size w W0 := by rw [hW0]; exact (((Below.refl _ _).alloc (Nat.le_refl _) _).alloc (by simp) _).alloc (by simp; omega) _
  have tX : Two W0 (w.heap.size) (.bool n) (.slice A xs.length c) := by
    have h := Two.new w (.bool n) (.slice A xs.length c) 24
    rw [hW0]; exact (h.alloc _).alloc _
  have tY : Two W0 (w.heap.size + 1) (.bool m) (.slice A' ys.length c') := by
    have h := Two.new (w.alloc (.cells #[.bool n, .slice A xs.length c] 24)) (.bool m) (.slice A' ys.length c') 24
    rw [World.size_alloc] at h
    rw [hW0]; exact h.alloc _
  have tR : Two W0 (w.heap.size + 1 + 1) (.bool false) (.slice none 0 0) := by
    have h := Two.new ((w.alloc (.cells #[.bool n, .slice A xs.length c] 24)).alloc (.cells #[.bool m, .slice A' ys.length c'] 24)) (.bool false) (.slice none 0 0) 24
    rw [World.size_alloc, World.size_alloc] at h
    rw [hW0]; exact h
  have HW0 := Lib.hid hW0
  have HB0 := Lib.hid hb
  have HX := Lib.hid hx
  have HY := Lib.hid hy
  have hBW : w.heap.size + 1 + 1 ≤ W0.heap.size := by rw [hW0]; simp
  have Dsx : val b32 xs < b16 ^ (2 * xs.length) := by rw [← pow_2k]; exact val_lt hx.dg
  have Dsy : val b32 ys < b16 ^ (2 * ys.length) := by rw [← pow_2k]; exact val_lt hy.dg
  clear hW0 hb hx hy
  have HO : Hid (cmpN (val b32 xs) (val b32 ys) = -1) := cmpN_lt hlt
  have HGE := Lib.hid (Nat.le_of_lt hlt)
  clear hlt
  go_enter Try.func20, Try.ntmps20
  go_wp2_with fail
  rw [← HW0.out]
  refine wp_region_plan (S := fun w' => Below (w.heap.size + 1 + 1) W0 w') [(0, true), (1, true), (3, true), (4, true), (2, false), (5, false), (6, true), (7, true)] (by kernel_rfl) (by kernel_rfl) (Below.refl _ _).drew ?_
  have HB := (Below.refl W0.heap.size W0).drew
  repeat (refine plan_take (v := ?_) rfl (by rfl) ?_ ?_; rotate_left; (focus (intro w' hS; have k0 := (tX.toB hS (by omega)).c0; have k1 := (tX.toB hS (by omega)).c1; have k2 := (tY.toB hS (by omega)).c0; have k3 := (tY.toB hS (by omega)).c1; go_simp; try with_reducible rfl)); simp only [Act.put, List.setIfInBounds_toArray, List.set_cons_zero, List.set_cons_succ])
  refine plan_call rfl (by rfl) (fun K hK => ?_)
  go_simp
  refine (halves_r (HX.out.to (HB0.out.trans (HB.mono HB0.out.size)))).mono ?_
  rintro e V ⟨A1, c1, rfl, r1, l1, m1, bb⟩
  replace HB := HB.trans (bb.mono HB.size)
  have H1 := Hr.of_ret r1 l1 m1 Dsx (by omega)
  clear r1 l1 m1 bb
  refine hK.out _ _ (HB.mono hBW) ?_
  clear hK K
  refine plan_call rfl (by rfl) (fun K hK => ?_)
  go_simp
  refine (halves_r (HY.out.to (HB0.out.trans (HB.mono HB0.out.size)))).mono ?_
  rintro e V ⟨A2, c2, rfl, r1, l1, m1, bb⟩
  replace HB := HB.trans (bb.mono HB.size)
  have H2 := Hr.of_ret r1 l1 m1 Dsy (by omega)
  replace H1 := H1.to bb
  clear r1 l1 m1 bb
  refine hK.out _ _ (HB.mono hBW) ?_
  clear hK K
  repeat (refine plan_take (v := ?_) rfl (by rfl) ?_ ?_; rotate_left; (focus (intro w' hS; have k0 := (tX.toB hS (by omega)).c0; have k1 := (tX.toB hS (by omega)).c1; have k2 := (tY.toB hS (by omega)).c0; have k3 := (tY.toB hS (by omega)).c1; go_simp; try with_reducible rfl)); simp only [Act.put, List.setIfInBounds_toArray, List.set_cons_zero, List.set_cons_succ])
  refine plan_done ?_
  have k1 := (tX.to HB).c0
  have k2 := (tX.to HB).c1
  have k3 := (tY.to HB).c0
  have k4 := (tY.to HB).c1
  go_wp2_with fail
  have HC := cmp_r H1 H2
  rw [HO.out] at HC
  refine HC.mono ?_
  rintro e V2 ⟨rfl, rfl⟩
  clear HC
  go_wp2_with fail
  clear k1 k2 k3 k4
  refine wp_region_plan (S := fun w' => Below (w.heap.size + 1 + 1) W0 w') [(0, true), (1, true), (2, true), (3, true), (4, false), (5, false), (6, false)] (by kernel_rfl) (by kernel_rfl) (HB.mono hBW).drew ?_
  replace HB := HB.drew
  repeat (refine plan_take (v := ?_) rfl (by rfl) ?_ ?_; rotate_left; (focus (intro w' hS; have k0 := (tX.toB hS (by omega)).c0; have k1 := (tX.toB hS (by omega)).c1; have k2 := (tY.toB hS (by omega)).c0; have k3 := (tY.toB hS (by omega)).c1; go_simp; try with_reducible rfl)); simp only [Act.put, List.setIfInBounds_toArray, List.set_cons_zero, List.set_cons_succ])
  replace H1 := H1.to (Below.refl _ _).drew
  replace H2 := H2.to (Below.refl _ _).drew
  refine plan_call rfl (by rfl) (fun K hK => ?_)
  go_simp
  refine (sub_r H2 H1 HGE.out).mono ?_
  rintro e V ⟨A3, c3, rfl, r1, l1, m1, bb⟩
  replace HB := HB.trans (bb.mono HB.size)
  have H3 := Hr.of_ret r1 l1 m1 (Nat.lt_of_le_of_lt (Nat.sub_le _ _) Dsy) (by omega)
  clear r1 l1 m1 bb H1 H2
  refine hK.out _ _ (HB.mono hBW) ?_
  clear hK K
  refine plan_call rfl (by rfl) (fun K hK => ?_)
  go_simp
  refine (of_r m H3).mono ?_
  rintro e V ⟨xr, yr, rfl, rz, bb⟩
  replace HB := HB.trans (bb.mono HB.size)
  clear H3 bb
  refine hK.out _ _ (HB.mono hBW) ?_
  clear hK K
  refine plan_call rfl (by rfl) (fun K hK => ?_)
  refine wp_store_two (by rfl) (by rfl) (tR.to HB) Fs.nil rz.fs (fun V u kp => ?_)
  have HF := kp.zc _ _ _ rz
  have HE := kp.bel _ _ (HB0.out.trans (HB.mono HB0.out.size)) (by omega)
  refine hK.out _ _ (kp.bel _ _ (HB.mono hBW) (Nat.le_refl _)) ?_
  clear hK K kp
  simp only [Act.put, List.setIfInBounds_toArray, List.set_cons_zero, List.set_cons_succ]
  refine plan_done ?_
  have HF2 := Lib.hid HF
  have HE2 := Lib.hid HE
  clear HF HE
  go_wp2
  exact bodyPost_ret (v := .agg #[xr, yr]) (by simp [results, Try.f20, go_sem, u.c0, u.c1]) rfl ⟨xr, yr, rfl, HF2.out, HE2.out⟩
theorem rAdd_any (n m : Bool) {A A' : Option Addr} {c c' : Nat} {xs ys : List Nat} {w : World} (hx : Arg w A c xs) (sx : xs.length ≤ 10000) (hy : Arg w A' c' ys) (sy : ys.length ≤ 10000) :
    Calls Try.prog 20 #[.agg #[.bool n, .slice A xs.length c], .agg #[.bool m, .slice A' ys.length c']] w (ZR w (zof n (val b32 xs) + zof m (val b32 ys))) := by
  by_cases hnm : n = m
  · subst hnm
    have h := rAdd_same n hx sx hy sy
    rw [show zof n (val b32 xs + val b32 ys) = zof n (val b32 xs) + zof n (val b32 ys) from by cases n <;> simp [zof] <;> omega] at h
    exact h
  · have hb : (n == m) = false := by simpa using hnm
    rcases Nat.lt_or_ge (val b32 xs) (val b32 ys) with hlt | hge
    · have h := rAdd_lt n m hx sx hy sy hb hlt
      rw [show zof m (val b32 ys - val b32 xs) = zof n (val b32 xs) + zof m (val b32 ys) from by cases n <;> cases m <;> simp [zof] at * <;> omega] at h
      exact h
    · have h := rAdd_ge n m hx sx hy sy hb hge
      rw [show zof n (val b32 xs - val b32 ys) = zof n (val b32 xs) + zof m (val b32 ys) from by cases n <;> cases m <;> simp [zof] at * <;> omega] at h
      exact h
end Go.Proofs.Ytoaghihhobggoaa

namespace Go.Proofs.Ytoaghihhobggoaa
open Go.RowKit Go.Shelf

set_option maxRecDepth 100000 in
set_option maxHeartbeats 2000000 in
theorem least_any (n : Bool) {A : Option Addr} {c : Nat} {xs : List Nat} {w : World} (hx : Arg w A c xs) :
    Calls Try.prog 18 #[.agg #[.bool n, .slice A xs.length c]] w (ZRet w (zof n (val b32 xs))) := by
  obtain ⟨W0, hW0⟩ : ∃ W0, W0 = (w.alloc (.cells #[.bool n, .slice A xs.length c] 24)).alloc (.cells #[.bool false, .slice none 0 0] 24) := ⟨_, rfl⟩
  have hb : Below w.heap.size w W0.drew := by rw [hW0]; exact (((Below.refl _ _).alloc (Nat.le_refl _) _).alloc (by simp) _).drew
  have tX : Zat W0.drew w.heap.size (.bool n) (.slice A xs.length c) := by rw [hW0]; exact (Zat.new w _ _).alloc _
  have tR : Zat W0.drew (w.heap.size + 1) (.bool false) (.slice none 0 0) := by
    have h := Zat.new (w.alloc (.cells #[.bool n, .slice A xs.length c] 24)) (.bool false) (.slice none 0 0)
    rw [World.size_alloc] at h
    rw [hW0]; exact h
  have HSM : Hid ((dig b16 (val b32 xs)).length ≤ 8589934592) := by
    have h1 := trimL_dig b16_one (hw_dg hx.dg)
    rw [hw_val] at h1
    have h2 := trimL_le (hw xs)
    have h3 := hx.small
    rw [h1, hw_length] at h2
    show _ ≤ _
    omega
  have HH := Lib.hid (halves_any (hx.to hb))
  have cN : W0.cell? ⟨w.heap.size, 0, none⟩ = some (.bool n) := tX.two.c0
  have cW : W0.cell? ⟨w.heap.size, 1, none⟩ = some (.slice A xs.length c) := tX.two.c1
  have HW0 := Lib.hid hW0
  clear hW0 hx
  go_enter Try.func18, Try.ntmps18
  go_wp2_with fail
  rw [← HW0.out]
  refine wp_region_any (by kernel_rfl) ?_
  refine (show wpAny _ _ _ _ _ _ _ (World.drew _) from ?_)
  refine wpAny_take (i := 0) (v := .pointer (some ⟨w.heap.size, 0, none⟩)) rfl (by kernel_rfl) (by kernel_rfl) (by kernel_rfl) (fun _ _ _ h => h) (Or.inl ⟨by rfl, fun _ => by go_simp⟩) ?_
  refine wpAny_take (i := 2) (v := .pointer (some ⟨w.heap.size, 1, none⟩)) rfl (by kernel_rfl) (by kernel_rfl) (by kernel_rfl) (fun _ _ _ h => h) (Or.inl ⟨by rfl, fun _ => by go_simp⟩) ?_
  refine wpAny_ready (rs := [1, 3]) (by kernel_rfl) (by simp) (AllReady.cons rfl (fun K hK => ?_) (AllReady.cons rfl (fun K hK => ?_) AllReady.nil))
  · go_simp; refine hK _ _ ?_; clear hK K
    refine wpAny_ready (rs := [3]) (by kernel_rfl) (by simp) (AllReady.cons rfl (fun K hK => ?_) AllReady.nil)
    go_simp; refine hK _ _ ?_; clear hK K
    refine wpAny_ready (rs := [4]) (by kernel_rfl) (by simp) (AllReady.cons rfl (fun K hK => ?_) AllReady.nil)
    go_simp
    refine HH.out.mono ?_
    rintro e w2 ⟨A1, c1, rfl, r1, r2, r3, hb2⟩
    have hsm2 : (dig b16 (val b32 xs)).length ≤ 8589934592 := HSM.out
    have HO := Lib.hid (of_any n r1 (Dg_dig b16_one _) r2 r3 hsm2)
    rw [val_dig b16_one] at HO
    have cN2 := (tX.two.to hb2).c0
    have tR2 := tR.two.to hb2
    have HB := Lib.hid (hb.trans (hb2.mono hb.size))
    clear r1 r2 hsm2 hb2
    refine hK _ _ ?_; clear hK K
    refine wpAny_ready (rs := [5]) (by kernel_rfl) (by simp) (AllReady.cons rfl (fun K hK => ?_) AllReady.nil)
    obtain ⟨z, ez⟩ : ∃ z, Hid (zof n (val b32 xs) = z) := ⟨_, rfl⟩
    rw [ez.out] at HO
    go_simp
    refine HO.out.mono ?_
    rintro e w3 ⟨A3, c3, rfl, s1, s2, s3, hb3⟩
    obtain ⟨q1, q2, q3, q4, q5⟩ := tR2.to hb3
    have S1 := Lib.hid s1
    have HB3 := Lib.hid (HB.out.trans (hb3.mono HB.out.size))
    clear s1 hb3 tR2
    refine hK _ _ ?_; clear hK K
    refine wpAny_ready (rs := [6]) (by kernel_rfl) (by simp) (AllReady.cons rfl (fun K hK => ?_) AllReady.nil)
    go_simp; refine hK _ _ ?_; clear hK K
    refine wpAny_done (by kernel_rfl) ?_ _
    go_wp2
    have tF := (⟨q1, q2, q3, q4, q5⟩ : Two w3 (w.heap.size + 1) _ _).set (.bool (decide (z < 0))) (.slice A3 (dig b32 z.natAbs).length c3)
    refine bodyPost_ret (v := .agg #[.bool (decide (z < 0)), .slice A3 (dig b32 z.natAbs).length c3]) (by simp [results, Try.f18, go_sem, tF.c0, tF.c1]) rfl ?_
    rw [ez.out]
    exact zret_stored ⟨q1, q2, q3, q4, q5⟩ (by omega) S1.out s2 s3 HB3.out
  · go_simp; refine hK _ _ ?_; clear hK K
    refine wpAny_ready (rs := [1, 4]) (by kernel_rfl) (by simp) (AllReady.cons rfl (fun K hK => ?_) (AllReady.cons rfl (fun K hK => ?_) AllReady.nil))
    · go_simp; refine hK _ _ ?_; clear hK K
      refine wpAny_ready (rs := [4]) (by kernel_rfl) (by simp) (AllReady.cons rfl (fun K hK => ?_) AllReady.nil)
      go_simp
      refine HH.out.mono ?_
      rintro e w2 ⟨A1, c1, rfl, r1, r2, r3, hb2⟩
      have hsm2 : (dig b16 (val b32 xs)).length ≤ 8589934592 := HSM.out
      have HO := Lib.hid (of_any n r1 (Dg_dig b16_one _) r2 r3 hsm2)
      rw [val_dig b16_one] at HO
      have cN2 := (tX.two.to hb2).c0
      have tR2 := tR.two.to hb2
      have HB := Lib.hid (hb.trans (hb2.mono hb.size))
      clear r1 r2 hsm2 hb2
      refine hK _ _ ?_; clear hK K
      refine wpAny_ready (rs := [5]) (by kernel_rfl) (by simp) (AllReady.cons rfl (fun K hK => ?_) AllReady.nil)
      obtain ⟨z, ez⟩ : ∃ z, Hid (zof n (val b32 xs) = z) := ⟨_, rfl⟩
      rw [ez.out] at HO
      go_simp
      refine HO.out.mono ?_
      rintro e w3 ⟨A3, c3, rfl, s1, s2, s3, hb3⟩
      obtain ⟨q1, q2, q3, q4, q5⟩ := tR2.to hb3
      have S1 := Lib.hid s1
      have HB3 := Lib.hid (HB.out.trans (hb3.mono HB.out.size))
      clear s1 hb3 tR2
      refine hK _ _ ?_; clear hK K
      refine wpAny_ready (rs := [6]) (by kernel_rfl) (by simp) (AllReady.cons rfl (fun K hK => ?_) AllReady.nil)
      go_simp; refine hK _ _ ?_; clear hK K
      refine wpAny_done (by kernel_rfl) ?_ _
      go_wp2
      have tF := (⟨q1, q2, q3, q4, q5⟩ : Two w3 (w.heap.size + 1) _ _).set (.bool (decide (z < 0))) (.slice A3 (dig b32 z.natAbs).length c3)
      refine bodyPost_ret (v := .agg #[.bool (decide (z < 0)), .slice A3 (dig b32 z.natAbs).length c3]) (by simp [results, Try.f18, go_sem, tF.c0, tF.c1]) rfl ?_
      rw [ez.out]
      exact zret_stored ⟨q1, q2, q3, q4, q5⟩ (by omega) S1.out s2 s3 HB3.out
    · go_simp
      refine HH.out.mono ?_
      rintro e w2 ⟨A1, c1, rfl, r1, r2, r3, hb2⟩
      have hsm2 : (dig b16 (val b32 xs)).length ≤ 8589934592 := HSM.out
      have HO := Lib.hid (of_any n r1 (Dg_dig b16_one _) r2 r3 hsm2)
      rw [val_dig b16_one] at HO
      have cN2 := (tX.two.to hb2).c0
      have tR2 := tR.two.to hb2
      have HB := Lib.hid (hb.trans (hb2.mono hb.size))
      clear r1 r2 hsm2 hb2
      refine hK _ _ ?_; clear hK K
      refine wpAny_ready (rs := [1]) (by kernel_rfl) (by simp) (AllReady.cons rfl (fun K hK => ?_) AllReady.nil)
      go_simp; refine hK _ _ ?_; clear hK K
      refine wpAny_ready (rs := [5]) (by kernel_rfl) (by simp) (AllReady.cons rfl (fun K hK => ?_) AllReady.nil)
      obtain ⟨z, ez⟩ : ∃ z, Hid (zof n (val b32 xs) = z) := ⟨_, rfl⟩
      rw [ez.out] at HO
      go_simp
      refine HO.out.mono ?_
      rintro e w3 ⟨A3, c3, rfl, s1, s2, s3, hb3⟩
      obtain ⟨q1, q2, q3, q4, q5⟩ := tR2.to hb3
      have S1 := Lib.hid s1
      have HB3 := Lib.hid (HB.out.trans (hb3.mono HB.out.size))
      clear s1 hb3 tR2
      refine hK _ _ ?_; clear hK K
      refine wpAny_ready (rs := [6]) (by kernel_rfl) (by simp) (AllReady.cons rfl (fun K hK => ?_) AllReady.nil)
      go_simp; refine hK _ _ ?_; clear hK K
      refine wpAny_done (by kernel_rfl) ?_ _
      go_wp2
      have tF := (⟨q1, q2, q3, q4, q5⟩ : Two w3 (w.heap.size + 1) _ _).set (.bool (decide (z < 0))) (.slice A3 (dig b32 z.natAbs).length c3)
      refine bodyPost_ret (v := .agg #[.bool (decide (z < 0)), .slice A3 (dig b32 z.natAbs).length c3]) (by simp [results, Try.f18, go_sem, tF.c0, tF.c1]) rfl ?_
      rw [ez.out]
      exact zret_stored ⟨q1, q2, q3, q4, q5⟩ (by omega) S1.out s2 s3 HB3.out
theorem lo_word (m : Nat) (hm : m < 18446744073709551616) : ((m : Nat) : Int).tmod 4294967296 % 4294967296 = (m : Int) % 4294967296 := by
  rw [Int.tmod_eq_emod_of_nonneg (by omega)]; omega
theorem hi_word (m : Nat) (hm : m < 18446744073709551616) : IntKind.u64.wrap (((m : Nat) : Int).tdiv 4294967296) % 4294967296 = (m : Int) / 4294967296 := by
  rw [Int.tdiv_eq_ediv_of_nonneg (by omega), IntKind.wrap_u64]; omega

set_option maxHeartbeats 1000000 in
theorem from_tail (neg : Bool) (m : Nat) (hm : m < 18446744073709551616) {w W : World} (hb : Below w.heap.size w W) :
    Calls Try.prog 18 #[.agg #[.bool neg, .slice (some ⟨W.heap.size, 0, none⟩) 2 2]] (W.alloc (.cells #[.int .u32 ((m : Int) % 4294967296), .int .u32 ((m : Int) / 4294967296)] 52)) (ZRet (W.alloc (.cells #[.int .u32 ((m : Int) % 4294967296), .int .u32 ((m : Int) / 4294967296)] 52)) (zof neg m)) := by
  have hr := Rd.new .u32 W 52 [m % 4294967296, m / 4294967296]
  have h := least_any neg (A := some ⟨W.heap.size, 0, none⟩) (c := 2) (xs := [m % 4294967296, m / 4294967296]) (w := W.alloc (.cells (ints .u32 [m % 4294967296, m / 4294967296]).toArray 52))
    ⟨hr.more (by simp), two_dg hm, by simp, by omega, by simp⟩
  rw [two_val] at h
  simpa [ints] using h

set_option maxHeartbeats 1000000 in
theorem rfrom_pos (m : Nat) (hm : m < 9223372036854775808) (w : World) :
    Calls Try.prog 16 #[.int .i64 (m : Nat)] w (ZRet w ((m : Nat))) := by
  have t0 := Two.new w (.bool false) (.slice none 0 0) 24
  have HB0 := Lib.hid ((Below.refl w.heap.size w).alloc (Nat.le_refl _) (.cells #[.bool false, .slice none 0 0] 24))
  have hm' : m < 18446744073709551616 := by omega
  have HI := Lib.hid (from_tail false m hm' HB0.out)
  obtain ⟨z, ez⟩ : ∃ z, Hid (zof false m = z) := ⟨_, rfl⟩
  rw [ez.out] at HI
  simp only [World.size_alloc] at HI
  go_enter Try.func16, Try.ntmps16
  go_wp2_with fail
  refine HI.out.mono ?_
  rintro e w3 ⟨A3, c3, rfl, s1, s2, s3, hb3⟩
  obtain ⟨q1, q2, q3, q4, q5⟩ := (t0.alloc _).to hb3
  have S1 := Lib.hid s1
  have HB3 := Lib.hid ((HB0.out.alloc HB0.out.size _).trans (hb3.mono (by simp; omega)))
  clear s1 hb3 t0
  go_wp2
  have tF := (⟨q1, q2, q3, q4, q5⟩ : Two w3 w.heap.size _ _).set (.bool (decide (z < 0))) (.slice A3 (dig b32 z.natAbs).length c3)
  refine bodyPost_ret (v := .agg #[.bool (decide (z < 0)), .slice A3 (dig b32 z.natAbs).length c3]) (by simp [results, Try.f16, go_sem, tF.c0, tF.c1]) rfl ?_
  rw [show ((m : Nat) : Int) = z from by rw [← ez.out]; rfl]
  exact zret_stored ⟨q1, q2, q3, q4, q5⟩ (Nat.le_refl _) S1.out s2 s3 HB3.out

set_option maxHeartbeats 1000000 in
theorem rfrom_neg (m : Nat) (hm0 : 0 < m) (hm : m ≤ 9223372036854775808) (w : World) :
    Calls Try.prog 16 #[.int .i64 (-(m : Int))] w (ZRet w (-(m : Int))) := by
  have t0 := Two.new w (.bool false) (.slice none 0 0) 24
  have HB0 := Lib.hid ((Below.refl w.heap.size w).alloc (Nat.le_refl _) (.cells #[.bool false, .slice none 0 0] 24))
  have hm' : m < 18446744073709551616 := by omega
  have HI := Lib.hid (from_tail true m hm' HB0.out)
  obtain ⟨z, ez⟩ : ∃ z, Hid (zof true m = z) := ⟨_, rfl⟩
  rw [ez.out] at HI
  simp only [World.size_alloc] at HI
  go_enter Try.func16, Try.ntmps16
  go_wp2_with fail
  rw [wrap_neg_neg m hm', lo_word m hm', hi_word m hm']
  refine HI.out.mono ?_
  rintro e w3 ⟨A3, c3, rfl, s1, s2, s3, hb3⟩
  obtain ⟨q1, q2, q3, q4, q5⟩ := (t0.alloc _).to hb3
  have S1 := Lib.hid s1
  have HB3 := Lib.hid ((HB0.out.alloc HB0.out.size _).trans (hb3.mono (by simp; omega)))
  clear s1 hb3 t0
  go_wp2
  have tF := (⟨q1, q2, q3, q4, q5⟩ : Two w3 w.heap.size _ _).set (.bool (decide (z < 0))) (.slice A3 (dig b32 z.natAbs).length c3)
  refine bodyPost_ret (v := .agg #[.bool (decide (z < 0)), .slice A3 (dig b32 z.natAbs).length c3]) (by simp [results, Try.f16, go_sem, tF.c0, tF.c1]) rfl ?_
  rw [show (-(m : Int) : Int) = z from by rw [← ez.out]; rfl]
  exact zret_stored ⟨q1, q2, q3, q4, q5⟩ (Nat.le_refl _) S1.out s2 s3 HB3.out

theorem rfrom_any (n : Int) (h1 : -9223372036854775808 ≤ n) (h2 : n ≤ 9223372036854775807) (w : World) :
    Calls Try.prog 16 #[.int .i64 n] w (ZRet w n) := by
  rcases Int.lt_or_le n 0 with h | h
  · obtain ⟨m, rfl⟩ : ∃ m : Nat, n = -(m : Int) := ⟨n.natAbs, by omega⟩
    exact rfrom_neg m (by omega) (by omega) w
  · obtain ⟨m, rfl⟩ := Int.eq_ofNat_of_zero_le h
    exact rfrom_pos m (by omega) w
end Go.Proofs.Ytoaghihhobggoaa

namespace Go.Proofs.Ytoaghihhobggoaa
open Go.RowKit Go.Shelf

/-- Two cells that are an integer of at most 10000 words, in whatever form. -/
def Zl (W : World) (x y : Value) (z : Int) : Prop := ∃ n A c xs, x = .bool n ∧ y = .slice A xs.length c ∧ Arg W A c xs ∧ xs.length ≤ 10000 ∧ zof n (val b32 xs) = z

theorem Zl.to {W V : World} {x y : Value} {z : Int} (h : Zl W x y z) (hb : Below W.heap.size W V) : Zl V x y z := by
  obtain ⟨n, A, c, xs, h1, h2, h3, h4⟩ := h
  exact ⟨n, A, c, xs, h1, h2, h3.to hb, h4⟩
theorem Zl.zi {W : World} {x y : Value} {z : Int} (h : Zl W x y z) : Zi W x y z := by
  obtain ⟨n, A, c, xs, h1, h2, h3, _, h4⟩ := h
  exact ⟨n, A, c, xs, h1, h2, h3, h4⟩
theorem Zc.zl {W : World} {x y : Value} {z : Int} {k : Nat} (h : Zc W x y z) (hs : Sm k z) (hk : k ≤ 10000) : Zl W x y z := by
  obtain ⟨A, c, h1, h2, h3, h4, h5⟩ := h
  have hl := Nat.le_trans (dig_length_le b32_one hs) hk
  exact ⟨_, A, c, _, h1, h2, ⟨h3, Dg_dig b32_one _, h4, h5, by omega⟩, hl, by rw [val_dig b32_one]; exact zof_dec z⟩

section
variable {w : World} {x y x' y' : Value} {a b : Int}
theorem rneg_z (ha : Zl w x y a) : Calls Try.prog 26 #[.agg #[x, y]] w (ZR w (-a)) := by
  obtain ⟨n, A, c, xs, rfl, rfl, h3, h4, rfl⟩ := ha
  have h := rneg_any n h3 h4
  rw [zof_not] at h
  exact h
theorem radd_z (ha : Zl w x y a) (hb : Zl w x' y' b) : Calls Try.prog 20 #[.agg #[x, y], .agg #[x', y']] w (ZR w (a + b)) := by
  obtain ⟨n, A, c, xs, rfl, rfl, h3, h4, rfl⟩ := ha
  obtain ⟨m, B, d, ys, rfl, rfl, k3, k4, rfl⟩ := hb
  exact rAdd_any n m h3 h4 k3 k4
theorem rmul_z (ha : Zl w x y a) (hb : Zl w x' y' b) : Calls Try.prog 24 #[.agg #[x, y], .agg #[x', y']] w (ZR w (a * b)) := by
  obtain ⟨n, A, c, xs, rfl, rfl, h3, h4, rfl⟩ := ha
  obtain ⟨m, B, d, ys, rfl, rfl, k3, k4, rfl⟩ := hb
  have h := rMul_any n m h3 h4 k3 k4
  rw [zof_mul] at h
  exact h
theorem rleast_z (ha : Zl w x y a) : Calls Try.prog 18 #[.agg #[x, y]] w (ZR w a) := by
  obtain ⟨n, A, c, xs, rfl, rfl, h3, h4, rfl⟩ := ha
  exact (least_any n h3).mono fun _ _ h => h.zr
theorem rfrom_z (v : Int) (h1 : -9223372036854775808 ≤ v) (h2 : v ≤ 9223372036854775807) (w : World) : Calls Try.prog 16 #[.int .i64 v] w (ZR w v) :=
  (rfrom_any v h1 h2 w).mono fun _ _ h => h.zr
end

set_option maxRecDepth 100000 in
set_option maxHeartbeats 8000000 in
theorem rSub_any (n : Bool) (m : Bool) {A A' : Option Addr} {c c' : Nat} {xs ys : List Nat} {w : World} (hx : Arg w A c xs) (sx : xs.length ≤ 10000) (hy : Arg w A' c' ys) (sy : ys.length ≤ 10000) :
    Calls Try.prog 22 #[.agg #[.bool n, .slice A xs.length c], .agg #[.bool m, .slice A' ys.length c']] w (ZR w (zof n (val b32 xs) - zof m (val b32 ys))) := by
  obtain ⟨W0, hW0⟩ : ∃ W0, W0 = (((w.alloc (.cells #[.bool n, .slice A xs.length c] 24)).alloc (.cells #[.bool m, .slice A' ys.length c'] 24)).alloc (.cells #[.bool false, .slice none 0 0] 24)) := ⟨_, rfl⟩
  have hb : Below w.heap.size w W0 := by rw [hW0]; exact (((Below.refl _ _).alloc (Nat.le_refl _) _).alloc (by simp) _).alloc (by simp; omega) _
  have tX : Two W0 (w.heap.size) (.bool n) (.slice A xs.length c) := by
    have h := Two.new w (.bool n) (.slice A xs.length c) 24
    rw [hW0]; exact (h.alloc _).alloc _
  have tY : Two W0 (w.heap.size + 1) (.bool m) (.slice A' ys.length c') := by
    have h := Two.new (w.alloc (.cells #[.bool n, .slice A xs.length c] 24)) (.bool m) (.slice A' ys.length c') 24
    rw [World.size_alloc] at h
    rw [hW0]; exact h.alloc _
  have tR : Two W0 (w.heap.size + 1 + 1) (.bool false) (.slice none 0 0) := by
    have h := Two.new ((w.alloc (.cells #[.bool n, .slice A xs.length c] 24)).alloc (.cells #[.bool m, .slice A' ys.length c'] 24)) (.bool false) (.slice none 0 0) 24
    rw [World.size_alloc, World.size_alloc] at h
    rw [hW0]; exact h
  have HW0 := Lib.hid hW0
  have HB0 := Lib.hid hb
  have HX := Lib.hid hx
  have HY := Lib.hid hy
  have hBW : w.heap.size + 1 + 1 ≤ W0.heap.size := by rw [hW0]; simp
  have Dsx : val b32 xs < b16 ^ (2 * xs.length) := by rw [← pow_2k]; exact val_lt hx.dg
  have Dsy : val b32 ys < b16 ^ (2 * ys.length) := by rw [← pow_2k]; exact val_lt hy.dg
  clear hW0 hb hx hy
  have hsm : Sm ys.length (-zof m (val b32 ys)) := (Sm.zof HY.out.dg (Nat.le_refl _)).neg
  go_enter Try.func22, Try.ntmps22
  go_wp2_with fail
  rw [← HW0.out]
  refine wp_region_plan (S := fun w' => Below (w.heap.size + 1 + 1) W0 w') [(0, true), (1, true), (2, false), (3, false), (4, false)] (by kernel_rfl) (by kernel_rfl) (Below.refl _ _).drew ?_
  have HB := (Below.refl W0.heap.size W0).drew
  repeat (refine plan_take (v := ?_) rfl (by rfl) ?_ ?_; rotate_left; (focus (intro w' hS; have k0 := (tX.toB hS (by omega)).c0; have k1 := (tX.toB hS (by omega)).c1; have k2 := (tY.toB hS (by omega)).c0; have k3 := (tY.toB hS (by omega)).c1; go_simp; try with_reducible rfl)); simp only [Act.put, List.setIfInBounds_toArray, List.set_cons_zero, List.set_cons_succ])
  refine plan_call rfl (by rfl) (fun K hK => ?_)
  go_simp
  refine (rneg_z (a := zof m (val b32 ys)) ⟨m, _, _, _, rfl, rfl, (HY.out.to (HB0.out.trans (HB.mono HB0.out.size))), sy, rfl⟩).mono ?_
  rintro e V ⟨xn, yn, rfl, rn, bb⟩
  replace HB := HB.trans (bb.mono HB.size)
  refine hK.out _ _ (HB.mono hBW) ?_
  clear hK K
  refine plan_call rfl (by rfl) (fun K hK => ?_)
  go_simp
  refine (radd_z (a := zof n (val b32 xs)) ⟨n, _, _, _, rfl, rfl, (HX.out.to (HB0.out.trans (HB.mono HB0.out.size))), sx, rfl⟩ (rn.zl hsm sy)).mono ?_
  rintro e V ⟨xr, yr, rfl, rz, bb2⟩
  replace HB := HB.trans (bb2.mono HB.size)
  rw [← Int.sub_eq_add_neg] at rz
  clear rn bb bb2
  refine hK.out _ _ (HB.mono hBW) ?_
  clear hK K
  refine plan_call rfl (by rfl) (fun K hK => ?_)
  refine wp_store_two (by rfl) (by rfl) (tR.to HB) Fs.nil rz.fs (fun V u kp => ?_)
  have HF := kp.zc _ _ _ rz
  have HE := kp.bel _ _ (HB0.out.trans (HB.mono HB0.out.size)) (by omega)
  refine hK.out _ _ (kp.bel _ _ (HB.mono hBW) (Nat.le_refl _)) ?_
  clear hK K kp
  simp only [Act.put, List.setIfInBounds_toArray, List.set_cons_zero, List.set_cons_succ]
  refine plan_done ?_
  have HF2 := Lib.hid HF
  have HE2 := Lib.hid HE
  clear HF HE
  go_wp2
  exact bodyPost_ret (v := .agg #[xr, yr]) (by simp [results, Try.f22, go_sem, u.c0, u.c1]) rfl ⟨xr, yr, rfl, HF2.out, HE2.out⟩

set_option maxRecDepth 100000 in
set_option maxHeartbeats 8000000 in
theorem rAbs_any (n : Bool) {A : Option Addr} {c : Nat} {xs : List Nat} {w : World} (hx : Arg w A c xs) (sx : xs.length ≤ 10000) :
    Calls Try.prog 28 #[.agg #[.bool n, .slice A xs.length c]] w (ZR w ((val b32 xs : Nat) : Int)) := by
  obtain ⟨W0, hW0⟩ : ∃ W0, W0 = ((w.alloc (.cells #[.bool n, .slice A xs.length c] 24)).alloc (.cells #[.bool false, .slice none 0 0] 24)) := ⟨_, rfl⟩
  have hb : Below w.heap.size w W0 := by rw [hW0]; exact ((Below.refl _ _).alloc (Nat.le_refl _) _).alloc (by simp) _
  have tX : Two W0 (w.heap.size) (.bool n) (.slice A xs.length c) := by
    have h := Two.new w (.bool n) (.slice A xs.length c) 24
    rw [hW0]; exact h.alloc _
  have tR : Two W0 (w.heap.size + 1) (.bool false) (.slice none 0 0) := by
    have h := Two.new (w.alloc (.cells #[.bool n, .slice A xs.length c] 24)) (.bool false) (.slice none 0 0) 24
    rw [World.size_alloc] at h
    rw [hW0]; exact h
  have HW0 := Lib.hid hW0
  have HB0 := Lib.hid hb
  have HX := Lib.hid hx
  have hBW : w.heap.size + 1 ≤ W0.heap.size := by rw [hW0]; simp
  have Dsx : val b32 xs < b16 ^ (2 * xs.length) := by rw [← pow_2k]; exact val_lt hx.dg
  clear hW0 hb hx
  go_enter Try.func28, Try.ntmps28
  go_wp2_with fail
  rw [← HW0.out]
  have k1 := tX.c0
  have k2 := tX.c1
  refine (halves_r (HX.out.to HB0.out)).mono ?_
  rintro e V ⟨A1, c1, rfl, r1, l1, m1, bb⟩
  have H1 := Hr.of_ret r1 l1 m1 Dsx (by omega)
  have HOF := Lib.hid (of_r false H1)
  have t2 := tR.to bb
  have HB := Lib.hid (HB0.out.trans (bb.mono HB0.out.size))
  clear k1 k2 r1 l1 m1 bb H1 tX tR
  go_wp2_with fail
  refine HOF.out.mono ?_
  rintro e V2 ⟨xr, yr, rfl, rz, bb⟩
  have rz2 := rz
  obtain ⟨A3, c3, rfl, rfl, -⟩ := rz2
  have t3 := t2.to bb
  have HE := Lib.hid (HB.out.trans (bb.mono HB.out.size))
  have k0 := t3.c0
  have k1 := t3.c1
  have k2 := t3.f0
  have k3 := t3.f1
  have RZ := Lib.hid rz
  clear rz bb t2 HB HOF
  go_wp2
  have tF := t3.set (.bool (decide (zof false (val b32 xs) < 0))) (.slice A3 (dig b32 (zof false (val b32 xs)).natAbs).length c3)
  have KP := Kept.of t3 (fun n e => by cases e) (fun n e => by cases e) (.bool (decide (zof false (val b32 xs) < 0))) (.slice A3 (dig b32 (zof false (val b32 xs)).natAbs).length c3)
  have hz : zof false (val b32 xs) = ((val b32 xs : Nat) : Int) := by simp [zof]
  refine bodyPost_ret (v := .agg #[.bool (decide (zof false (val b32 xs) < 0)), .slice A3 (dig b32 (zof false (val b32 xs)).natAbs).length c3]) (by simp [results, Try.f28, go_sem, tF.c0, tF.c1]) rfl ?_
  rw [← hz]
  exact ⟨_, _, rfl, KP.zc _ _ _ RZ.out, KP.bel _ _ HE.out (by omega)⟩
  
theorem dig_len0 {b n : Nat} (hb : 1 < b) : (dig b n).length = 0 ↔ n = 0 :=
  ⟨fun h => (dig_nil hb).1 (List.eq_nil_of_length_eq_zero h), fun h => by rw [h]; rfl⟩

set_option maxRecDepth 100000 in
set_option maxHeartbeats 8000000 in
theorem rSign_any (n : Bool) {A : Option Addr} {c : Nat} {xs : List Nat} {w : World} (hx : Arg w A c xs) (sx : xs.length ≤ 10000) :
    Calls Try.prog 30 #[.agg #[.bool n, .slice A xs.length c]] w fun e w' => e = .returned (.int .i64 (sgn (zof n (val b32 xs)))) ∧ Below w.heap.size w w' := by
  obtain ⟨W0, hW0⟩ : ∃ W0, W0 = (w.alloc (.cells #[.bool n, .slice A xs.length c] 24)) := ⟨_, rfl⟩
  have hb : Below w.heap.size w W0 := by rw [hW0]; exact (Below.refl _ _).alloc (Nat.le_refl _) _
  have tX : Two W0 (w.heap.size) (.bool n) (.slice A xs.length c) := by
    have h := Two.new w (.bool n) (.slice A xs.length c) 24
    rw [hW0]; exact h
  have HW0 := Lib.hid hW0
  have HB0 := Lib.hid hb
  have HX := Lib.hid hx
  have hBW : w.heap.size + 1 ≤ W0.heap.size := by rw [hW0]; simp
  have Dsx : val b32 xs < b16 ^ (2 * xs.length) := by rw [← pow_2k]; exact val_lt hx.dg
  clear hW0 hb hx
  have HH := Lib.hid (halves_r (HX.out.to HB0.out))
  have h0 := @dig_len0 b16 (val b32 xs) b16_one
  obtain ⟨l, hl⟩ : ∃ l, (dig b16 (val b32 xs)).length = l := ⟨_, rfl⟩
  obtain ⟨v, hv⟩ : ∃ v, val b32 xs = v := ⟨_, rfl⟩
  rw [hv] at h0 hl HH
  rw [hv]
  rw [hl] at h0
  have HL := Lib.hid hl
  have HS : Hid ((l = 0 → sgn (zof n v) = 0) ∧ (l ≠ 0 → sgn (zof n v) = if n then -1 else 1)) := by
    refine ⟨fun h => by rw [h0.1 h, zof_zero]; rfl, fun h => ?_⟩
    have : v ≠ 0 := fun e => h (h0.2 e)
    cases n <;> simp only [sgn, zof, Bool.false_eq_true, if_false, if_true] <;> repeat' split
    all_goals omega
  clear hl h0 hv Dsx
  rcases Nat.eq_zero_or_pos l with hl0 | hl0
  · subst hl0
    rw [HS.out.1 rfl]
    go_enter Try.func30, Try.ntmps30
    go_wp2_with fail
    rw [← HW0.out]
    have k1 := tX.c0
    have k2 := tX.c1
    refine HH.out.mono ?_
    rintro e V ⟨A1, c1, rfl, r1, l1, m1, bb⟩
    rw [HL.out]
    have k3 := (tX.to bb).c0
    have k4 := (tX.to bb).c1
    have HB := Lib.hid (HB0.out.trans (bb.mono HB0.out.size))
    clear k1 k2 r1 l1 m1 bb tX
    go_wp2
    go_ret
    exact ⟨rfl, HB.out⟩
  · have hln : ((l : Int) == 0) = false := by rw [beq_eq_false_iff_ne]; omega
    rw [HS.out.2 (by omega)]
    cases n
    · go_enter Try.func30, Try.ntmps30
      go_wp2_with fail
      rw [← HW0.out]
      have k1 := tX.c0
      have k2 := tX.c1
      refine HH.out.mono ?_
      rintro e V ⟨A1, c1, rfl, r1, l1, m1, bb⟩
      rw [HL.out]
      have k3 := (tX.to bb).c0
      have k4 := (tX.to bb).c1
      have HB := Lib.hid (HB0.out.trans (bb.mono HB0.out.size))
      clear k1 k2 r1 l1 m1 bb tX
      go_wp2
      go_ret
      exact ⟨rfl, HB.out⟩
    · go_enter Try.func30, Try.ntmps30
      go_wp2_with fail
      rw [← HW0.out]
      have k1 := tX.c0
      have k2 := tX.c1
      refine HH.out.mono ?_
      rintro e V ⟨A1, c1, rfl, r1, l1, m1, bb⟩
      rw [HL.out]
      have k3 := (tX.to bb).c0
      have k4 := (tX.to bb).c1
      have HB := Lib.hid (HB0.out.trans (bb.mono HB0.out.size))
      clear k1 k2 r1 l1 m1 bb tX
      go_wp2
      go_ret
      exact ⟨rfl, HB.out⟩
end Go.Proofs.Ytoaghihhobggoaa
