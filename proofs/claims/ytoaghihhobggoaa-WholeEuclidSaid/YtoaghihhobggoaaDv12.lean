/- Parts: RefOps4, Int64, RefInt, Own. -/
import Derived.Test.YtoaghihhobggoaaDv5
import Derived.Test.YtoaghihhobggoaaDv7
import Derived.Test.YtoaghihhobggoaaDv10
import Derived.Test.YtoaghihhobggoaaDv11
set_option linter.unusedVariables false
set_option linter.unusedSimpArgs false

namespace Go.Proofs.Ytoaghihhobggoaa
open Go.RowKit Go.Shelf

theorem rsign_z {w : World} {x y : Value} {a : Int} (ha : Zl w x y a) : Calls Try.prog 30 #[.agg #[x, y]] w fun e w' => e = .returned (.int .i64 (sgn a)) ∧ Below w.heap.size w w' := by
  obtain ⟨n, A, c, xs, rfl, rfl, h3, h4, rfl⟩ := ha
  exact rSign_any n h3 h4

theorem cmp_signs {n m : Bool} {x y : Nat} (h : sgn (zof n x) = sgn (zof m y)) : (sgn (zof n x) < 0 → -cmpN x y = cmpZ (zof n x) (zof m y)) ∧ (¬ sgn (zof n x) < 0 → cmpN x y = cmpZ (zof n x) (zof m y)) := by
  have h1 := cmpZ_mag h
  rcases sgn_range (zof n x) with hs | hs | hs
  · rw [hs] at h1 ⊢; exact ⟨fun _ => by omega, fun h => by omega⟩
  · rw [hs] at h1 ⊢
    refine ⟨fun h => by omega, fun _ => ?_⟩
    rw [hs] at h
    have hx : x = 0 := by
      refine Classical.byContradiction fun hn => ?_
      cases n <;> simp only [sgn, zof, Bool.false_eq_true, if_false, if_true] at hs <;> (repeat' split at hs) <;> omega
    have hy : y = 0 := by
      refine Classical.byContradiction fun hn => ?_
      cases m <;> simp only [sgn, zof, Bool.false_eq_true, if_false, if_true] at h <;> (repeat' split at h) <;> omega
    subst hx hy
    rw [← h1]; simp [cmpN]
  · rw [hs] at h1 ⊢; exact ⟨fun h => by omega, fun _ => by omega⟩

set_option maxRecDepth 100000 in
set_option maxHeartbeats 8000000 in
theorem rCmp_any (n : Bool) (m : Bool) {A A' : Option Addr} {c c' : Nat} {xs ys : List Nat} {w : World} (hx : Arg w A c xs) (sx : xs.length ≤ 10000) (hy : Arg w A' c' ys) (sy : ys.length ≤ 10000) :
    Calls Try.prog 32 #[.agg #[.bool n, .slice A xs.length c], .agg #[.bool m, .slice A' ys.length c']] w fun e w' => e = .returned (.int .i64 (cmpZ (zof n (val b32 xs)) (zof m (val b32 ys)))) ∧ Below w.heap.size w w' := by
  obtain ⟨W0, hW0⟩ : ∃ W0, W0 = ((w.alloc (.cells #[.bool n, .slice A xs.length c] 24)).alloc (.cells #[.bool m, .slice A' ys.length c'] 24)) := ⟨_, rfl⟩
  have hb : Below w.heap.size w W0 := by rw [hW0]; exact ((Below.refl _ _).alloc (Nat.le_refl _) _).alloc (by simp) _
  have tX : Two W0 (w.heap.size) (.bool n) (.slice A xs.length c) := by
    have h := Two.new w (.bool n) (.slice A xs.length c) 24
    rw [hW0]; exact h.alloc _
  have tY : Two W0 (w.heap.size + 1) (.bool m) (.slice A' ys.length c') := by
    have h := Two.new (w.alloc (.cells #[.bool n, .slice A xs.length c] 24)) (.bool m) (.slice A' ys.length c') 24
    rw [World.size_alloc] at h
    rw [hW0]; exact h
  have HW0 := Lib.hid hW0
  have HB0 := Lib.hid hb
  have HX := Lib.hid hx
  have HY := Lib.hid hy
  have hBW : w.heap.size + 1 + 1 ≤ W0.heap.size := by rw [hW0]; simp
  have Dsx : val b32 xs < b16 ^ (2 * xs.length) := by rw [← pow_2k]; exact val_lt hx.dg
  have Dsy : val b32 ys < b16 ^ (2 * ys.length) := by rw [← pow_2k]; exact val_lt hy.dg
  clear hW0 hb hx hy
  have HS1 := Lib.hid fun (V : World) (h : Below w.heap.size w V) => rsign_z (w := V) (a := zof n (val b32 xs)) ⟨n, A, c, xs, rfl, rfl, HX.out.to h, sx, rfl⟩
  have HS2 := Lib.hid fun (V : World) (h : Below w.heap.size w V) => rsign_z (w := V) (a := zof m (val b32 ys)) ⟨m, A', c', ys, rfl, rfl, HY.out.to h, sy, rfl⟩
  have r1 := sgn_range (zof n (val b32 xs))
  have r2 := sgn_range (zof m (val b32 ys))
  have hne := @cmpZ_sgn (zof n (val b32 xs)) (zof m (val b32 ys))
  have heq := @cmp_signs n m (val b32 xs) (val b32 ys)
  obtain ⟨s1, e1⟩ : ∃ s, sgn (zof n (val b32 xs)) = s := ⟨_, rfl⟩
  obtain ⟨s2, e2⟩ : ∃ s, sgn (zof m (val b32 ys)) = s := ⟨_, rfl⟩
  obtain ⟨o, eo⟩ : ∃ o, cmpZ (zof n (val b32 xs)) (zof m (val b32 ys)) = o := ⟨_, rfl⟩
  rw [e1] at HS1 r1 hne heq
  rw [e2] at HS2 r2 hne heq
  rw [eo] at hne heq ⊢
  clear e1 e2 eo
  by_cases h12 : s1 = s2
  · subst h12
    obtain ⟨v, ev⟩ : ∃ v, cmpN (val b32 xs) (val b32 ys) = v := ⟨_, rfl⟩
    have hq := heq rfl
    rw [ev] at hq
    have EV := Lib.hid ev
    have hss : (s1 != s1) = false := by simp
    have rv : v = -1 ∨ v = 0 ∨ v = 1 := by rw [← ev]; unfold cmpN; split <;> (try split) <;> simp
    clear hne heq ev r2
    go_enter Try.func32, Try.ntmps32
    go_wp2_with fail
    rw [← HW0.out]
    refine wp_region_plan (S := fun w' => Below (w.heap.size + 1 + 1) W0 w') [(0, true), (2, true), (1, false), (3, false), (4, true)] (by kernel_rfl) (by kernel_rfl) (Below.refl _ _).drew ?_
    have HB := (Below.refl W0.heap.size W0).drew
    repeat (refine plan_take (v := ?_) rfl (by rfl) ?_ ?_; rotate_left; (focus (intro w' hS; have k0 := (tX.toB hS (by omega)).c0; have k1 := (tX.toB hS (by omega)).c1; have k2 := (tY.toB hS (by omega)).c0; have k3 := (tY.toB hS (by omega)).c1; go_simp; try with_reducible rfl)); simp only [Act.put, List.setIfInBounds_toArray, List.set_cons_zero, List.set_cons_succ])
    refine plan_call rfl (by rfl) (fun K hK => ?_)
    go_simp
    refine (HS1.out _ (HB0.out.trans (HB.mono HB0.out.size))).mono ?_
    rintro e V ⟨rfl, bb⟩
    replace HB := HB.trans (bb.mono HB.size)
    clear bb
    refine hK.out _ _ (HB.mono hBW) ?_
    clear hK K
    refine plan_call rfl (by rfl) (fun K hK => ?_)
    go_simp
    refine (HS2.out _ (HB0.out.trans (HB.mono HB0.out.size))).mono ?_
    rintro e V ⟨rfl, bb⟩
    replace HB := HB.trans (bb.mono HB.size)
    clear bb
    refine hK.out _ _ (HB.mono hBW) ?_
    clear hK K
    repeat (refine plan_take (v := ?_) rfl (by rfl) ?_ ?_; rotate_left; (focus (intro w' hS; have k0 := (tX.toB hS (by omega)).c0; have k1 := (tX.toB hS (by omega)).c1; have k2 := (tY.toB hS (by omega)).c0; have k3 := (tY.toB hS (by omega)).c1; go_simp; try with_reducible rfl)); simp only [Act.put, List.setIfInBounds_toArray, List.set_cons_zero, List.set_cons_succ])
    refine plan_done ?_
    have k1 := (tX.to HB).c0
    have k2 := (tX.to HB).c1
    have k3 := (tY.to HB).c0
    have k4 := (tY.to HB).c1
    go_wp2_with fail
    clear k1 k2 k3 k4
    refine wp_region_plan (S := fun w' => Below (w.heap.size + 1 + 1) W0 w') [(0, true), (1, true), (3, true), (4, true), (2, false), (5, false), (6, false), (7, true)] (by kernel_rfl) (by kernel_rfl) (HB.mono hBW).drew ?_
    replace HB := HB.drew
    repeat (refine plan_take (v := ?_) rfl (by rfl) ?_ ?_; rotate_left; (focus (intro w' hS; have k0 := (tX.toB hS (by omega)).c0; have k1 := (tX.toB hS (by omega)).c1; have k2 := (tY.toB hS (by omega)).c0; have k3 := (tY.toB hS (by omega)).c1; go_simp; try with_reducible rfl)); simp only [Act.put, List.setIfInBounds_toArray, List.set_cons_zero, List.set_cons_succ])
    refine plan_call rfl (by rfl) (fun K hK => ?_)
    go_simp
    refine (halves_r (HX.out.to (HB0.out.trans (HB.mono HB0.out.size)))).mono ?_
    rintro e V ⟨A1, c1, rfl, t1, l1, m1, bb⟩
    replace HB := HB.trans (bb.mono HB.size)
    have H1 := Hr.of_ret t1 l1 m1 Dsx (by omega)
    clear t1 l1 m1 bb
    refine hK.out _ _ (HB.mono hBW) ?_
    clear hK K
    refine plan_call rfl (by rfl) (fun K hK => ?_)
    go_simp
    refine (halves_r (HY.out.to (HB0.out.trans (HB.mono HB0.out.size)))).mono ?_
    rintro e V ⟨A2, c2, rfl, t1, l1, m1, bb⟩
    replace HB := HB.trans (bb.mono HB.size)
    have H2 := Hr.of_ret t1 l1 m1 Dsy (by omega)
    replace H1 := H1.to bb
    clear t1 l1 m1 bb
    refine hK.out _ _ (HB.mono hBW) ?_
    clear hK K
    have HC := Lib.hid (cmp_r H1 H2)
    rw [EV.out] at HC
    refine plan_call rfl (by rfl) (fun K hK => ?_)
    go_simp
    refine HC.out.mono ?_
    rintro e V2 ⟨rfl, rfl⟩
    refine hK.out _ _ (HB.mono hBW) ?_
    clear hK K HC H1 H2
    repeat (refine plan_take (v := ?_) rfl (by rfl) ?_ ?_; rotate_left; (focus (intro w' hS; have k0 := (tX.toB hS (by omega)).c0; have k1 := (tX.toB hS (by omega)).c1; have k2 := (tY.toB hS (by omega)).c0; have k3 := (tY.toB hS (by omega)).c1; go_simp; try with_reducible rfl)); simp only [Act.put, List.setIfInBounds_toArray, List.set_cons_zero, List.set_cons_succ])
    refine plan_done ?_
    have k1 := (tX.to HB).c0
    have k2 := (tX.to HB).c1
    have k3 := (tY.to HB).c0
    have k4 := (tY.to HB).c1
    go_wp2_with fail
    refine (HS1.out _ (HB0.out.trans (HB.mono HB0.out.size))).mono ?_
    rintro e V3 ⟨rfl, bb⟩
    have HE := Lib.hid (HB0.out.trans ((HB.trans (bb.mono HB.size)).mono HB0.out.size))
    clear k1 k2 k3 k4 bb HB tX tY
    by_cases hs : s1 < 0
    · have h1 := hq.1 (by omega)
      have hw : IntKind.i64.wrap (-v) = o := by rw [← h1]; rcases rv with rfl | rfl | rfl <;> decide
      clear hq h1 rv r1
      go_wp2
      go_ret
      exact ⟨rfl, HE.out⟩
    · have h1 := hq.2 (by omega)
      subst h1
      clear hq rv r1
      go_wp2
      go_ret
      exact ⟨rfl, HE.out⟩
  · have hss : (s1 != s2) = true := by simpa using h12
    obtain ⟨hz, -⟩ := hne h12
    clear heq hne r1 r2
    rcases Int.lt_or_le s1 s2 with hlt | hge
    · have ho : o = -1 := by rw [← hz]; unfold cmpZ; rw [if_pos hlt]
      subst ho
      clear hz
      go_enter Try.func32, Try.ntmps32
      go_wp2_with fail
      rw [← HW0.out]
      refine wp_region_plan (S := fun w' => Below (w.heap.size + 1 + 1) W0 w') [(0, true), (2, true), (1, false), (3, false), (4, true)] (by kernel_rfl) (by kernel_rfl) (Below.refl _ _).drew ?_
      have HB := (Below.refl W0.heap.size W0).drew
      repeat (refine plan_take (v := ?_) rfl (by rfl) ?_ ?_; rotate_left; (focus (intro w' hS; have k0 := (tX.toB hS (by omega)).c0; have k1 := (tX.toB hS (by omega)).c1; have k2 := (tY.toB hS (by omega)).c0; have k3 := (tY.toB hS (by omega)).c1; go_simp; try with_reducible rfl)); simp only [Act.put, List.setIfInBounds_toArray, List.set_cons_zero, List.set_cons_succ])
      refine plan_call rfl (by rfl) (fun K hK => ?_)
      go_simp
      refine (HS1.out _ (HB0.out.trans (HB.mono HB0.out.size))).mono ?_
      rintro e V ⟨rfl, bb⟩
      replace HB := HB.trans (bb.mono HB.size)
      clear bb
      refine hK.out _ _ (HB.mono hBW) ?_
      clear hK K
      refine plan_call rfl (by rfl) (fun K hK => ?_)
      go_simp
      refine (HS2.out _ (HB0.out.trans (HB.mono HB0.out.size))).mono ?_
      rintro e V ⟨rfl, bb⟩
      replace HB := HB.trans (bb.mono HB.size)
      clear bb
      refine hK.out _ _ (HB.mono hBW) ?_
      clear hK K
      repeat (refine plan_take (v := ?_) rfl (by rfl) ?_ ?_; rotate_left; (focus (intro w' hS; have k0 := (tX.toB hS (by omega)).c0; have k1 := (tX.toB hS (by omega)).c1; have k2 := (tY.toB hS (by omega)).c0; have k3 := (tY.toB hS (by omega)).c1; go_simp; try with_reducible rfl)); simp only [Act.put, List.setIfInBounds_toArray, List.set_cons_zero, List.set_cons_succ])
      refine plan_done ?_
      have k1 := (tX.to HB).c0
      have k2 := (tX.to HB).c1
      have k3 := (tY.to HB).c0
      have k4 := (tY.to HB).c1
      go_wp2_with fail
      clear k1 k2 k3 k4
      refine wp_region_plan (S := fun w' => Below (w.heap.size + 1 + 1) W0 w') [(0, true), (2, true), (1, false), (3, false), (4, true)] (by kernel_rfl) (by kernel_rfl) (HB.mono hBW).drew ?_
      replace HB := HB.drew
      repeat (refine plan_take (v := ?_) rfl (by rfl) ?_ ?_; rotate_left; (focus (intro w' hS; have k0 := (tX.toB hS (by omega)).c0; have k1 := (tX.toB hS (by omega)).c1; have k2 := (tY.toB hS (by omega)).c0; have k3 := (tY.toB hS (by omega)).c1; go_simp; try with_reducible rfl)); simp only [Act.put, List.setIfInBounds_toArray, List.set_cons_zero, List.set_cons_succ])
      refine plan_call rfl (by rfl) (fun K hK => ?_)
      go_simp
      refine (HS1.out _ (HB0.out.trans (HB.mono HB0.out.size))).mono ?_
      rintro e V ⟨rfl, bb⟩
      replace HB := HB.trans (bb.mono HB.size)
      clear bb
      refine hK.out _ _ (HB.mono hBW) ?_
      clear hK K
      refine plan_call rfl (by rfl) (fun K hK => ?_)
      go_simp
      refine (HS2.out _ (HB0.out.trans (HB.mono HB0.out.size))).mono ?_
      rintro e V ⟨rfl, bb⟩
      replace HB := HB.trans (bb.mono HB.size)
      clear bb
      refine hK.out _ _ (HB.mono hBW) ?_
      clear hK K
      repeat (refine plan_take (v := ?_) rfl (by rfl) ?_ ?_; rotate_left; (focus (intro w' hS; have k0 := (tX.toB hS (by omega)).c0; have k1 := (tX.toB hS (by omega)).c1; have k2 := (tY.toB hS (by omega)).c0; have k3 := (tY.toB hS (by omega)).c1; go_simp; try with_reducible rfl)); simp only [Act.put, List.setIfInBounds_toArray, List.set_cons_zero, List.set_cons_succ])
      refine plan_done ?_
      have HE := Lib.hid (HB0.out.trans (HB.mono HB0.out.size))
      clear HB tX tY
      go_wp2
      go_ret
      exact ⟨rfl, HE.out⟩
    · have ho : o = 1 := by rw [← hz]; unfold cmpZ; rw [if_neg (by omega), if_pos (by omega)]
      subst ho
      clear hz
      go_enter Try.func32, Try.ntmps32
      go_wp2_with fail
      rw [← HW0.out]
      refine wp_region_plan (S := fun w' => Below (w.heap.size + 1 + 1) W0 w') [(0, true), (2, true), (1, false), (3, false), (4, true)] (by kernel_rfl) (by kernel_rfl) (Below.refl _ _).drew ?_
      have HB := (Below.refl W0.heap.size W0).drew
      repeat (refine plan_take (v := ?_) rfl (by rfl) ?_ ?_; rotate_left; (focus (intro w' hS; have k0 := (tX.toB hS (by omega)).c0; have k1 := (tX.toB hS (by omega)).c1; have k2 := (tY.toB hS (by omega)).c0; have k3 := (tY.toB hS (by omega)).c1; go_simp; try with_reducible rfl)); simp only [Act.put, List.setIfInBounds_toArray, List.set_cons_zero, List.set_cons_succ])
      refine plan_call rfl (by rfl) (fun K hK => ?_)
      go_simp
      refine (HS1.out _ (HB0.out.trans (HB.mono HB0.out.size))).mono ?_
      rintro e V ⟨rfl, bb⟩
      replace HB := HB.trans (bb.mono HB.size)
      clear bb
      refine hK.out _ _ (HB.mono hBW) ?_
      clear hK K
      refine plan_call rfl (by rfl) (fun K hK => ?_)
      go_simp
      refine (HS2.out _ (HB0.out.trans (HB.mono HB0.out.size))).mono ?_
      rintro e V ⟨rfl, bb⟩
      replace HB := HB.trans (bb.mono HB.size)
      clear bb
      refine hK.out _ _ (HB.mono hBW) ?_
      clear hK K
      repeat (refine plan_take (v := ?_) rfl (by rfl) ?_ ?_; rotate_left; (focus (intro w' hS; have k0 := (tX.toB hS (by omega)).c0; have k1 := (tX.toB hS (by omega)).c1; have k2 := (tY.toB hS (by omega)).c0; have k3 := (tY.toB hS (by omega)).c1; go_simp; try with_reducible rfl)); simp only [Act.put, List.setIfInBounds_toArray, List.set_cons_zero, List.set_cons_succ])
      refine plan_done ?_
      have k1 := (tX.to HB).c0
      have k2 := (tX.to HB).c1
      have k3 := (tY.to HB).c0
      have k4 := (tY.to HB).c1
      go_wp2_with fail
      clear k1 k2 k3 k4
      refine wp_region_plan (S := fun w' => Below (w.heap.size + 1 + 1) W0 w') [(0, true), (2, true), (1, false), (3, false), (4, true)] (by kernel_rfl) (by kernel_rfl) (HB.mono hBW).drew ?_
      replace HB := HB.drew
      repeat (refine plan_take (v := ?_) rfl (by rfl) ?_ ?_; rotate_left; (focus (intro w' hS; have k0 := (tX.toB hS (by omega)).c0; have k1 := (tX.toB hS (by omega)).c1; have k2 := (tY.toB hS (by omega)).c0; have k3 := (tY.toB hS (by omega)).c1; go_simp; try with_reducible rfl)); simp only [Act.put, List.setIfInBounds_toArray, List.set_cons_zero, List.set_cons_succ])
      refine plan_call rfl (by rfl) (fun K hK => ?_)
      go_simp
      refine (HS1.out _ (HB0.out.trans (HB.mono HB0.out.size))).mono ?_
      rintro e V ⟨rfl, bb⟩
      replace HB := HB.trans (bb.mono HB.size)
      clear bb
      refine hK.out _ _ (HB.mono hBW) ?_
      clear hK K
      refine plan_call rfl (by rfl) (fun K hK => ?_)
      go_simp
      refine (HS2.out _ (HB0.out.trans (HB.mono HB0.out.size))).mono ?_
      rintro e V ⟨rfl, bb⟩
      replace HB := HB.trans (bb.mono HB.size)
      clear bb
      refine hK.out _ _ (HB.mono hBW) ?_
      clear hK K
      repeat (refine plan_take (v := ?_) rfl (by rfl) ?_ ?_; rotate_left; (focus (intro w' hS; have k0 := (tX.toB hS (by omega)).c0; have k1 := (tX.toB hS (by omega)).c1; have k2 := (tY.toB hS (by omega)).c0; have k3 := (tY.toB hS (by omega)).c1; go_simp; try with_reducible rfl)); simp only [Act.put, List.setIfInBounds_toArray, List.set_cons_zero, List.set_cons_succ])
      refine plan_done ?_
      have HE := Lib.hid (HB0.out.trans (HB.mono HB0.out.size))
      clear HB tX tY
      go_wp2
      go_ret
      exact ⟨rfl, HE.out⟩

theorem rcmp_z {w : World} {x y x' y' : Value} {a b : Int} (ha : Zl w x y a) (hb : Zl w x' y' b) : Calls Try.prog 32 #[.agg #[x, y], .agg #[x', y']] w fun e w' => e = .returned (.int .i64 (cmpZ a b)) ∧ Below w.heap.size w w' := by
  obtain ⟨n, A, c, xs, rfl, rfl, h3, h4, rfl⟩ := ha
  obtain ⟨m, B, d, ys, rfl, rfl, k3, k4, rfl⟩ := hb
  exact rCmp_any n m h3 h4 k3 k4
theorem rsub_z {w : World} {x y x' y' : Value} {a b : Int} (ha : Zl w x y a) (hb : Zl w x' y' b) : Calls Try.prog 22 #[.agg #[x, y], .agg #[x', y']] w (ZR w (a - b)) := by
  obtain ⟨n, A, c, xs, rfl, rfl, h3, h4, rfl⟩ := ha
  obtain ⟨m, B, d, ys, rfl, rfl, k3, k4, rfl⟩ := hb
  exact rSub_any n m h3 h4 k3 k4
theorem rabs_z {w : World} {x y : Value} {a : Int} (ha : Zl w x y a) : Calls Try.prog 28 #[.agg #[x, y]] w (ZR w (a.natAbs : Int)) := by
  obtain ⟨n, A, c, xs, rfl, rfl, h3, h4, rfl⟩ := ha
  rw [zof_abs]
  exact rAbs_any n h3 h4
end Go.Proofs.Ytoaghihhobggoaa

namespace Go.Proofs.Ytoaghihhobggoaa
open Go.RowKit Go.Shelf

/-- Whether an int64 holds z, and what Int64 hands back. -/
def inI (z : Int) : Bool := decide (-9223372036854775808 ≤ z ∧ z ≤ 9223372036854775807)
def i64v (z : Int) : Int := if inI z then z else 0

theorem inI_t {z : Int} (h1 : -9223372036854775808 ≤ z) (h2 : z ≤ 9223372036854775807) : inI z = true ∧ i64v z = z := by
  have h : inI z = true := decide_eq_true ⟨h1, h2⟩
  exact ⟨h, by unfold i64v; rw [h]; rfl⟩
theorem inI_f {z : Int} (h1 : ¬ (-9223372036854775808 ≤ z ∧ z ≤ 9223372036854775807)) : inI z = false ∧ i64v z = 0 := by
  have h : inI z = false := decide_eq_false h1
  exact ⟨h, by unfold i64v; rw [h]; rfl⟩

theorem trim_long {xs : List Nat} (hd : Dg b32 xs) (h : 2 < (trimL xs).length) : 18446744073709551616 ≤ val b32 xs := by
  refine Classical.byContradiction fun hn => ?_
  have h1 := dig_length_le b32_one (k := 2) (n := val b32 xs) (by rw [show b32 ^ 2 = 18446744073709551616 from by decide]; omega)
  rw [← trimL_dig b32_one hd] at h1
  omega

set_option maxRecDepth 100000 in
set_option maxHeartbeats 4000000 in
theorem int64_any (n : Bool) {A : Option Addr} {c : Nat} {xs : List Nat} {w : World} (hx : Arg w A c xs) :
    Calls Try.prog 12 #[.agg #[.bool n, .slice A xs.length c]] w fun e w' => e = .returned (.tuple #[.int .i64 (i64v (zof n (val b32 xs))), .bool (inI (zof n (val b32 xs)))]) ∧ Below w.heap.size w w' := by
  have hb := Lib.hid ((Below.refl w.heap.size w).alloc (Nat.le_refl _) (.cells #[.bool n, .slice A xs.length c] 24))
  have HT := Lib.hid (trim_q (hx.to hb.out))
  have hdg := hx.dg
  have hlong := trim_long hdg
  have hv := val_trimL (b := b32) xs
  have HU : Hid ((trimL xs).length ≤ 2 → Calls Try.prog 45 #[.slice A (trimL xs).length c] (w.alloc (.cells #[.bool n, .slice A xs.length c] 24)) fun e w' => e = .returned (.int .u64 (val b32 (trimL xs) : Nat)) ∧ (w.alloc (.cells #[.bool n, .slice A xs.length c] 24)) = w') := fun h =>
    toUint64_any (hx.to hb.out).trim.rd (hx.to hb.out).trim.dg h
  obtain ⟨l, hl⟩ : ∃ l, (trimL xs).length = l := ⟨_, rfl⟩
  obtain ⟨v, ev⟩ : ∃ v, val b32 xs = v := ⟨_, rfl⟩
  have hv64 : l ≤ 2 → v < 18446744073709551616 := fun h => by
    have h1 := val_lt hx.trim.dg
    rw [val_trimL, ev] at h1
    have h2 : b32 ^ (trimL xs).length ≤ b32 ^ 2 := Nat.pow_le_pow_right (by decide) (by omega)
    rw [show b32 ^ 2 = 18446744073709551616 from by decide] at h2
    omega
  have hsl : l ≤ 4294967295 := by rw [← hl]; exact Nat.le_trans (trimL_le xs) hx.small
  rw [hv] at HU
  rw [ev] at HU hlong
  rw [hl] at HT HU hlong
  rw [ev]
  clear hv ev hl hdg hx
  rcases Nat.lt_or_ge 2 l with h2 | h2
  · have hz := hlong h2
    obtain ⟨i1, i2⟩ := inI_f (z := zof n v) (by cases n <;> simp [zof] <;> omega)
    rw [i1, i2]
    clear i1 i2 hz hlong hv64
    go_enter Try.func12, Try.ntmps12
    go_wp2_with fail
    refine HT.out.mono ?_
    rintro e w' ⟨rfl, rfl⟩
    go_wp2
    go_ret2
    exact ⟨rfl, hb.out⟩
  · have HU2 := Lib.hid (HU.out h2)
    have hv := hv64 h2
    clear hlong hv64 HU
    cases n with
    | false =>
      rcases Nat.lt_or_ge 9223372036854775807 v with hbig | hsm
      · obtain ⟨i1, i2⟩ := inI_f (z := zof false v) (by simp [zof]; omega)
        rw [i1, i2]
        clear i1 i2
        rcases Nat.lt_or_ge 9223372036854775808 v with hb2 | hb2
        all_goals
          go_enter Try.func12, Try.ntmps12
          go_wp2_with fail
          refine HT.out.mono ?_
          rintro e w' ⟨rfl, rfl⟩
          go_wp2_with fail
          refine HU2.out.mono ?_
          rintro e w' ⟨rfl, rfl⟩
          go_wp2
          go_ret2
          exact ⟨rfl, hb.out⟩
      · obtain ⟨i1, i2⟩ := inI_t (z := zof false v) (by unfold zof; simp only [Bool.false_eq_true, if_false]; omega) (by unfold zof; simp only [Bool.false_eq_true, if_false]; omega)
        rw [i1, i2, show zof false v = (v : Int) from by simp [zof]]
        have g := wrap_nat v (by omega)
        clear i1 i2
        go_enter Try.func12, Try.ntmps12
        go_wp2_with fail
        refine HT.out.mono ?_
        rintro e w' ⟨rfl, rfl⟩
        go_wp2_with fail
        refine HU2.out.mono ?_
        rintro e w' ⟨rfl, rfl⟩
        go_wp2
        go_ret2
        exact ⟨rfl, hb.out⟩
    | true =>
      rcases Nat.lt_or_ge 9223372036854775808 v with hbig | hsm
      · obtain ⟨i1, i2⟩ := inI_f (z := zof true v) (by simp [zof]; omega)
        rw [i1, i2]
        clear i1 i2
        go_enter Try.func12, Try.ntmps12
        go_wp2_with fail
        refine HT.out.mono ?_
        rintro e w' ⟨rfl, rfl⟩
        go_wp2_with fail
        refine HU2.out.mono ?_
        rintro e w' ⟨rfl, rfl⟩
        go_wp2
        go_ret2
        exact ⟨rfl, hb.out⟩
      · obtain ⟨i1, i2⟩ := inI_t (z := zof true v) (by unfold zof; simp only [if_true]; omega) (by unfold zof; simp only [if_true]; omega)
        obtain ⟨z, ez⟩ : ∃ z, zof true v = z := ⟨_, rfl⟩
        obtain ⟨u, eu⟩ : ∃ u, IntKind.i64.wrap ((v : Nat) : Int) = u := ⟨_, rfl⟩
        have g : IntKind.i64.wrap (-u) = z := by
          rw [← eu, ← ez, IntKind.wrap_i64, IntKind.wrap_i64]
          simp [zof]
          omega
        rw [i1, i2, ez]
        clear i1 i2 ez
        rcases Nat.lt_or_ge 9223372036854775807 v with hb2 | hb2
        all_goals
          go_enter Try.func12, Try.ntmps12
          go_wp2_with fail
          refine HT.out.mono ?_
          rintro e w' ⟨rfl, rfl⟩
          go_wp2_with fail
          refine HU2.out.mono ?_
          rintro e w' ⟨rfl, rfl⟩
          go_wp2
          go_ret2
          exact ⟨rfl, hb.out⟩
end Go.Proofs.Ytoaghihhobggoaa

namespace Go.Proofs.Ytoaghihhobggoaa
open Go.RowKit Go.Shelf

theorem Sm.i64 {v : Int} (h1 : -9223372036854775808 ≤ v) (h2 : v ≤ 9223372036854775807) : Sm 2 v := by
  unfold Sm
  rw [show b32 ^ 2 = 18446744073709551616 from by decide]
  omega
theorem cmpZ_lt {a b : Int} (h : a < b) : cmpZ a b = -1 := by simp [cmpZ, h]
theorem cmpZ_ge {a b : Int} (h : b ≤ a) : 0 ≤ cmpZ a b := by unfold cmpZ; rw [if_neg (by omega)]; split <;> omega
theorem cmpZ_gt {a b : Int} (h : b < a) : cmpZ a b = 1 := by unfold cmpZ; rw [if_neg (by omega), if_pos h]
theorem cmpZ_le {a b : Int} (h : a ≤ b) : cmpZ a b ≤ 0 := by unfold cmpZ; split <;> (try split) <;> omega
theorem u64_neg {v : Nat} (h : v ≤ 9223372036854775808) : IntKind.i64.wrap (IntKind.u64.wrap (-(v : Int))) = -(v : Int) := by
  rw [IntKind.wrap_i64, IntKind.wrap_u64]; omega

set_option maxRecDepth 100000 in
set_option maxHeartbeats 8000000 in
theorem rInt_any (n : Bool) {A : Option Addr} {c : Nat} {xs : List Nat} {w : World} (hx : Arg w A c xs) (sx : xs.length ≤ 10000) :
    Calls Try.prog 13 #[.agg #[.bool n, .slice A xs.length c]] w fun e w' => e = .returned (.tuple #[.int .i64 (i64v (zof n (val b32 xs))), .bool (inI (zof n (val b32 xs)))]) ∧ Below w.heap.size w w' := by
  obtain ⟨W0, hW0⟩ : ∃ W0, W0 = (w.alloc (.cells #[.bool n, .slice A xs.length c] 24)) := ⟨_, rfl⟩
  have hb : Below w.heap.size w W0 := by rw [hW0]; exact (Below.refl _ _).alloc (Nat.le_refl _) _
  have tX : Two W0 (w.heap.size) (.bool n) (.slice A xs.length c) := by
    have h := Two.new w (.bool n) (.slice A xs.length c) 24
    rw [hW0]; exact h
  have HW0 := Lib.hid hW0
  have HB0 := Lib.hid hb
  have HX := Lib.hid hx
  have hBW : w.heap.size + 1 ≤ W0.heap.size := by rw [hW0]; simp
  have Dsx : val b32 xs < b16 ^ (2 * xs.length) := by rw [← pow_2k]; exact val_lt hx.dg
  clear hW0 hb hx
  obtain ⟨z, ez⟩ : ∃ z, zof n (val b32 xs) = z := ⟨_, rfl⟩
  have HZ := Lib.hid fun (V : World) (h : Below w.heap.size w V) => (⟨n, A, c, xs, rfl, rfl, HX.out.to h, sx, ez⟩ : Zl V (.bool n) (.slice A xs.length c) z)
  rw [ez]
  by_cases h1 : z < -9223372036854775808
  · obtain ⟨i1, i2⟩ := inI_f (z := z) (by omega)
    rw [i1, i2]
    have ho := cmpZ_lt h1
    clear i1 i2 Dsx h1
    go_enter Try.func13, Try.ntmps13
    go_wp2_with fail
    rw [← HW0.out]
    refine wp_region_plan (S := fun w' => Below (w.heap.size + 1) W0 w') [(0, true), (1, false), (2, false), (3, true), (4, true), (5, true), (6, true), (7, true), (8, true), (9, true)] (by kernel_rfl) (by kernel_rfl) (Below.refl _ _).drew ?_
    have HB := (Below.refl W0.heap.size W0).drew
    repeat (refine plan_take (v := ?_) rfl (by rfl) ?_ ?_; rotate_left; (focus (intro w' hS; have k0 := (tX.toB hS (by omega)).c0; have k1 := (tX.toB hS (by omega)).c1; go_simp; try with_reducible rfl)); simp only [Act.put, List.setIfInBounds_toArray, List.set_cons_zero, List.set_cons_succ])
    refine plan_call rfl (by rfl) (fun K hK => ?_)
    go_simp
    refine (rfrom_z (-9223372036854775808) (by decide) (by decide) _).mono ?_
    rintro e V ⟨xr, yr, rfl, rz, bb⟩
    replace HB := HB.trans (bb.mono HB.size)
    clear bb
    refine hK.out _ _ (HB.mono hBW) ?_
    clear hK K
    refine plan_call rfl (by rfl) (fun K hK => ?_)
    go_simp
    refine (rcmp_z (HZ.out _ (HB0.out.trans (HB.mono HB0.out.size))) (rz.zl (Sm.i64 (by decide) (by decide)) (by decide))).mono ?_
    rintro e V ⟨rfl, bb⟩
    replace HB := HB.trans (bb.mono HB.size)
    clear bb rz
    refine hK.out _ _ (HB.mono hBW) ?_
    clear hK K
  
    repeat (refine plan_take (v := ?_) rfl (by rfl) ?_ ?_; rotate_left; (focus (intro w' hS; have k0 := (tX.toB hS (by omega)).c0; have k1 := (tX.toB hS (by omega)).c1; go_simp; try with_reducible rfl)); simp only [Act.put, List.setIfInBounds_toArray, List.set_cons_zero, List.set_cons_succ])
    iterate 4 (refine plan_skip rfl (by rfl) ?_; simp only [Act.put, List.setIfInBounds_toArray, List.set_cons_zero, List.set_cons_succ])
    repeat (refine plan_take (v := ?_) rfl (by rfl) ?_ ?_; rotate_left; (focus (intro w' hS; have k0 := (tX.toB hS (by omega)).c0; have k1 := (tX.toB hS (by omega)).c1; go_simp; try with_reducible rfl)); simp only [Act.put, List.setIfInBounds_toArray, List.set_cons_zero, List.set_cons_succ])
    refine plan_done ?_
    have HE := Lib.hid (HB0.out.trans (HB.mono HB0.out.size))
    clear HB tX
    go_wp2
    go_ret2
    exact ⟨rfl, HE.out⟩
  · by_cases h2 : 9223372036854775807 < z
    · obtain ⟨i1, i2⟩ := inI_f (z := z) (by omega)
      rw [i1, i2]
      have ho := cmpZ_ge (a := z) (b := -9223372036854775808) (by omega)
      have ho2 := cmpZ_gt h2
      obtain ⟨o1, eo1⟩ : ∃ o, cmpZ z (-9223372036854775808) = o := ⟨_, rfl⟩
      rw [eo1] at ho
      have hd1 : decide (o1 < 0) = false := decide_eq_false (by omega)
      clear i1 i2 Dsx h1 h2
      go_enter Try.func13, Try.ntmps13
      go_wp2_with fail
      rw [← HW0.out]
      refine wp_region_plan (S := fun w' => Below (w.heap.size + 1) W0 w') [(0, true), (1, false), (2, false), (3, true), (4, true), (5, true), (6, false), (7, false), (8, true), (9, true)] (by kernel_rfl) (by kernel_rfl) (Below.refl _ _).drew ?_
      have HB := (Below.refl W0.heap.size W0).drew
      repeat (refine plan_take (v := ?_) rfl (by rfl) ?_ ?_; rotate_left; (focus (intro w' hS; have k0 := (tX.toB hS (by omega)).c0; have k1 := (tX.toB hS (by omega)).c1; go_simp; try with_reducible rfl)); simp only [Act.put, List.setIfInBounds_toArray, List.set_cons_zero, List.set_cons_succ])
      refine plan_call rfl (by rfl) (fun K hK => ?_)
      go_simp
      refine (rfrom_z (-9223372036854775808) (by decide) (by decide) _).mono ?_
      rintro e V ⟨xr, yr, rfl, rz, bb⟩
      replace HB := HB.trans (bb.mono HB.size)
      clear bb
      refine hK.out _ _ (HB.mono hBW) ?_
      clear hK K
      refine plan_call rfl (by rfl) (fun K hK => ?_)
      go_simp
      refine (rcmp_z (HZ.out _ (HB0.out.trans (HB.mono HB0.out.size))) (rz.zl (Sm.i64 (by decide) (by decide)) (by decide))).mono ?_
      rintro e V ⟨rfl, bb⟩
      replace HB := HB.trans (bb.mono HB.size)
      clear bb rz
      refine hK.out _ _ (HB.mono hBW) ?_
      clear hK K
    
      repeat (refine plan_take (v := ?_) rfl (by rfl) ?_ ?_; rotate_left; (focus (intro w' hS; have k0 := (tX.toB hS (by omega)).c0; have k1 := (tX.toB hS (by omega)).c1; go_simp; try with_reducible rfl)); simp only [Act.put, List.setIfInBounds_toArray, List.set_cons_zero, List.set_cons_succ])
      refine plan_call rfl (by rfl) (fun K hK => ?_)
      go_simp
      refine (rfrom_z 9223372036854775807 (by decide) (by decide) _).mono ?_
      rintro e V ⟨xr, yr, rfl, rz, bb⟩
      replace HB := HB.trans (bb.mono HB.size)
      clear bb
      refine hK.out _ _ (HB.mono hBW) ?_
      clear hK K
      refine plan_call rfl (by rfl) (fun K hK => ?_)
      go_simp
      refine (rcmp_z (HZ.out _ (HB0.out.trans (HB.mono HB0.out.size))) (rz.zl (Sm.i64 (by decide) (by decide)) (by decide))).mono ?_
      rintro e V ⟨rfl, bb⟩
      replace HB := HB.trans (bb.mono HB.size)
      clear bb rz
      refine hK.out _ _ (HB.mono hBW) ?_
      clear hK K
      repeat (refine plan_take (v := ?_) rfl (by rfl) ?_ ?_; rotate_left; (focus (intro w' hS; have k0 := (tX.toB hS (by omega)).c0; have k1 := (tX.toB hS (by omega)).c1; go_simp; try with_reducible rfl)); simp only [Act.put, List.setIfInBounds_toArray, List.set_cons_zero, List.set_cons_succ])
      refine plan_done ?_
      have HE := Lib.hid (HB0.out.trans (HB.mono HB0.out.size))
      clear HB tX
      go_wp2
      go_ret2
      exact ⟨rfl, HE.out⟩
    · obtain ⟨i1, i2⟩ := inI_t (z := z) (by omega) (by omega)
      rw [i1, i2]
      have ho := cmpZ_ge (a := z) (b := -9223372036854775808) (by omega)
      have ho2 := cmpZ_le (a := z) (b := 9223372036854775807) (by omega)
      obtain ⟨o1, eo1⟩ : ∃ o, cmpZ z (-9223372036854775808) = o := ⟨_, rfl⟩
      obtain ⟨o2, eo2⟩ : ∃ o, cmpZ z 9223372036854775807 = o := ⟨_, rfl⟩
      rw [eo1] at ho
      rw [eo2] at ho2
      have hd1 : decide (o1 < 0) = false := decide_eq_false (by omega)
      have hd2 : decide (0 < o2) = false := decide_eq_false (by omega)
      obtain ⟨v, ev⟩ : ∃ v, val b32 xs = v := ⟨_, rfl⟩
      have HH := Lib.hid fun (V : World) (h : Below w.heap.size w V) => halves_r (HX.out.to h)
      rw [ev] at HH ez Dsx
      have hv : v ≤ 9223372036854775808 := by cases n <;> simp only [zof, Bool.false_eq_true, if_false, if_true] at ez <;> omega
      have hvn : n = false → v ≤ 9223372036854775807 := by rintro rfl; simp only [zof, Bool.false_eq_true, if_false] at ez; omega
      clear i1 i2 h1 h2
      go_enter Try.func13, Try.ntmps13
      go_wp2_with fail
      rw [← HW0.out]
      refine wp_region_plan (S := fun w' => Below (w.heap.size + 1) W0 w') [(0, true), (1, false), (2, false), (3, true), (4, true), (5, true), (6, false), (7, false), (8, true), (9, true)] (by kernel_rfl) (by kernel_rfl) (Below.refl _ _).drew ?_
      have HB := (Below.refl W0.heap.size W0).drew
      repeat (refine plan_take (v := ?_) rfl (by rfl) ?_ ?_; rotate_left; (focus (intro w' hS; have k0 := (tX.toB hS (by omega)).c0; have k1 := (tX.toB hS (by omega)).c1; go_simp; try with_reducible rfl)); simp only [Act.put, List.setIfInBounds_toArray, List.set_cons_zero, List.set_cons_succ])
      refine plan_call rfl (by rfl) (fun K hK => ?_)
      go_simp
      refine (rfrom_z (-9223372036854775808) (by decide) (by decide) _).mono ?_
      rintro e V ⟨xr, yr, rfl, rz, bb⟩
      replace HB := HB.trans (bb.mono HB.size)
      clear bb
      refine hK.out _ _ (HB.mono hBW) ?_
      clear hK K
      refine plan_call rfl (by rfl) (fun K hK => ?_)
      go_simp
      refine (rcmp_z (HZ.out _ (HB0.out.trans (HB.mono HB0.out.size))) (rz.zl (Sm.i64 (by decide) (by decide)) (by decide))).mono ?_
      rintro e V ⟨rfl, bb⟩
      replace HB := HB.trans (bb.mono HB.size)
      clear bb rz
      refine hK.out _ _ (HB.mono hBW) ?_
      clear hK K
    
      repeat (refine plan_take (v := ?_) rfl (by rfl) ?_ ?_; rotate_left; (focus (intro w' hS; have k0 := (tX.toB hS (by omega)).c0; have k1 := (tX.toB hS (by omega)).c1; go_simp; try with_reducible rfl)); simp only [Act.put, List.setIfInBounds_toArray, List.set_cons_zero, List.set_cons_succ])
      refine plan_call rfl (by rfl) (fun K hK => ?_)
      go_simp
      refine (rfrom_z 9223372036854775807 (by decide) (by decide) _).mono ?_
      rintro e V ⟨xr, yr, rfl, rz, bb⟩
      replace HB := HB.trans (bb.mono HB.size)
      clear bb
      refine hK.out _ _ (HB.mono hBW) ?_
      clear hK K
      refine plan_call rfl (by rfl) (fun K hK => ?_)
      go_simp
      refine (rcmp_z (HZ.out _ (HB0.out.trans (HB.mono HB0.out.size))) (rz.zl (Sm.i64 (by decide) (by decide)) (by decide))).mono ?_
      rintro e V ⟨rfl, bb⟩
      replace HB := HB.trans (bb.mono HB.size)
      clear bb rz
      refine hK.out _ _ (HB.mono hBW) ?_
      clear hK K
      repeat (refine plan_take (v := ?_) rfl (by rfl) ?_ ?_; rotate_left; (focus (intro w' hS; have k0 := (tX.toB hS (by omega)).c0; have k1 := (tX.toB hS (by omega)).c1; go_simp; try with_reducible rfl)); simp only [Act.put, List.setIfInBounds_toArray, List.set_cons_zero, List.set_cons_succ])
      refine plan_done ?_
      have k1 := (tX.to HB).c0
      have k2 := (tX.to HB).c1
      go_wp2_with fail
      refine (HH.out _ (HB0.out.trans (HB.mono HB0.out.size))).mono ?_
      rintro e V ⟨A1, c1, rfl, r1, l1, m1, bb⟩
      have H1 := Lib.hid (Hr.of_ret r1 l1 m1 Dsx (by omega))
      replace HB := HB.trans (bb.mono HB.size)
      have k3 := (tX.to HB).c0
      have HE := Lib.hid (HB0.out.trans (HB.mono HB0.out.size))
      have hdv := val_dig b16_one v
      obtain ⟨L, eL⟩ : ∃ L, Hid (dig b16 v = L) := ⟨_, rfl⟩
      rw [eL.out] at H1 hdv ⊢
      have hLs := H1.out.small
      clear k1 k2 r1 l1 m1 bb HB tX HH HZ Dsx eo1 eo2 ho ho2 hd1 hd2
      go_wp2
      go_loopw [4, 6] (fun u i wr => ∃ k : Nat, u = .int .u64 (val b16 (L.drop k) : Nat) ∧ i = .int .i64 ((k : Int) - 1) ∧ k ≤ L.length ∧ wr = V) (fun _ i _ => ((intOf i) + 1).toNat)
      case atStart => exact ⟨L.length, by simp [val], rfl, Nat.le_refl _, rfl⟩
      case round =>
        obtain ⟨k, hu, hik, hk, rfl⟩ := hrel
        rcases Nat.eq_zero_or_pos k with rfl | hk0
        · rw [List.drop_zero, hdv] at hu
          subst hu hik
          clear hk hdv hLs
          cases n with
          | false =>
            have g := wrap_nat v (by have := hvn rfl; omega)
            have hz : z = (v : Int) := by rw [← ez]; simp [zof]
            subst hz
            clear ez hvn HX
            go_wp2
            go_ret2
            exact ⟨rfl, HE.out⟩
          | true =>
            obtain ⟨u, eu⟩ : ∃ u, IntKind.u64.wrap (-((v : Nat) : Int)) = u := ⟨_, rfl⟩
            have g := u64_neg hv
            rw [eu, show -((v : Nat) : Int) = z from by rw [← ez]; simp [zof]] at g
            clear ez hvn HX
            go_wp2
            go_ret2
            exact ⟨rfl, HE.out⟩
        · obtain ⟨q, rfl⟩ : ∃ q, k = q + 1 := ⟨k - 1, by omega⟩
          rw [show (((q + 1 : Nat) : Int) - 1) = (q : Int) from by omega] at hik
          subst hu hik
          have hq : q < L.length := by omega
          obtain ⟨b, o, rfl, _, hc1⟩ := H1.out.rd.at_ hq
          have e1 := hc1 q hq
          have hd := H1.out.dg.at_ hq
          have hvd := val_drop (b := b16) hq
          obtain ⟨T1, hT1⟩ := val_take_drop (b := b16) L q
          obtain ⟨x, ex⟩ : ∃ x, Hid (L[q] = x) := ⟨L[q], rfl⟩
          obtain ⟨T, eT⟩ : ∃ T, Hid (val b16 (L.drop (q + 1)) = T) := ⟨_, rfl⟩
          have hle : val b16 (L.drop q) ≤ v := by
            have h1 : val b16 L = val b16 (L.take q) + b16 ^ (L.take q).length * val b16 (L.drop q) := by rw [← val_append, List.take_append_drop]
            rw [hdv] at h1
            have h2 : 1 * val b16 (L.drop q) ≤ b16 ^ (L.take q).length * val b16 (L.drop q) := Nat.mul_le_mul_right _ (Nat.pow_pos (by decide))
            omega
          rw [ex.out] at e1 hd hvd
          rw [eT.out] at hvd ⊢
          unfold b16 at hd
          have hvd2 : val b16 (L.drop q) = x + 65536 * T := hvd
          rw [hvd2] at hle
          have HV := Lib.hid hvd2
          have HDV := Lib.hid hdv
          have hki : (0 : Int) ≤ (q : Int) := by omega
          have hki' : (q : Int) < (L.length : Int) := by omega
          clear hc1 hvd hvd2 hT1 hdv
          go_wp2
          go_roundw
          case rel => exact ⟨q, by rw [HV.out]; congr 1; omega, by simp, by omega, trivial⟩
          case measure => simp [intOf]

theorem rint_z {w : World} {x y : Value} {a : Int} (ha : Zl w x y a) : Calls Try.prog 13 #[.agg #[x, y]] w fun e w' => e = .returned (.tuple #[.int .i64 (i64v a), .bool (inI a)]) ∧ Below w.heap.size w w' := by
  obtain ⟨n, A, c, xs, rfl, rfl, h3, h4, rfl⟩ := ha
  exact rInt_any n h3 h4
theorem int64_z {w : World} {x y : Value} {a : Int} (ha : Zi w x y a) : Calls Try.prog 12 #[.agg #[x, y]] w fun e w' => e = .returned (.tuple #[.int .i64 (i64v a), .bool (inI a)]) ∧ Below w.heap.size w w' := by
  obtain ⟨n, A, c, xs, rfl, rfl, h3, rfl⟩ := ha
  exact int64_any n h3
end Go.Proofs.Ytoaghihhobggoaa

namespace Go.Proofs.Ytoaghihhobggoaa
open Go.RowKit Go.Shelf

theorem wp_append_out {P : Program} {w w' : World} {a : Act} {K : Act → World → Prop} {Q : Exit → Act → World → Prop} {v u v' : Value} {d : Option Tmp} {s x : Operand} {t ty : TypeId} {pos : String} {after : Array Edge}
    (hs : a.eval s = v) (hx : a.eval x = u) (hrun : (Builtin.append_ #[t, t] ty #[v, u]).run P w = .ok v' w') (h : K (a.put d v') w') :
    Oper.wp P ⟨d, .call { callee := .builtin .append, args := #[s, x], argTypes := #[t, t] }, ty, pos, after, none⟩ a w K Q := by
  have h1 := step_append_out (ops := #[]) (E := True) (Q := Q) (o := ⟨d, .call { callee := .builtin .append, args := #[s, x], argTypes := #[t, t] }, ty, pos, after, none⟩) rfl s x t rfl hs hx hrun h
  rwa [if_pos (by simp [Region.wanted])] at h1

/-- A copy of a row behind nothing: in new memory. -/
theorem append_copy {w : World} {A : Option Addr} {c : Nat} {xs : List Nat} (h : Rd .u32 w w.heap.size A xs) (hs : xs.length ≤ 4294967295) {i : TypeInfo} (hi : Try.prog.info? 52 = some i) (hz0 : i.zero = some (.int .u32 0)) (hz1 : i.size = 1) (hz2 : i.bytes = 4) :
    ∃ A2 c2 w1, (Builtin.append_ #[22, 22] 22 #[.slice none 0 0, .slice A xs.length c]).run Try.prog w = .ok (.slice A2 xs.length c2) w1 ∧
      Rd .u32 w1 w1.heap.size A2 xs ∧ xs.length ≤ c2 ∧ c2 ≤ 9223372036854775807 ∧ Below w.heap.size w w1 := by
  cases A with
  | none =>
    have hO : xs = [] := by
      cases xs with
      | nil => rfl
      | cons d r => obtain ⟨b, o, e, _⟩ := h 0 (by simp); cases e
    subst hO
    exact ⟨none, 0, _, run_append_nothing _ 22 22 22 52 i Try.underlying22 hi _ 0 0 (Nat.le_refl _) _ (Src.ofNil _ Try.underlying22 c), Rd.nil, by simp, by decide, Below.refl _ _⟩
  | some a =>
    obtain ⟨v', w1, hrun, hown', hgrow, _, _⟩ := run_append_own_at (P := Try.prog) w w.heap.size 22 22 52 i (.int .u32 0) 1 4
      Try.underlying22 hi hz0 hz1 hz2 rfl (by decide) _ 0 _ (World.ownsRow_nil w w.heap.size 52 1) a xs.length c (ints .u32 xs) (by simp [ints]) (Rd.news h (Below.refl _ _)) (by
        intro u hu
        obtain ⟨d, _, rfl⟩ := List.mem_map.1 hu
        rfl) (by unfold maxLen; omega) (by omega) (by simp)
    obtain ⟨A2, c2, rfl⟩ := own_shape hown'
    rw [Nat.zero_add] at hrun hown'
    obtain ⟨hc1, hc2⟩ := own_caps hown'
    exact ⟨A2, c2, w1, hrun, Rd.of_own (by simpa [ints] using hown') (Nat.le_refl _), hc1, hc2, (Below.refl _ _).grown hgrow (Nat.le_refl _) (fun j e => by simp [Value.ownBlock] at e)⟩

/-- Two cells that hold this flag and these words. -/
def Zx (W : World) (x y : Value) (n : Bool) (xs : List Nat) : Prop := ∃ A c, x = .bool n ∧ y = .slice A xs.length c ∧ Arg W A c xs

theorem Zx.to {W V : World} {x y : Value} {n : Bool} {xs : List Nat} (h : Zx W x y n xs) (hb : Below W.heap.size W V) : Zx V x y n xs := by
  obtain ⟨A, c, h1, h2, h3⟩ := h
  exact ⟨A, c, h1, h2, h3.to hb⟩
theorem Zx.fs {W : World} {x y : Value} {n : Bool} {xs : List Nat} (h : Zx W x y n xs) : Fs x y := by
  obtain ⟨A, c, rfl, rfl, _⟩ := h
  exact ⟨_, _, _, _, rfl, rfl⟩
theorem Zx.zl {W : World} {x y : Value} {n : Bool} {xs : List Nat} (h : Zx W x y n xs) (hl : xs.length ≤ 10000) : Zl W x y (zof n (val b32 xs)) := by
  obtain ⟨A, c, rfl, rfl, h3⟩ := h
  exact ⟨n, A, c, xs, rfl, rfl, h3, hl, rfl⟩
theorem Zx.kept {g : Nat} {w V : World} (kp : Kept g w V) {x y : Value} {n : Bool} {xs : List Nat} (h : Zx w x y n xs) (hr : ∀ A, Rd .u32 w w.heap.size A xs → Rd .u32 V V.heap.size A xs) : Zx V x y n xs := by
  obtain ⟨A, c, rfl, rfl, ⟨r1, r2, r3, r4, r5⟩⟩ := h
  exact ⟨A, c, rfl, rfl, ⟨hr A r1, r2, r3, r4, r5⟩⟩
theorem same_x {w : World} {x y x' y' : Value} {n : Bool} {xs : List Nat} (h : Zx w x y n xs) (h' : Zx w x' y' n xs) : Calls Try.prog 14 #[.agg #[x, y], .agg #[x', y']] w fun e w' => e = .returned (.bool true) ∧ Below w.heap.size w w' := by
  obtain ⟨A, c, rfl, rfl, r⟩ := h
  obtain ⟨A', c', rfl, rfl, r'⟩ := h'
  have h := same_any n n r.rd r'.rd r.le r.cap r'.le r'.cap
  rw [decide_eq_true ⟨rfl, rfl⟩] at h
  exact h

theorem val_inj {b : Nat} (hb : 0 < b) : ∀ {xs ys : List Nat}, Dg b xs → Dg b ys → xs.length = ys.length → val b xs = val b ys → xs = ys
  | [], [], _, _, _, _ => rfl
  | [], _ :: _, _, _, h, _ => by simp at h
  | _ :: _, [], _, _, h, _ => by simp at h
  | d :: r, e :: s, hx, hy, hl, hv => by
    have h1 := hx d (by simp)
    have h2 := hy e (by simp)
    simp only [val] at hv
    have hd : d = e := by
      have := congrArg (· % b) hv
      simpa [Nat.add_mul_mod_self_left, Nat.mod_eq_of_lt h1, Nat.mod_eq_of_lt h2] using this
    subst hd
    have hv2 : b * val b r = b * val b s := by omega
    rw [val_inj hb (fun q hq => hx q (by simp [hq])) (fun q hq => hy q (by simp [hq])) (by simpa using hl) (Nat.eq_of_mul_eq_mul_left hb hv2)]

theorem Kept.arg {g : Nat} {w V : World} (kp : Kept g w V) {A : Option Addr} {c : Nat} {xs : List Nat} (h : Arg w A c xs) : Arg V A c xs := by
  obtain ⟨n, A', c', xs', e1, e2, h3, h4⟩ := kp.zi _ _ _ ⟨false, A, c, xs, rfl, rfl, h, rfl⟩
  injection e1 with e1
  injection e2 with e2 e3 e4
  subst e1 e2 e4
  have : xs = xs' := val_inj (by decide) h.dg h3.dg e3 (by have h5 := h4.symm; simp only [zof, Bool.false_eq_true, if_false] at h5; omega)
  subst this
  exact h3

set_option maxRecDepth 100000 in
set_option maxHeartbeats 8000000 in
theorem own_any (n : Bool) {A : Option Addr} {c : Nat} {xs : List Nat} {w : World} (hx : Arg w A c xs) (sx : xs.length ≤ 10000) :
    Calls Try.prog 11 #[.agg #[.bool n, .slice A xs.length c]] w fun e w' => ∃ x y, e = .returned (.agg #[x, y]) ∧ Zx w' x y n xs ∧ Below w.heap.size w w' := by
  obtain ⟨W0, hW0⟩ : ∃ W0, W0 = ((w.alloc (.cells #[.bool n, .slice A xs.length c] 24)).alloc (.cells #[.bool false, .slice none 0 0] 24)) := ⟨_, rfl⟩
  have hb : Below w.heap.size w W0 := by rw [hW0]; exact ((Below.refl _ _).alloc (Nat.le_refl _) _).alloc (by simp) _
  have tX : Two W0 (w.heap.size) (.bool n) (.slice A xs.length c) := by
    have h := Two.new w (.bool n) (.slice A xs.length c) 24
    rw [hW0]; exact h.alloc _
  have tR : Two W0 (w.heap.size + 1) (.bool false) (.slice none 0 0) := by
    have h := Two.new (w.alloc (.cells #[.bool n, .slice A xs.length c] 24)) (.bool false) (.slice none 0 0) 24
    rw [World.size_alloc] at h
    rw [hW0]; exact h
  have HW0 := Lib.hid hW0
  have HB0 := Lib.hid hb
  have HX := Lib.hid hx
  have hBW : w.heap.size + 1 ≤ W0.heap.size := by rw [hW0]; simp
  have Dsx : val b32 xs < b16 ^ (2 * xs.length) := by rw [← pow_2k]; exact val_lt hx.dg
  clear hW0 hb hx
  obtain ⟨i0, hi, hz0, hz1, hz2⟩ := info_parts infoWord
  go_enter Try.func11, Try.ntmps11
  go_wp2_with fail
  rw [← HW0.out]
  refine wp_region_plan (S := fun w' => Below (w.heap.size + 1) W0 w') [(0, true), (1, true), (2, true), (3, true), (4, false), (5, true), (6, false)] (by kernel_rfl) (by kernel_rfl) (Below.refl _ _).drew ?_
  have HB := (Below.refl W0.heap.size W0).drew
  repeat (refine plan_take (v := ?_) rfl (by rfl) ?_ ?_; rotate_left; (focus (intro w' hS; have k0 := (tX.toB hS (by omega)).c0; have k1 := (tX.toB hS (by omega)).c1; go_simp; try with_reducible rfl)); simp only [Act.put, List.setIfInBounds_toArray, List.set_cons_zero, List.set_cons_succ])
  have AC := append_copy (c := c) (HX.out.to (HB0.out.trans (HB.mono HB0.out.size))).rd HX.out.small hi hz0 hz1 hz2
  obtain ⟨A2, c2, w1, hrun, r1, l1, m1, bb⟩ := AC
  refine plan_call rfl (by rfl) (fun K hK => ?_)
  refine wp_append_out (by rfl) (by rfl) hrun ?_
  have hx1 : Arg w1 A2 c2 xs := ⟨r1, HX.out.dg, l1, m1, HX.out.small⟩
  replace HB := HB.trans (bb.mono HB.size)
  refine hK.out _ _ (HB.mono hBW) ?_
  clear hK K hrun r1 l1 m1 bb
  simp only [Act.put, List.setIfInBounds_toArray, List.set_cons_zero, List.set_cons_succ]
  repeat (refine plan_take (v := ?_) rfl (by rfl) ?_ ?_; rotate_left; (focus (intro w' hS; have k0 := (tX.toB hS (by omega)).c0; have k1 := (tX.toB hS (by omega)).c1; go_simp; try with_reducible rfl)); simp only [Act.put, List.setIfInBounds_toArray, List.set_cons_zero, List.set_cons_succ])
  refine plan_call rfl (by rfl) (fun K hK => ?_)
  refine wp_store_two (by rfl) (by rfl) (tR.to HB) Fs.nil ⟨_, _, _, _, rfl, rfl⟩ (fun V u kp => ?_)
  have HF : Arg V A2 c2 xs := kp.arg hx1
  have HE := kp.bel _ _ (HB0.out.trans (HB.mono HB0.out.size)) (by omega)
  refine hK.out _ _ (kp.bel _ _ (HB.mono hBW) (Nat.le_refl _)) ?_
  clear hK K kp
  simp only [Act.put, List.setIfInBounds_toArray, List.set_cons_zero, List.set_cons_succ]
  refine plan_done ?_
  have HF2 := Lib.hid HF
  have HE2 := Lib.hid HE
  clear HF HE
  go_wp2
  exact bodyPost_ret (v := .agg #[.bool n, .slice A2 xs.length c2]) (by simp [results, Try.f11, go_sem, u.c0, u.c1]) rfl ⟨_, _, rfl, ⟨A2, c2, rfl, rfl, HF2.out⟩, HE2.out⟩
end Go.Proofs.Ytoaghihhobggoaa
