/- Cmp of package whole. -/
import Derived.Test.YtlnjnoingiohjaaSign
import Derived.Test.YtlnjnoingiohjaaPlan
namespace Go.Proofs.Ytlnjnoingiohjaa
open Go.RowKit Go.Shelf

/-- How two numbers compare. -/
def cmpZ (a b : Int) : Int := if a < b then -1 else if b < a then 1 else 0

theorem cmpZ_self (a : Int) : cmpZ a a = 0 := by simp [cmpZ]
theorem cmpZ_range (a b : Int) : cmpZ a b = -1 ∨ cmpZ a b = 0 ∨ cmpZ a b = 1 := by unfold cmpZ; split <;> (try split) <;> simp
theorem sgn_range (a : Int) : sgn a = -1 ∨ sgn a = 0 ∨ sgn a = 1 := by unfold sgn; split <;> (try split) <;> simp
theorem cmpZ_sgn {a b : Int} (h : sgn a ≠ sgn b) : cmpZ (sgn a) (sgn b) = cmpZ a b ∧ cmpZ a b ≠ 0 := by
  unfold sgn cmpZ at *
  repeat' split at h
  all_goals (repeat' split)
  all_goals omega
theorem cmpZ_mag {n m : Bool} {x y : Nat} (h : sgn (zof n x) = sgn (zof m y)) : sgn (zof n x) * cmpN x y = cmpZ (zof n x) (zof m y) := by
  cases n <;> cases m <;> simp only [sgn, zof, cmpZ, cmpN, Bool.false_eq_true, if_false, if_true] at *
  all_goals (repeat' split at h)
  all_goals (repeat' split)
  all_goals omega

set_option maxHeartbeats 400000 in
theorem cmpI_any (a b : Int) (w : World) (ha : -9223372036854775808 ≤ a) (ha' : a ≤ 9223372036854775807) (hb : -9223372036854775808 ≤ b) (hb' : b ≤ 9223372036854775807) :
    Calls Try.prog 57 #[.int .i64 a, .int .i64 b] w fun e w' => e = .returned (.int .i64 (cmpZ a b)) ∧ w = w' := by
  unfold cmpZ
  have h1 : (a != a) = false := by simp
  have h2 : (b != b) = false := by simp
  rcases Int.lt_trichotomy a b with h | h | h
  · rw [if_pos h]
    go_enter Try.func57, Try.ntmps57
    go_wp2
    go_ret
    exact ⟨rfl, rfl⟩
  · subst h
    rw [if_neg (by omega), if_neg (by omega)]
    go_enter Try.func57, Try.ntmps57
    go_wp2
    go_ret
    exact ⟨rfl, rfl⟩
  · rw [if_neg (by omega), if_pos h]
    go_enter Try.func57, Try.ntmps57
    go_wp2
    go_ret
    exact ⟨rfl, rfl⟩

set_option maxRecDepth 100000 in
set_option maxHeartbeats 4000000 in
theorem cmp_any (na nb : Bool) {A A' : Option Addr} {c c' : Nat} {xs ys : List Nat} {w : World} (hx : Arg w A c xs) (hy : Arg w A' c' ys) :
    Calls Try.prog 31 #[.agg #[.bool na, .slice A xs.length c], .agg #[.bool nb, .slice A' ys.length c']] w fun e w' => e = .returned (.int .i64 (cmpZ (zof na (val b32 xs)) (zof nb (val b32 ys)))) ∧ Below w.heap.size w w' := by
  obtain ⟨W0, hW0⟩ : ∃ W0, W0 = (w.alloc (.cells #[.bool na, .slice A xs.length c] 24)).alloc (.cells #[.bool nb, .slice A' ys.length c'] 24) := ⟨_, rfl⟩
  have hb : Below w.heap.size w W0 := by rw [hW0]; exact ((Below.refl _ _).alloc (Nat.le_refl _) _).alloc (by simp) _
  have tX : Two W0 w.heap.size (.bool na) (.slice A xs.length c) := by rw [hW0]; exact (Two.new w _ _ _).alloc _
  have tY : Two W0 (w.heap.size + 1) (.bool nb) (.slice A' ys.length c') := by
    have h := Two.new (w.alloc (.cells #[.bool na, .slice A xs.length c] 24)) (.bool nb) (.slice A' ys.length c') 24
    rw [World.size_alloc] at h
    rw [hW0]; exact h
  have HW0 := Lib.hid hW0
  have HX := Lib.hid (hx.to hb)
  have HY := Lib.hid (hy.to hb)
  obtain ⟨z1, e1⟩ : ∃ z, zof na (val b32 xs) = z := ⟨_, rfl⟩
  obtain ⟨z2, e2⟩ : ∃ z, zof nb (val b32 ys) = z := ⟨_, rfl⟩
  have hmag := @cmpZ_mag na nb (val b32 xs) (val b32 ys)
  have HS1 := Lib.hid (sign_any na (hx.to hb))
  have HS2 := Lib.hid fun (V : World) (h : Below W0.heap.size W0 V) => sign_any nb ((hy.to hb).to h)
  rw [e1, e2] at hmag
  rw [e1] at HS1
  rw [e2] at HS2
  rw [e1, e2]
  obtain ⟨s1, hs1⟩ : ∃ s, sgn z1 = s := ⟨_, rfl⟩
  obtain ⟨s2, hs2⟩ : ∃ s, sgn z2 = s := ⟨_, rfl⟩
  have r1 := sgn_range z1
  have r2 := sgn_range z2
  have hne := @cmpZ_sgn z1 z2
  rw [hs1, hs2] at hmag hne
  rw [hs1] at HS1 r1
  rw [hs2] at HS2 r2
  have HC := Lib.hid fun V : World => cmpI_any s1 s2 V (by omega) (by omega) (by omega) (by omega)
  clear hW0 hx hy hs1 hs2
  by_cases h12 : s1 = s2
  · subst h12
    rw [cmpZ_self] at HC
    rw [← hmag rfl]
    obtain ⟨k, hk⟩ : ∃ k, cmpN (val b32 xs) (val b32 ys) = k := ⟨_, rfl⟩
    have rk : k = -1 ∨ k = 0 ∨ k = 1 := by rw [← hk]; unfold cmpN; split <;> (try split) <;> simp
    have hwr : IntKind.i64.wrap (s1 * k) = s1 * k := by rcases r1 with rfl | rfl | rfl <;> rcases rk with rfl | rfl | rfl <;> decide
    rw [hk]
    have HK := Lib.hid hk
    clear hk hmag hne r1 r2 e1 e2 rk
    go_enter Try.func31, Try.ntmps31
    go_wp2_with fail
    rw [← HW0.out]
    have q1 := tX.c0
    have q2 := tX.c1
    have q3 := tY.c0
    have q4 := tY.c1
    go_wp2_with fail
    refine HS1.out.mono ?_
    rintro e w1 ⟨rfl, b1⟩
    have t3 := tX.to b1
    have t4 := tY.to b1
    have HB := Lib.hid b1
    clear q1 q2 q3 q4 b1
    have q1 := t3.c0
    have q2 := t3.c1
    have q3 := t4.c0
    have q4 := t4.c1
    go_wp2_with fail
    refine (HS2.out _ HB.out).mono ?_
    rintro e w2 ⟨rfl, b2⟩
    have t5 := t3.to b2
    have t6 := t4.to b2
    have HB2 := Lib.hid (HB.out.trans (b2.mono HB.out.size))
    clear q1 q2 q3 q4 b2 t3 t4 tX tY
    have q1 := t5.c0
    have q2 := t5.c1
    have q3 := t6.c0
    have q4 := t6.c1
    go_wp2_with fail
    refine (HC.out _).mono ?_
    rintro e w3 ⟨rfl, rfl⟩
    go_wp2_with fail
    have HX2 := Lib.hid ((HX.out.to HB2.out).to (Below.refl _ _).drew)
    have HY2 := Lib.hid ((HY.out.to HB2.out).to (Below.refl _ _).drew)
    clear t5 t6
    refine wp_region_plan (S := fun w' => w'.cell? ⟨w.heap.size, 1, none⟩ = some (.slice A xs.length c) ∧ w'.cell? ⟨w.heap.size + 1, 1, none⟩ = some (.slice A' ys.length c')) [(0, true), (1, true), (2, true), (4, true), (5, true), (3, false), (6, false), (7, false), (8, true), (9, true)] (by kernel_rfl) (by kernel_rfl) ⟨q2, q4⟩ ?_
    repeat (refine plan_take (v := ?_) rfl (by rfl) ?_ ?_; rotate_left; (focus (intro w' hS; obtain ⟨k1, k2⟩ := hS; go_simp; try with_reducible rfl)); simp only [Act.put, List.setIfInBounds_toArray, List.set_cons_zero, List.set_cons_succ])
    refine plan_call rfl (by rfl) (fun K hK => ?_)
    go_simp
    refine (trim_q HX2.out).mono ?_
    rintro e w' ⟨rfl, rfl⟩
    refine hK.out _ _ ⟨q2, q4⟩ ?_
    clear hK K
    refine plan_call rfl (by rfl) (fun K hK => ?_)
    go_simp
    refine (trim_q HY2.out).mono ?_
    rintro e w' ⟨rfl, rfl⟩
    refine hK.out _ _ ⟨q2, q4⟩ ?_
    clear hK K
    have HK2 := Lib.hid (compare_any A A' c c' (trimL xs) (trimL ys) _ HX2.out.trim.rd HY2.out.trim.rd (trim_trimmed b32_one HX2.out.dg) (trim_trimmed b32_one HY2.out.dg) HX2.out.trim.dg HY2.out.trim.dg HX2.out.trim.le HX2.out.cap HY2.out.trim.le HY2.out.cap)
    rw [val_trimL, val_trimL, HK.out] at HK2
    refine plan_call rfl (by rfl) (fun K hK => ?_)
    go_simp
    refine HK2.out.mono ?_
    rintro e w4 ⟨rfl, b4⟩
    have HB4 := Lib.hid ((HB2.out.drew).trans (b4.mono HB2.out.drew.size))
    refine hK.out _ _ ⟨(b4.cell (World.block_lt_of_cell? _ _ q2)).trans q2, (b4.cell (World.block_lt_of_cell? _ _ q4)).trans q4⟩ ?_
    clear hK K q1 q2 q3 q4 b4
    repeat (refine plan_take (v := ?_) rfl (by rfl) ?_ ?_; rotate_left; (focus (intro w' hS; obtain ⟨k1, k2⟩ := hS; go_simp; try with_reducible rfl)); simp only [Act.put, List.setIfInBounds_toArray, List.set_cons_zero, List.set_cons_succ])
    refine plan_done ?_
    go_wp2
    go_ret
    exact ⟨rfl, hb.trans (HB4.out.mono hb.size)⟩
  · obtain ⟨hz, hn⟩ := hne h12
    rw [← hz]
    obtain ⟨o, ho⟩ : ∃ o, cmpZ s1 s2 = o := ⟨_, rfl⟩
    rw [ho] at HC
    rw [ho]
    have ho0 : ((o != 0) = true) := by rw [← ho, hz]; simpa using hn
    have ho1 : ((o == 0) = false) := by rw [← ho, hz]; simpa using hn
    clear hz hn hmag hne r1 r2 e1 e2 ho h12
    go_enter Try.func31, Try.ntmps31
    go_wp2_with fail
    rw [← HW0.out]
    have q1 := tX.c0
    have q2 := tX.c1
    have q3 := tY.c0
    have q4 := tY.c1
    go_wp2_with fail
    refine HS1.out.mono ?_
    rintro e w1 ⟨rfl, b1⟩
    have t3 := tX.to b1
    have t4 := tY.to b1
    have HB := Lib.hid b1
    clear q1 q2 q3 q4 b1
    have q1 := t3.c0
    have q2 := t3.c1
    have q3 := t4.c0
    have q4 := t4.c1
    go_wp2_with fail
    refine (HS2.out _ HB.out).mono ?_
    rintro e w2 ⟨rfl, b2⟩
    have HB2 := Lib.hid (HB.out.trans (b2.mono HB.out.size))
    clear q1 q2 q3 q4 b2 t3 t4 tX tY
    go_wp2_with fail
    refine (HC.out _).mono ?_
    rintro e w3 ⟨rfl, rfl⟩
    go_wp2
    go_ret
    exact ⟨rfl, hb.trans (HB2.out.mono hb.size)⟩
end Go.Proofs.Ytlnjnoingiohjaa
