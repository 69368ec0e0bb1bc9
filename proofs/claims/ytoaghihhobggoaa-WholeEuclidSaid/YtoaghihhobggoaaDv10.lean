/- Parts: Sign, Cmp, IsCan, Z, Step, RefOps1. -/
import Derived.Test.YtoaghihhobggoaaDv6
import Derived.Test.YtoaghihhobggoaaDv7
import Derived.Test.YtoaghihhobggoaaDv8
import Derived.Test.YtoaghihhobggoaaDv9
set_option linter.unusedVariables false
set_option linter.unusedSimpArgs false

namespace Go.Proofs.Ytoaghihhobggoaa
open Go.RowKit Go.Shelf

set_option maxHeartbeats 2000000 in
theorem abs_any (n : Bool) {A : Option Addr} {c : Nat} {xs : List Nat} {w : World} (hx : Arg w A c xs) :
    Calls Try.prog 27 #[.agg #[.bool n, .slice A xs.length c]] w (ZRet w ((val b32 xs : Nat) : Int)) := by
  have HX := Lib.hid hx
  clear hx
  obtain ⟨W0, hW0⟩ : ∃ W0, W0 = (w.alloc (.cells #[.bool n, .slice A xs.length c] 24)).alloc (.cells #[.bool false, .slice none 0 0] 24) := ⟨_, rfl⟩
  have hb : Below w.heap.size w W0 := by rw [hW0]; exact ((Below.refl _ _).alloc (Nat.le_refl _) _).alloc (by simp) _
  have tX : Two W0 w.heap.size (.bool n) (.slice A xs.length c) := by rw [hW0]; exact (Two.new w _ _ _).alloc _
  have tR : Two W0 (w.heap.size + 1) (.bool false) (.slice none 0 0) := by
    have h := Two.new (w.alloc (.cells #[.bool n, .slice A xs.length c] 24)) (.bool false) (.slice none 0 0) 24
    rw [World.size_alloc] at h
    rw [hW0]; exact h
  have HW0 := Lib.hid hW0
  clear hW0
  go_enter Try.func27, Try.ntmps27
  go_wp2_with fail
  rw [← HW0.out]
  have q2 := tX.c1
  obtain ⟨z, ez⟩ : ∃ z, Hid (((val b32 xs : Nat) : Int) = z) := ⟨_, rfl⟩
  refine (clone_l (HX.out.to hb)).mono ?_
  rintro e w2 ⟨A1, c1, rfl, r1, r2, r3, hb2⟩
  have HI := Lib.hid (integer_l false r1 HX.out.dg r2 r3)
  rw [show zof false (val b32 xs) = ((val b32 xs : Nat) : Int) from by simp [zof], ez.out] at HI
  have HB2 := Lib.hid (hb.trans (hb2.mono hb.size))
  have tR2 := tR.to hb2
  clear r1 hb2 q2 tX tR
  go_wp2_with fail
  refine HI.out.mono ?_
  rintro e w3 ⟨A3, c3, rfl, s1, s2, s3, hb3⟩
  have t4 := tR2.to hb3
  have u0 := t4.c0
  have u1 := t4.c1
  have u2 := t4.f0
  have u3 := t4.f1
  have S1 := Lib.hid s1
  have HB3 := Lib.hid (HB2.out.trans (hb3.mono HB2.out.size))
  clear s1 hb3 tR2
  go_wp2
  have tF := t4.set (.bool (decide (z < 0))) (.slice A3 (dig b32 z.natAbs).length c3)
  refine bodyPost_ret (v := .agg #[.bool (decide (z < 0)), .slice A3 (dig b32 z.natAbs).length c3]) (by simp [results, Try.f27, go_sem, tF.c0, tF.c1]) rfl ?_
  rw [ez.out]
  exact zret_stored t4 (by omega) S1.out s2 s3 HB3.out

/-- The sign of a number. -/
def sgn (z : Int) : Int := if z = 0 then 0 else if z < 0 then -1 else 1

set_option maxHeartbeats 2000000 in
theorem sign_any (n : Bool) {A : Option Addr} {c : Nat} {xs : List Nat} {w : World} (hx : Arg w A c xs) :
    Calls Try.prog 29 #[.agg #[.bool n, .slice A xs.length c]] w fun e w' => e = .returned (.int .i64 (sgn (zof n (val b32 xs)))) ∧ Below w.heap.size w w' := by
  have hb := Lib.hid ((Below.refl w.heap.size w).alloc (Nat.le_refl _) (.cells #[.bool n, .slice A xs.length c] 24))
  have HT := Lib.hid (trim_q (hx.to hb.out))
  have hlen : ((trimL xs).length = 0) ↔ val b32 xs = 0 := by
    rw [trimL_dig b32_one hx.dg]
    exact ⟨fun h => (dig_nil b32_one).1 (List.eq_nil_of_length_eq_zero h), fun h => by rw [h]; rfl⟩
  obtain ⟨m, hm⟩ : ∃ m, (trimL xs).length = m := ⟨_, rfl⟩
  rw [hm] at HT hlen
  by_cases h0 : m = 0
  · have HS : Hid (sgn (zof n (val b32 xs)) = 0) := by show _ = _; rw [hlen.1 h0]; cases n <;> rfl
    subst h0
    clear hm hlen hx
    rw [HS.out]
    go_enter Try.func29, Try.ntmps29
    go_wp2_with fail
    refine HT.out.mono ?_
    rintro e w' ⟨rfl, rfl⟩
    go_wp2
    go_ret
    exact ⟨rfl, hb.out⟩
  · have hv : val b32 xs ≠ 0 := fun h => h0 (hlen.2 h)
    have hq : ((m : Int) == 0) = false := by rw [beq_eq_false_iff_ne]; omega
    cases n with
    | false =>
      have HS : Hid (sgn (zof false (val b32 xs)) = 1) := by show _ = _; simp [sgn, zof, hv]
      clear hm hlen hx hv
      rw [HS.out]
      go_enter Try.func29, Try.ntmps29
      go_wp2_with fail
      refine HT.out.mono ?_
      rintro e w' ⟨rfl, rfl⟩
      go_wp2
      go_ret
      exact ⟨rfl, hb.out⟩
    | true =>
      have HS : Hid (sgn (zof true (val b32 xs)) = -1) := by
        show _ = _
        have h1 : zof true (val b32 xs) < 0 := by simp [zof]; omega
        unfold sgn
        rw [if_neg (by omega), if_pos h1]
      clear hm hlen hx hv
      rw [HS.out]
      go_enter Try.func29, Try.ntmps29
      go_wp2_with fail
      refine HT.out.mono ?_
      rintro e w' ⟨rfl, rfl⟩
      go_wp2
      go_ret
      exact ⟨rfl, hb.out⟩
end Go.Proofs.Ytoaghihhobggoaa

namespace Go.Proofs.Ytoaghihhobggoaa
open Go.RowKit Go.Shelf

/-- How two numbers compare. -/
def cmpZ (a b : Int) : Int := if a < b then -1 else if b < a then 1 else 0

theorem cmpZ_self (a : Int) : cmpZ a a = 0 := by simp [cmpZ]
theorem cmpZ_range (a b : Int) : cmpZ a b = -1 ∨ cmpZ a b = 0 ∨ cmpZ a b = 1 := by unfold cmpZ; split <;> (try split) <;> simp
theorem sgn_range (a : Int) : sgn a = -1 ∨ sgn a = 0 ∨ sgn a = 1 := by unfold sgn; split <;> (try split) <;> simp
theorem cmpZ_sgn {a b : Int} (h : sgn a ≠ sgn b) : cmpZ (sgn a) (sgn b) = cmpZ a b ∧ cmpZ a b ≠ 0 := by
  unfold sgn cmpZ at *
  repeat' split at h
  all_goals (repeat' split)
  all_goals omega
theorem cmpZ_mag {n m : Bool} {x y : Nat} (h : sgn (zof n x) = sgn (zof m y)) : sgn (zof n x) * cmpN x y = cmpZ (zof n x) (zof m y) := by
  cases n <;> cases m <;> simp only [sgn, zof, cmpZ, cmpN, Bool.false_eq_true, if_false, if_true] at *
  all_goals (repeat' split at h)
  all_goals (repeat' split)
  all_goals omega

set_option maxHeartbeats 400000 in
theorem cmpI_any (a b : Int) (w : World) (ha : -9223372036854775808 ≤ a) (ha' : a ≤ 9223372036854775807) (hb : -9223372036854775808 ≤ b) (hb' : b ≤ 9223372036854775807) :
    Calls Try.prog 57 #[.int .i64 a, .int .i64 b] w fun e w' => e = .returned (.int .i64 (cmpZ a b)) ∧ w = w' := by
  unfold cmpZ
  have h1 : (a != a) = false := by simp
  have h2 : (b != b) = false := by simp
  rcases Int.lt_trichotomy a b with h | h | h
  · rw [if_pos h]
    go_enter Try.func57, Try.ntmps57
    go_wp2
    go_ret
    exact ⟨rfl, rfl⟩
  · subst h
    rw [if_neg (by omega), if_neg (by omega)]
    go_enter Try.func57, Try.ntmps57
    go_wp2
    go_ret
    exact ⟨rfl, rfl⟩
  · rw [if_neg (by omega), if_pos h]
    go_enter Try.func57, Try.ntmps57
    go_wp2
    go_ret
    exact ⟨rfl, rfl⟩

set_option maxRecDepth 100000 in
set_option maxHeartbeats 4000000 in
theorem cmp_any (na nb : Bool) {A A' : Option Addr} {c c' : Nat} {xs ys : List Nat} {w : World} (hx : Arg w A c xs) (hy : Arg w A' c' ys) :
    Calls Try.prog 31 #[.agg #[.bool na, .slice A xs.length c], .agg #[.bool nb, .slice A' ys.length c']] w fun e w' => e = .returned (.int .i64 (cmpZ (zof na (val b32 xs)) (zof nb (val b32 ys)))) ∧ Below w.heap.size w w' := by
  obtain ⟨W0, hW0⟩ : ∃ W0, W0 = (w.alloc (.cells #[.bool na, .slice A xs.length c] 24)).alloc (.cells #[.bool nb, .slice A' ys.length c'] 24) := ⟨_, rfl⟩
  have hb : Below w.heap.size w W0 := by rw [hW0]; exact ((Below.refl _ _).alloc (Nat.le_refl _) _).alloc (by simp) _
  have tX : Two W0 w.heap.size (.bool na) (.slice A xs.length c) := by rw [hW0]; exact (Two.new w _ _ _).alloc _
  have tY : Two W0 (w.heap.size + 1) (.bool nb) (.slice A' ys.length c') := by
    have h := Two.new (w.alloc (.cells #[.bool na, .slice A xs.length c] 24)) (.bool nb) (.slice A' ys.length c') 24
    rw [World.size_alloc] at h
    rw [hW0]; exact h
  have HW0 := Lib.hid hW0
  have HX := Lib.hid (hx.to hb)
  have HY := Lib.hid (hy.to hb)
  obtain ⟨z1, e1⟩ : ∃ z, zof na (val b32 xs) = z := ⟨_, rfl⟩
  obtain ⟨z2, e2⟩ : ∃ z, zof nb (val b32 ys) = z := ⟨_, rfl⟩
  have hmag := @cmpZ_mag na nb (val b32 xs) (val b32 ys)
  have HS1 := Lib.hid (sign_any na (hx.to hb))
  have HS2 := Lib.hid fun (V : World) (h : Below W0.heap.size W0 V) => sign_any nb ((hy.to hb).to h)
  rw [e1, e2] at hmag
  rw [e1] at HS1
  rw [e2] at HS2
  rw [e1, e2]
  obtain ⟨s1, hs1⟩ : ∃ s, sgn z1 = s := ⟨_, rfl⟩
  obtain ⟨s2, hs2⟩ : ∃ s, sgn z2 = s := ⟨_, rfl⟩
  have r1 := sgn_range z1
  have r2 := sgn_range z2
  have hne := @cmpZ_sgn z1 z2
  rw [hs1, hs2] at hmag hne
  rw [hs1] at HS1 r1
  rw [hs2] at HS2 r2
  have HC := Lib.hid fun V : World => cmpI_any s1 s2 V (by omega) (by omega) (by omega) (by omega)
  clear hW0 hx hy hs1 hs2
  by_cases h12 : s1 = s2
  · subst h12
    rw [cmpZ_self] at HC
    rw [← hmag rfl]
    obtain ⟨k, hk⟩ : ∃ k, cmpN (val b32 xs) (val b32 ys) = k := ⟨_, rfl⟩
    have rk : k = -1 ∨ k = 0 ∨ k = 1 := by rw [← hk]; unfold cmpN; split <;> (try split) <;> simp
    have hwr : IntKind.i64.wrap (s1 * k) = s1 * k := by rcases r1 with rfl | rfl | rfl <;> rcases rk with rfl | rfl | rfl <;> decide
    rw [hk]
    have HK := Lib.hid hk
    clear hk hmag hne r1 r2 e1 e2 rk
    go_enter Try.func31, Try.ntmps31
    go_wp2_with fail
    rw [← HW0.out]
    have q1 := tX.c0
    have q2 := tX.c1
    have q3 := tY.c0
    have q4 := tY.c1
    go_wp2_with fail
    refine HS1.out.mono ?_
    rintro e w1 ⟨rfl, b1⟩
    have t3 := tX.to b1
    have t4 := tY.to b1
    have HB := Lib.hid b1
    clear q1 q2 q3 q4 b1
    have q1 := t3.c0
    have q2 := t3.c1
    have q3 := t4.c0
    have q4 := t4.c1
    go_wp2_with fail
    refine (HS2.out _ HB.out).mono ?_
    rintro e w2 ⟨rfl, b2⟩
    have t5 := t3.to b2
    have t6 := t4.to b2
    have HB2 := Lib.hid (HB.out.trans (b2.mono HB.out.size))
    clear q1 q2 q3 q4 b2 t3 t4 tX tY
    have q1 := t5.c0
    have q2 := t5.c1
    have q3 := t6.c0
    have q4 := t6.c1
    go_wp2_with fail
    refine (HC.out _).mono ?_
    rintro e w3 ⟨rfl, rfl⟩
    go_wp2_with fail
    have HX2 := Lib.hid ((HX.out.to HB2.out).to (Below.refl _ _).drew)
    have HY2 := Lib.hid ((HY.out.to HB2.out).to (Below.refl _ _).drew)
    clear t5 t6
    refine wp_region_plan (S := fun w' => w'.cell? ⟨w.heap.size, 1, none⟩ = some (.slice A xs.length c) ∧ w'.cell? ⟨w.heap.size + 1, 1, none⟩ = some (.slice A' ys.length c')) [(0, true), (1, true), (2, true), (4, true), (5, true), (3, false), (6, false), (7, false), (8, true), (9, true)] (by kernel_rfl) (by kernel_rfl) ⟨q2, q4⟩ ?_
    repeat (refine plan_take (v := ?_) rfl (by rfl) ?_ ?_; rotate_left; (focus (intro w' hS; obtain ⟨k1, k2⟩ := hS; go_simp; try with_reducible rfl)); simp only [Act.put, List.setIfInBounds_toArray, List.set_cons_zero, List.set_cons_succ])
    refine plan_call rfl (by rfl) (fun K hK => ?_)
    go_simp
    refine (trim_q HX2.out).mono ?_
    rintro e w' ⟨rfl, rfl⟩
    refine hK.out _ _ ⟨q2, q4⟩ ?_
    clear hK K
    refine plan_call rfl (by rfl) (fun K hK => ?_)
    go_simp
    refine (trim_q HY2.out).mono ?_
    rintro e w' ⟨rfl, rfl⟩
    refine hK.out _ _ ⟨q2, q4⟩ ?_
    clear hK K
    have HK2 := Lib.hid (compare_any A A' c c' (trimL xs) (trimL ys) _ HX2.out.trim.rd HY2.out.trim.rd (trim_trimmed b32_one HX2.out.dg) (trim_trimmed b32_one HY2.out.dg) HX2.out.trim.dg HY2.out.trim.dg HX2.out.trim.le HX2.out.cap HY2.out.trim.le HY2.out.cap)
    rw [val_trimL, val_trimL, HK.out] at HK2
    refine plan_call rfl (by rfl) (fun K hK => ?_)
    go_simp
    refine HK2.out.mono ?_
    rintro e w4 ⟨rfl, b4⟩
    have HB4 := Lib.hid ((HB2.out.drew).trans (b4.mono HB2.out.drew.size))
    refine hK.out _ _ ⟨(b4.cell (World.block_lt_of_cell? _ _ q2)).trans q2, (b4.cell (World.block_lt_of_cell? _ _ q4)).trans q4⟩ ?_
    clear hK K q1 q2 q3 q4 b4
    repeat (refine plan_take (v := ?_) rfl (by rfl) ?_ ?_; rotate_left; (focus (intro w' hS; obtain ⟨k1, k2⟩ := hS; go_simp; try with_reducible rfl)); simp only [Act.put, List.setIfInBounds_toArray, List.set_cons_zero, List.set_cons_succ])
    refine plan_done ?_
    go_wp2
    go_ret
    exact ⟨rfl, hb.trans (HB4.out.mono hb.size)⟩
  · obtain ⟨hz, hn⟩ := hne h12
    rw [← hz]
    obtain ⟨o, ho⟩ : ∃ o, cmpZ s1 s2 = o := ⟨_, rfl⟩
    rw [ho] at HC
    rw [ho]
    have ho0 : ((o != 0) = true) := by rw [← ho, hz]; simpa using hn
    have ho1 : ((o == 0) = false) := by rw [← ho, hz]; simpa using hn
    clear hz hn hmag hne r1 r2 e1 e2 ho h12
    go_enter Try.func31, Try.ntmps31
    go_wp2_with fail
    rw [← HW0.out]
    have q1 := tX.c0
    have q2 := tX.c1
    have q3 := tY.c0
    have q4 := tY.c1
    go_wp2_with fail
    refine HS1.out.mono ?_
    rintro e w1 ⟨rfl, b1⟩
    have t3 := tX.to b1
    have t4 := tY.to b1
    have HB := Lib.hid b1
    clear q1 q2 q3 q4 b1
    have q1 := t3.c0
    have q2 := t3.c1
    have q3 := t4.c0
    have q4 := t4.c1
    go_wp2_with fail
    refine (HS2.out _ HB.out).mono ?_
    rintro e w2 ⟨rfl, b2⟩
    have HB2 := Lib.hid (HB.out.trans (b2.mono HB.out.size))
    clear q1 q2 q3 q4 b2 t3 t4 tX tY
    go_wp2_with fail
    refine (HC.out _).mono ?_
    rintro e w3 ⟨rfl, rfl⟩
    go_wp2
    go_ret
    exact ⟨rfl, hb.trans (HB2.out.mono hb.size)⟩
end Go.Proofs.Ytoaghihhobggoaa

namespace Go.Proofs.Ytoaghihhobggoaa
open Go.RowKit Go.Shelf

/-- Whether sign and words are a canonical form. -/
def canon (n : Bool) (xs : List Nat) : Bool := if xs.length = 0 then !n else decide (xs.getD (xs.length - 1) 0 ≠ 0)

set_option maxHeartbeats 2000000 in
theorem isCanonical_any (n : Bool) {A : Option Addr} {c : Nat} {xs : List Nat} {w : World} (hx : Arg w A c xs) :
    Calls Try.prog 17 #[.agg #[.bool n, .slice A xs.length c]] w fun e w' => e = .returned (.bool (canon n xs)) ∧ Below w.heap.size w w' := by
  have hb := Lib.hid ((Below.refl w.heap.size w).alloc (Nat.le_refl _) (.cells #[.bool n, .slice A xs.length c] 24))
  have hr := (hx.to hb.out).rd
  have hsm := hx.small
  by_cases h0 : xs.length = 0
  · have HC : Hid (canon n xs = !n) := by show _ = _; simp [canon, h0]
    have hb2 := hb.out
    rw [h0] at hb2
    have HB := Lib.hid hb2
    rw [h0, HC.out]
    clear hr hx hsm h0 hb hb2
    go_enter Try.func17, Try.ntmps17
    go_wp2
    go_ret
    exact ⟨rfl, HB.out⟩
  · obtain ⟨m, hm⟩ : ∃ m, xs.length = m + 1 := ⟨xs.length - 1, by omega⟩
    have hk : m < xs.length := by omega
    obtain ⟨b, o, rfl, _, hc⟩ := hr.at_ hk
    have e1 := hc m hk
    rw [← getD_at hk] at e1
    obtain ⟨d, ed⟩ : ∃ d, Hid (xs.getD m 0 = d) := ⟨_, rfl⟩
    rw [ed.out] at e1
    have HC : Hid (canon n xs = decide (d ≠ 0)) := by
      show _ = _
      unfold canon
      rw [if_neg h0, hm, Nat.add_sub_cancel, ed.out]
    rw [HC.out]
    have HB := Lib.hid hb.out
    have hm2 : m < 4294967295 := by omega
    rw [hm] at e1 HB ⊢
    clear hr hx hc hk h0 hb hm
    by_cases hd : d = 0
    · subst hd
      go_enter Try.func17, Try.ntmps17
      go_wp2
      go_ret
      exact ⟨rfl, HB.out⟩
    · have hd2 : ((d : Int) != 0) = true := by rw [bne_iff_ne]; omega
      rw [show decide (d ≠ 0) = true from by simp [hd]]
      go_enter Try.func17, Try.ntmps17
      go_wp2
      go_ret
      exact ⟨rfl, HB.out⟩
end Go.Proofs.Ytoaghihhobggoaa

namespace Go.Proofs.Ytoaghihhobggoaa
open Go.RowKit Go.Shelf

/-- Two cells that are an integer, in whatever form. -/
def Zi (W : World) (x y : Value) (z : Int) : Prop := ∃ n A c xs, x = .bool n ∧ y = .slice A xs.length c ∧ Arg W A c xs ∧ zof n (val b32 xs) = z

/-- Two cells that are an integer in canonical form. -/
def Zc (W : World) (x y : Value) (z : Int) : Prop := ∃ A c, x = .bool (decide (z < 0)) ∧ y = .slice A (dig b32 z.natAbs).length c ∧ Rd .u32 W W.heap.size A (dig b32 z.natAbs) ∧ (dig b32 z.natAbs).length ≤ c ∧ c ≤ 9223372036854775807

/-- An integer of at most k words. -/
def Sm (k : Nat) (z : Int) : Prop := z.natAbs < b32 ^ k

theorem Zi.to {W V : World} {x y : Value} {z : Int} (h : Zi W x y z) (hb : Below W.heap.size W V) : Zi V x y z := by
  obtain ⟨n, A, c, xs, h1, h2, h3, h4⟩ := h
  exact ⟨n, A, c, xs, h1, h2, h3.to hb, h4⟩
theorem Zc.to {W V : World} {x y : Value} {z : Int} (h : Zc W x y z) (hb : Below W.heap.size W V) : Zc V x y z := by
  obtain ⟨A, c, h1, h2, h3, h4, h5⟩ := h
  exact ⟨A, c, h1, h2, h3.to hb, h4, h5⟩

theorem Sm.add {k : Nat} {a b : Int} (ha : Sm k a) (hb : Sm k b) : Sm (k + 1) (a + b) := by
  unfold Sm at *
  rw [Nat.pow_succ]
  have : b32 ^ k * 2 ≤ b32 ^ k * b32 := Nat.mul_le_mul_left _ (by decide)
  omega
theorem Sm.sub {k : Nat} {a b : Int} (ha : Sm k a) (hb : Sm k b) : Sm (k + 1) (a - b) := by
  unfold Sm at *
  rw [Nat.pow_succ]
  have : b32 ^ k * 2 ≤ b32 ^ k * b32 := Nat.mul_le_mul_left _ (by decide)
  omega
theorem Sm.mono {k l : Nat} {a : Int} (ha : Sm k a) (h : k ≤ l) : Sm l a := Nat.lt_of_lt_of_le ha (Nat.pow_le_pow_right (by decide) h)
theorem Sm.mul {k l : Nat} {a b : Int} (ha : Sm k a) (hb : Sm l b) : Sm (k + l) (a * b) := by
  unfold Sm at *
  rw [Int.natAbs_mul, Nat.pow_add]
  exact Nat.mul_lt_mul'' ha hb
theorem Sm.abs {k : Nat} {a : Int} (ha : Sm k a) : Sm k (a.natAbs : Int) := by unfold Sm at *; rwa [Int.natAbs_natCast]
theorem Sm.neg {k : Nat} {a : Int} (ha : Sm k a) : Sm k (-a) := by unfold Sm at *; rwa [Int.natAbs_neg]
theorem Sm.zof {k : Nat} {n : Bool} {xs : List Nat} (h : Dg b32 xs) (hl : xs.length ≤ k) : Sm k (zof n (val b32 xs)) := by
  unfold Sm
  rw [zof_abs]
  exact Nat.lt_of_lt_of_le (val_lt h) (Nat.pow_le_pow_right (by decide) hl)

theorem zof_dec (z : Int) : zof (decide (z < 0)) z.natAbs = z := by
  by_cases h : z < 0 <;> simp [h, Go.Proofs.Ytoaghihhobggoaa.zof] <;> omega

theorem Zc.zi {W : World} {x y : Value} {z : Int} {k : Nat} (h : Zc W x y z) (hs : Sm k z) (hk : k ≤ 4294967295) : Zi W x y z := by
  obtain ⟨A, c, h1, h2, h3, h4, h5⟩ := h
  exact ⟨_, A, c, _, h1, h2, ⟨h3, Dg_dig b32_one _, h4, h5, Nat.le_trans (dig_length_le b32_one hs) hk⟩, by rw [val_dig b32_one]; exact zof_dec z⟩

/-- A call hands back z, in canonical form. -/
def ZR (w : World) (z : Int) (e : Ending) (w' : World) : Prop := ∃ x y, e = .returned (.agg #[x, y]) ∧ Zc w' x y z ∧ Below w.heap.size w w'

theorem ZRet.zr {w w' : World} {z : Int} {e : Ending} (h : ZRet w z e w') : ZR w z e w' := by
  obtain ⟨A, c, rfl, h1, h2, h3, h4⟩ := h
  exact ⟨_, _, rfl, ⟨A, c, rfl, rfl, h1, h2, h3⟩, h4⟩

variable {w : World} {x y x' y' : Value} {a b : Int}

theorem add_z (ha : Zi w x y a) (hb : Zi w x' y' b) : Calls Try.prog 19 #[.agg #[x, y], .agg #[x', y']] w (ZR w (a + b)) := by
  obtain ⟨n, A, c, xs, rfl, rfl, h3, rfl⟩ := ha
  obtain ⟨m, B, d, ys, rfl, rfl, k3, rfl⟩ := hb
  exact (add_any n m h3 k3).mono fun _ _ h => h.zr

theorem sub_z (ha : Zi w x y a) (hb : Zi w x' y' b) : Calls Try.prog 21 #[.agg #[x, y], .agg #[x', y']] w (ZR w (a - b)) := by
  obtain ⟨n, A, c, xs, rfl, rfl, h3, rfl⟩ := ha
  obtain ⟨m, B, d, ys, rfl, rfl, k3, rfl⟩ := hb
  exact (sub_any n m h3 k3).mono fun _ _ h => h.zr

theorem zof_mul (n m : Bool) (a b : Nat) : zof (!(n == m)) (a * b) = zof n a * zof m b := by
  cases n <;> cases m <;> simp [zof, Int.neg_mul, Int.mul_neg]

theorem mul_z (ha : Zi w x y a) (hb : Zi w x' y' b) : Calls Try.prog 23 #[.agg #[x, y], .agg #[x', y']] w (ZR w (a * b)) := by
  obtain ⟨n, A, c, xs, rfl, rfl, h3, rfl⟩ := ha
  obtain ⟨m, B, d, ys, rfl, rfl, k3, rfl⟩ := hb
  have h := mul_any n m h3 k3
  rw [zof_mul] at h
  exact h.mono fun _ _ h => h.zr

theorem neg_z (ha : Zi w x y a) : Calls Try.prog 25 #[.agg #[x, y]] w (ZR w (-a)) := by
  obtain ⟨n, A, c, xs, rfl, rfl, h3, rfl⟩ := ha
  have h := neg_any n h3
  rw [zof_not] at h
  exact h.mono fun _ _ h => h.zr

theorem abs_z (ha : Zi w x y a) : Calls Try.prog 27 #[.agg #[x, y]] w (ZR w (a.natAbs : Int)) := by
  obtain ⟨n, A, c, xs, rfl, rfl, h3, rfl⟩ := ha
  rw [zof_abs]
  exact (abs_any n h3).mono fun _ _ h => h.zr

theorem sign_z (ha : Zi w x y a) : Calls Try.prog 29 #[.agg #[x, y]] w fun e w' => e = .returned (.int .i64 (sgn a)) ∧ Below w.heap.size w w' := by
  obtain ⟨n, A, c, xs, rfl, rfl, h3, rfl⟩ := ha
  exact sign_any n h3

theorem cmp_z (ha : Zi w x y a) (hb : Zi w x' y' b) : Calls Try.prog 31 #[.agg #[x, y], .agg #[x', y']] w fun e w' => e = .returned (.int .i64 (cmpZ a b)) ∧ Below w.heap.size w w' := by
  obtain ⟨n, A, c, xs, rfl, rfl, h3, rfl⟩ := ha
  obtain ⟨m, B, d, ys, rfl, rfl, k3, rfl⟩ := hb
  exact cmp_any n m h3 k3

theorem dig_last {b n : Nat} (hb : 1 < b) (h : (dig b n).length ≠ 0) : (dig b n).getD ((dig b n).length - 1) 0 ≠ 0 := by
  have h1 := trimN_of_dig hb n
  intro h0
  obtain ⟨ys, d, hd⟩ : ∃ ys d, dig b n = ys ++ [d] := by
    rcases List.eq_nil_or_concat (dig b n) with h2 | ⟨ys, d, h2⟩
    · rw [h2] at h; exact absurd rfl h
    · exact ⟨ys, d, by simpa using h2⟩
  rw [hd] at h0 h1
  simp at h0
  subst h0
  rw [trimN_snoc_zero] at h1
  have := trimN_le ys
  simp at h1
  omega

theorem canon_dig (z : Int) : canon (decide (z < 0)) (dig b32 z.natAbs) = true := by
  unfold canon
  split
  · rename_i h
    have h1 : z.natAbs = 0 := (dig_nil b32_one).1 (List.eq_nil_of_length_eq_zero h)
    have h2 : z = 0 := by omega
    subst h2; rfl
  · rename_i h
    exact decide_eq_true (dig_last b32_one h)

theorem isCan_c {k : Nat} (ha : Zc w x y a) (hs : Sm k a) (hk : k ≤ 4294967295) : Calls Try.prog 17 #[.agg #[x, y]] w fun e w' => e = .returned (.bool true) ∧ Below w.heap.size w w' := by
  obtain ⟨A, c, rfl, rfl, h3, h4, h5⟩ := ha
  have h := isCanonical_any (decide (a < 0)) (⟨h3, Dg_dig b32_one _, h4, h5, Nat.le_trans (dig_length_le b32_one hs) hk⟩ : Arg w A c (dig b32 a.natAbs))
  rw [canon_dig] at h
  exact h

theorem zof_inj_dec {a b : Int} (h1 : decide (a < 0) = decide (b < 0)) (h2 : dig b32 a.natAbs = dig b32 b.natAbs) : a = b := by
  have h3 := dig_inj b32_one h2
  by_cases ha : a < 0 <;> by_cases hb : b < 0 <;> simp [ha, hb] at h1 <;> omega

theorem same_c (ha : Zc w x y a) (hb : Zc w x' y' b) : Calls Try.prog 14 #[.agg #[x, y], .agg #[x', y']] w fun e w' => e = .returned (.bool (decide (a = b))) ∧ Below w.heap.size w w' := by
  obtain ⟨A, c, rfl, rfl, h3, h4, h5⟩ := ha
  obtain ⟨A', c', rfl, rfl, k3, k4, k5⟩ := hb
  have h := same_any (decide (a < 0)) (decide (b < 0)) h3 k3 h4 h5 k4 k5
  rw [show decide (decide (a < 0) = decide (b < 0) ∧ dig b32 a.natAbs = dig b32 b.natAbs) = decide (a = b) from by
    rw [decide_eq_decide]
    exact ⟨fun h => zof_inj_dec h.1 h.2, fun h => by rw [h]; exact ⟨rfl, rfl⟩⟩] at h
  exact h

theorem same_t (ha : Zc w x y a) (hb : Zc w x' y' b) (h : a = b) : Calls Try.prog 14 #[.agg #[x, y], .agg #[x', y']] w fun e w' => e = .returned (.bool true) ∧ Below w.heap.size w w' := by
  have h1 := same_c ha hb
  rw [decide_eq_true h] at h1
  exact h1

/-- A load of an integer's two cells. -/
theorem load_two {W : World} {g t : Nat} {u v : Value} {ac : Act} {d : Option Tmp} {ty : TypeId} {pos : String} {after : Array Edge} {guard : Option (Nat × Bool)} (ht : ac.eval (.tmp t) = .pointer (some ⟨g, 0, none⟩)) (h : Two W g u v) :
    (execOp ac.eval ⟨d, .load 24 (.tmp t), ty, pos, after, guard⟩).run Try.prog W = .ok (.value (.agg #[u, v])) W := by
  have h0 := h.c0
  have h1 := h.c1
  simp only [execOp, ht]
  go_simp
end Go.Proofs.Ytoaghihhobggoaa

namespace Go.Proofs.Ytoaghihhobggoaa
open Go.RowKit Go.Shelf

/-- A variable that holds an integer in whatever form. -/
structure Zb (W : World) (g : Nat) (x y : Value) (z : Int) : Prop where
  two : Two W g x y
  zi : Zi W x y z
/-- A variable that holds an integer in canonical form. -/
structure Cb (W : World) (g : Nat) (x y : Value) (z : Int) : Prop where
  two : Two W g x y
  zc : Zc W x y z

theorem Zb.to {W V : World} {g : Nat} {x y : Value} {z : Int} (h : Zb W g x y z) (hb : Below W.heap.size W V) : Zb V g x y z := ⟨h.two.to hb, h.zi.to hb⟩
theorem Cb.to {W V : World} {g : Nat} {x y : Value} {z : Int} (h : Cb W g x y z) (hb : Below W.heap.size W V) : Cb V g x y z := ⟨h.two.to hb, h.zc.to hb⟩

/-- What a store into a variable that holds no number leaves as it was. -/
structure Kept (g : Nat) (w V : World) : Prop where
  two : ∀ g' u v, g' ≠ g → Two w g' u v → Two V g' u v
  zc : ∀ x y z, Zc w x y z → Zc V x y z
  zi : ∀ x y z, Zi w x y z → Zi V x y z
  bel : ∀ B w0, Below B w0 w → B ≤ g → Below B w0 V
  size : V.heap.size = w.heap.size

theorem Rd.set2' {kd : IntKind} {w : World} {B g : Nat} {A : Option Addr} {xs : List Nat} {x y : Value} (t : Two w g x y) (hx : ∀ n : Int, x ≠ .int kd n) (hy : ∀ n : Int, y ≠ .int kd n) (h : Rd kd w B A xs) (a b : Value) : Rd kd ((w.setCell ⟨g, 0, none⟩ a).setCell ⟨g, 1, none⟩ b) B A xs := by
  have h1 : (w.setCell ⟨g, 0, none⟩ a).cell? ⟨g, 1, none⟩ = some y := (World.cell?_setCell_other _ _ _ _ (by simp)).trans t.c1
  exact (h.set t.c0 hx a).set h1 hy b

theorem Kept.of {w : World} {g : Nat} {x y : Value} (t : Two w g x y) (hx : ∀ n : Int, x ≠ .int .u32 n) (hy : ∀ n : Int, y ≠ .int .u32 n) (a b : Value) : Kept g w ((w.setCell ⟨g, 0, none⟩ a).setCell ⟨g, 1, none⟩ b) := by
  have hsz : ((w.setCell ⟨g, 0, none⟩ a).setCell ⟨g, 1, none⟩ b).heap.size = w.heap.size := by simp [World.setCell]
  refine ⟨fun g' u v hne t' => t'.far hne _ _, ?_, ?_, fun B w0 h hg => (h.setCell (p := ⟨g, 0, none⟩) hg _).setCell (p := ⟨g, 1, none⟩) hg _, hsz⟩
  · rintro x y z ⟨A, c, h1, h2, h3, h4, h5⟩
    exact ⟨A, c, h1, h2, (Rd.set2' t hx hy h3 _ _).more (by rw [hsz]; exact Nat.le_refl _), h4, h5⟩
  · rintro x y z ⟨n, A, c, xs, h1, h2, ⟨r1, r2, r3, r4, r5⟩, h4⟩
    exact ⟨n, A, c, xs, h1, h2, ⟨(Rd.set2' t hx hy r1 _ _).more (by rw [hsz]; exact Nat.le_refl _), r2, r3, r4, r5⟩, h4⟩

/-- A flag and a slice. -/
def Fs (x y : Value) : Prop := ∃ n A k c, x = .bool n ∧ y = .slice A k c
theorem Zc.fs {w : World} {x y : Value} {z : Int} (h : Zc w x y z) : Fs x y := by
  obtain ⟨A, c, rfl, rfl, _⟩ := h
  exact ⟨_, _, _, _, rfl, rfl⟩
theorem Zi.fs {w : World} {x y : Value} {z : Int} (h : Zi w x y z) : Fs x y := by
  obtain ⟨n, A, c, xs, rfl, rfl, _⟩ := h
  exact ⟨_, _, _, _, rfl, rfl⟩
theorem Fs.nil : Fs (.bool false) (.slice none 0 0) := ⟨_, _, _, _, rfl, rfl⟩

theorem Zc.nint {w : World} {x y : Value} {z : Int} (h : Zc w x y z) : (∀ n : Int, x ≠ .int .u32 n) ∧ (∀ n : Int, y ≠ .int .u32 n) := by
  obtain ⟨A, c, rfl, rfl, _⟩ := h
  exact ⟨(fun n e => by cases e), (fun n e => by cases e)⟩

variable {ac : Act} {w : World} {K : Act → World → Prop} {Q : Exit → Act → World → Prop} {d : Option Tmp} {ty : TypeId} {pos : String} {after : Array Edge} {guard : Option (Nat × Bool)}

theorem wp_alloc_two (h : ∀ (g : Nat) (V : World), Two V g (.bool false) (.slice none 0 0) → Below w.heap.size w V → w.heap.size ≤ g → K (ac.put d (.pointer (some ⟨g, 0, none⟩))) V) :
    Oper.wp Try.prog ⟨d, .alloc 24, ty, pos, after, guard⟩ ac w K Q := by
  have h1 := h _ _ (Two.new w (.bool false) (.slice none 0 0) 24) ((Below.refl _ _).alloc (Nat.le_refl _) _) (Nat.le_refl _)
  go_simp
  exact h1

theorem wp_store_two {g : Nat} {x y x0 y0 : Value} {p v : Operand} (hp : ac.eval p = .pointer (some ⟨g, 0, none⟩)) (hv : ac.eval v = .agg #[x, y]) (t : Two w g x0 y0) (f0 : Fs x0 y0) (f1 : Fs x y)
    (h : ∀ V : World, Two V g x y → Kept g w V → K (ac.put d undef) V) :
    Oper.wp Try.prog ⟨d, .store 24 p v, ty, pos, after, guard⟩ ac w K Q := by
  obtain ⟨n0, A0, k0, c0, rfl, rfl⟩ := f0
  obtain ⟨n1, A1, k1, c1, rfl, rfl⟩ := f1
  have h1 := h _ (t.set _ _) (Kept.of t (fun n e => by cases e) (fun n e => by cases e) _ _)
  have u0 := t.c0
  have u1 := t.c1
  have v0 := t.f0
  have v1 := t.f1
  clear h t
  simp only [Oper.wp, execOp, hp, hv]
  go_simp
  exact h1
end Go.Proofs.Ytoaghihhobggoaa

namespace Go.Proofs.Ytoaghihhobggoaa
open Go.RowKit Go.Shelf

theorem Two.toB {W V : World} {g B : Nat} {a b : Value} (h : Two W g a b) (hb : Below B W V) (hg : g < B) : Two V g a b :=
  ⟨(hb.cell (p := ⟨g, 0, none⟩) hg).trans h.c0, (hb.cell (p := ⟨g, 1, none⟩) hg).trans h.c1, (hb.frozen (p := ⟨g, 0, none⟩) hg).trans h.f0, (hb.frozen (p := ⟨g, 1, none⟩) hg).trans h.f1, Nat.lt_of_lt_of_le h.lt hb.size⟩

theorem halves_r {A : Option Addr} {c : Nat} {xs : List Nat} {w : World} (hx : Arg w A c xs) : Calls Try.prog 46 #[.slice A xs.length c] w (HRet w (val b32 xs)) := halves_any hx

theorem of_r (neg : Bool) {A : Option Addr} {c n : Nat} {w : World} (hr : Hr w A c (dig b16 n)) : Calls Try.prog 49 #[.bool neg, .slice A (dig b16 n).length c] w (ZR w (zof neg n)) := by
  have h := of_any neg hr.rd hr.dg hr.le hr.cap (Nat.le_trans hr.small (by decide))
  rw [val_dig b16_one] at h
  exact h.mono fun _ _ h => h.zr

theorem mul_r {A A' : Option Addr} {c c' m n k l : Nat} {w : World} (hx : Hr w A c (dig b16 m)) (hy : Hr w A' c' (dig b16 n)) (h1 : m < b16 ^ k) (h2 : n < b16 ^ l) (hk : k + l ≤ 1000000) :
    Calls Try.prog 55 #[.slice A (dig b16 m).length c, .slice A' (dig b16 n).length c'] w (HRet w (m * n)) := by
  have h := rmul_any hx hy (Nat.le_trans (Nat.add_le_add (dig_length_le b16_one h1) (dig_length_le b16_one h2)) hk)
  rw [val_dig b16_one, val_dig b16_one] at h
  exact h


set_option maxRecDepth 100000 in
set_option maxHeartbeats 8000000 in
theorem rneg_any (n : Bool) {A : Option Addr} {c : Nat} {xs : List Nat} {w : World} (hx : Arg w A c xs) (sx : xs.length ≤ 10000) :
    Calls Try.prog 26 #[.agg #[.bool n, .slice A xs.length c]] w (ZR w (zof (!n) (val b32 xs))) := by
  obtain ⟨W0, hW0⟩ : ∃ W0, W0 = ((w.alloc (.cells #[.bool n, .slice A xs.length c] 24)).alloc (.cells #[.bool false, .slice none 0 0] 24)) := ⟨_, rfl⟩
  have hb : Below w.heap.size w W0 := by rw [hW0]; exact ((Below.refl _ _).alloc (Nat.le_refl _) _).alloc (by simp) _
  have tX : Two W0 (w.heap.size) (.bool n) (.slice A xs.length c) := by
    have h := Two.new w (.bool n) (.slice A xs.length c) 24
    rw [hW0]; exact h.alloc _
  have tR : Two W0 (w.heap.size + 1) (.bool false) (.slice none 0 0) := by
    have h := Two.new (w.alloc (.cells #[.bool n, .slice A xs.length c] 24)) (.bool false) (.slice none 0 0) 24
    rw [World.size_alloc] at h
    rw [hW0]; exact h
  have HW0 := Lib.hid hW0
  have HB0 := Lib.hid hb
  have HX := Lib.hid hx
  have hBW : w.heap.size + 1 ≤ W0.heap.size := by rw [hW0]; simp
  have Dsx : val b32 xs < b16 ^ (2 * xs.length) := by rw [← pow_2k]; exact val_lt hx.dg
  clear hW0 hb hx
  go_enter Try.func26, Try.ntmps26
  go_wp2_with fail
  rw [← HW0.out]
  refine wp_region_plan (S := fun w' => Below (w.heap.size + 1) W0 w') [(0, true), (1, true), (2, true), (3, true), (4, true), (5, false), (6, false), (7, false)] (by kernel_rfl) (by kernel_rfl) (Below.refl _ _).drew ?_
  have HB := (Below.refl W0.heap.size W0).drew
  repeat (refine plan_take (v := ?_) rfl (by rfl) ?_ ?_; rotate_left; (focus (intro w' hS; have k0 := (tX.toB hS (by omega)).c0; have k1 := (tX.toB hS (by omega)).c1; go_simp; try with_reducible rfl)); simp only [Act.put, List.setIfInBounds_toArray, List.set_cons_zero, List.set_cons_succ])
  refine plan_call rfl (by rfl) (fun K hK => ?_)
  go_simp
  refine (halves_r (HX.out.to (HB0.out.trans (HB.mono HB0.out.size)))).mono ?_
  rintro e V ⟨A1, c1, rfl, r1, l1, m1, bb⟩
  replace HB := HB.trans (bb.mono HB.size)
  have H1 := Hr.of_ret r1 l1 m1 Dsx (by omega)
  clear r1 l1 m1 bb
  refine hK.out _ _ (HB.mono hBW) ?_
  clear hK K
  refine plan_call rfl (by rfl) (fun K hK => ?_)
  go_simp
  refine (of_r (!n) H1).mono ?_
  rintro e V ⟨xr, yr, rfl, rz, bb⟩
  replace HB := HB.trans (bb.mono HB.size)
  clear H1 bb
  refine hK.out _ _ (HB.mono hBW) ?_
  clear hK K
  refine plan_call rfl (by rfl) (fun K hK => ?_)
  refine wp_store_two (by rfl) (by rfl) (tR.to HB) Fs.nil rz.fs (fun V u kp => ?_)
  have HF := kp.zc _ _ _ rz
  have HE := kp.bel _ _ (HB0.out.trans (HB.mono HB0.out.size)) (by omega)
  refine hK.out _ _ (kp.bel _ _ (HB.mono hBW) (Nat.le_refl _)) ?_
  clear hK K kp
  simp only [Act.put, List.setIfInBounds_toArray, List.set_cons_zero, List.set_cons_succ]
  refine plan_done ?_
  have HF2 := Lib.hid HF
  have HE2 := Lib.hid HE
  clear HF HE
  go_wp2
  exact bodyPost_ret (v := .agg #[xr, yr]) (by simp [results, Try.f26, go_sem, u.c0, u.c1]) rfl ⟨xr, yr, rfl, HF2.out, HE2.out⟩
set_option maxRecDepth 100000 in
set_option maxHeartbeats 8000000 in
theorem rMul_any (n : Bool) (m : Bool) {A A' : Option Addr} {c c' : Nat} {xs ys : List Nat} {w : World} (hx : Arg w A c xs) (sx : xs.length ≤ 10000) (hy : Arg w A' c' ys) (sy : ys.length ≤ 10000) :
    Calls Try.prog 24 #[.agg #[.bool n, .slice A xs.length c], .agg #[.bool m, .slice A' ys.length c']] w (ZR w (zof (!(n == m)) (val b32 xs * val b32 ys))) := by
  obtain ⟨W0, hW0⟩ : ∃ W0, W0 = (((w.alloc (.cells #[.bool n, .slice A xs.length c] 24)).alloc (.cells #[.bool m, .slice A' ys.length c'] 24)).alloc (.cells #[.bool false, .slice none 0 0] 24)) := ⟨_, rfl⟩
  have hb : Below w.heap.size w W0 := by rw [hW0]; exact (((Below.refl _ _).alloc (Nat.le_refl _) _).alloc (by simp) _).alloc (by simp; omega) _
  have tX : Two W0 (w.heap.size) (.bool n) (.slice A xs.length c) := by
    have h := Two.new w (.bool n) (.slice A xs.length c) 24
    rw [hW0]; exact (h.alloc _).alloc _
  have tY : Two W0 (w.heap.size + 1) (.bool m) (.slice A' ys.length c') := by
    have h := Two.new (w.alloc (.cells #[.bool n, .slice A xs.length c] 24)) (.bool m) (.slice A' ys.length c') 24
    rw [World.size_alloc] at h
    rw [hW0]; exact h.alloc _
  have tR : Two W0 (w.heap.size + 1 + 1) (.bool false) (.slice none 0 0) := by
    have h := Two.new ((w.alloc (.cells #[.bool n, .slice A xs.length c] 24)).alloc (.cells #[.bool m, .slice A' ys.length c'] 24)) (.bool false) (.slice none 0 0) 24
    rw [World.size_alloc, World.size_alloc] at h
    rw [hW0]; exact h
  have HW0 := Lib.hid hW0
  have HB0 := Lib.hid hb
  have HX := Lib.hid hx
  have HY := Lib.hid hy
  have hBW : w.heap.size + 1 + 1 ≤ W0.heap.size := by rw [hW0]; simp
  have Dsx : val b32 xs < b16 ^ (2 * xs.length) := by rw [← pow_2k]; exact val_lt hx.dg
  have Dsy : val b32 ys < b16 ^ (2 * ys.length) := by rw [← pow_2k]; exact val_lt hy.dg
  clear hW0 hb hx hy
  obtain ⟨s, hs⟩ : ∃ s, (!(n == m)) = s := ⟨_, rfl⟩
  rw [hs]
  go_enter Try.func24, Try.ntmps24
  go_wp2_with fail
  rw [← HW0.out]
  refine wp_region_plan (S := fun w' => Below (w.heap.size + 1 + 1) W0 w') [(0, true), (1, true), (2, true), (3, true), (4, true), (5, true), (6, true), (8, true), (9, true), (7, false), (10, false), (11, false), (12, false), (13, false)] (by kernel_rfl) (by kernel_rfl) (Below.refl _ _).drew ?_
  have HB := (Below.refl W0.heap.size W0).drew
  repeat (refine plan_take (v := ?_) rfl (by rfl) ?_ ?_; rotate_left; (focus (intro w' hS; have k0 := (tX.toB hS (by omega)).c0; have k1 := (tX.toB hS (by omega)).c1; have k2 := (tY.toB hS (by omega)).c0; have k3 := (tY.toB hS (by omega)).c1; go_simp; try with_reducible rfl)); simp only [Act.put, List.setIfInBounds_toArray, List.set_cons_zero, List.set_cons_succ])
  refine plan_call rfl (by rfl) (fun K hK => ?_)
  go_simp
  refine (halves_r (HX.out.to (HB0.out.trans (HB.mono HB0.out.size)))).mono ?_
  rintro e V ⟨A1, c1, rfl, r1, l1, m1, bb⟩
  replace HB := HB.trans (bb.mono HB.size)
  have H1 := Hr.of_ret r1 l1 m1 Dsx (by omega)
  clear r1 l1 m1 bb
  refine hK.out _ _ (HB.mono hBW) ?_
  clear hK K
  refine plan_call rfl (by rfl) (fun K hK => ?_)
  go_simp
  refine (halves_r (HY.out.to (HB0.out.trans (HB.mono HB0.out.size)))).mono ?_
  rintro e V ⟨A2, c2, rfl, r1, l1, m1, bb⟩
  replace HB := HB.trans (bb.mono HB.size)
  have H2 := Hr.of_ret r1 l1 m1 Dsy (by omega)
  replace H1 := H1.to bb
  clear r1 l1 m1 bb
  refine hK.out _ _ (HB.mono hBW) ?_
  clear hK K
  refine plan_call rfl (by rfl) (fun K hK => ?_)
  go_simp
  refine (mul_r H1 H2 Dsx Dsy (by omega)).mono ?_
  rintro e V ⟨A3, c3, rfl, r1, l1, m1, bb⟩
  replace HB := HB.trans (bb.mono HB.size)
  have H3 := Hr.of_ret r1 l1 m1 (pow_cut Dsx Dsy) (by omega)
  clear r1 l1 m1 bb H1 H2
  refine hK.out _ _ (HB.mono hBW) ?_
  clear hK K
  refine plan_call rfl (by rfl) (fun K hK => ?_)
  go_simp
  refine (of_r s H3).mono ?_
  rintro e V ⟨xr, yr, rfl, rz, bb⟩
  replace HB := HB.trans (bb.mono HB.size)
  clear H3 bb
  refine hK.out _ _ (HB.mono hBW) ?_
  clear hK K
  refine plan_call rfl (by rfl) (fun K hK => ?_)
  refine wp_store_two (by rfl) (by rfl) (tR.to HB) Fs.nil rz.fs (fun V u kp => ?_)
  have HF := kp.zc _ _ _ rz
  have HE := kp.bel _ _ (HB0.out.trans (HB.mono HB0.out.size)) (by omega)
  refine hK.out _ _ (kp.bel _ _ (HB.mono hBW) (Nat.le_refl _)) ?_
  clear hK K kp
  simp only [Act.put, List.setIfInBounds_toArray, List.set_cons_zero, List.set_cons_succ]
  refine plan_done ?_
  have HF2 := Lib.hid HF
  have HE2 := Lib.hid HE
  clear HF HE
  go_wp2
  exact bodyPost_ret (v := .agg #[xr, yr]) (by simp [results, Try.f24, go_sem, u.c0, u.c1]) rfl ⟨xr, yr, rfl, HF2.out, HE2.out⟩
end Go.Proofs.Ytoaghihhobggoaa
