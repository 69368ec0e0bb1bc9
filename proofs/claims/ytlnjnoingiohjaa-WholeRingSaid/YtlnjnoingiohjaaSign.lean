/- Abs, Sign and IsCanonical of package whole. -/
import Derived.Test.YtlnjnoingiohjaaOps
namespace Go.Proofs.Ytlnjnoingiohjaa
open Go.RowKit Go.Shelf

set_option maxHeartbeats 2000000 in
theorem abs_any (n : Bool) {A : Option Addr} {c : Nat} {xs : List Nat} {w : World} (hx : Arg w A c xs) :
    Calls Try.prog 27 #[.agg #[.bool n, .slice A xs.length c]] w (ZRet w ((val b32 xs : Nat) : Int)) := by
  have HX := Lib.hid hx
  clear hx
  obtain ⟨W0, hW0⟩ : ∃ W0, W0 = (w.alloc (.cells #[.bool n, .slice A xs.length c] 24)).alloc (.cells #[.bool false, .slice none 0 0] 24) := ⟨_, rfl⟩
  have hb : Below w.heap.size w W0 := by rw [hW0]; exact ((Below.refl _ _).alloc (Nat.le_refl _) _).alloc (by simp) _
  have tX : Two W0 w.heap.size (.bool n) (.slice A xs.length c) := by rw [hW0]; exact (Two.new w _ _ _).alloc _
  have tR : Two W0 (w.heap.size + 1) (.bool false) (.slice none 0 0) := by
    have h := Two.new (w.alloc (.cells #[.bool n, .slice A xs.length c] 24)) (.bool false) (.slice none 0 0) 24
    rw [World.size_alloc] at h
    rw [hW0]; exact h
  have HW0 := Lib.hid hW0
  clear hW0
  go_enter Try.func27, Try.ntmps27
  go_wp2_with fail
  rw [← HW0.out]
  have q2 := tX.c1
  obtain ⟨z, ez⟩ : ∃ z, Hid (((val b32 xs : Nat) : Int) = z) := ⟨_, rfl⟩
  refine (clone_l (HX.out.to hb)).mono ?_
  rintro e w2 ⟨A1, c1, rfl, r1, r2, r3, hb2⟩
  have HI := Lib.hid (integer_l false r1 HX.out.dg r2 r3)
  rw [show zof false (val b32 xs) = ((val b32 xs : Nat) : Int) from by simp [zof], ez.out] at HI
  have HB2 := Lib.hid (hb.trans (hb2.mono hb.size))
  have tR2 := tR.to hb2
  clear r1 hb2 q2 tX tR
  go_wp2_with fail
  refine HI.out.mono ?_
  rintro e w3 ⟨A3, c3, rfl, s1, s2, s3, hb3⟩
  have t4 := tR2.to hb3
  have u0 := t4.c0
  have u1 := t4.c1
  have u2 := t4.f0
  have u3 := t4.f1
  have S1 := Lib.hid s1
  have HB3 := Lib.hid (HB2.out.trans (hb3.mono HB2.out.size))
  clear s1 hb3 tR2
  go_wp2
  have tF := t4.set (.bool (decide (z < 0))) (.slice A3 (dig b32 z.natAbs).length c3)
  refine bodyPost_ret (v := .agg #[.bool (decide (z < 0)), .slice A3 (dig b32 z.natAbs).length c3]) (by simp [results, Try.f27, go_sem, tF.c0, tF.c1]) rfl ?_
  rw [ez.out]
  exact zret_stored t4 (by omega) S1.out s2 s3 HB3.out

/-- The sign of a number. -/
def sgn (z : Int) : Int := if z = 0 then 0 else if z < 0 then -1 else 1

set_option maxHeartbeats 2000000 in
theorem sign_any (n : Bool) {A : Option Addr} {c : Nat} {xs : List Nat} {w : World} (hx : Arg w A c xs) :
    Calls Try.prog 29 #[.agg #[.bool n, .slice A xs.length c]] w fun e w' => e = .returned (.int .i64 (sgn (zof n (val b32 xs)))) ∧ Below w.heap.size w w' := by
  have hb := Lib.hid ((Below.refl w.heap.size w).alloc (Nat.le_refl _) (.cells #[.bool n, .slice A xs.length c] 24))
  have HT := Lib.hid (trim_q (hx.to hb.out))
  have hlen : ((trimL xs).length = 0) ↔ val b32 xs = 0 := by
    rw [trimL_dig b32_one hx.dg]
    exact ⟨fun h => (dig_nil b32_one).1 (List.eq_nil_of_length_eq_zero h), fun h => by rw [h]; rfl⟩
  obtain ⟨m, hm⟩ : ∃ m, (trimL xs).length = m := ⟨_, rfl⟩
  rw [hm] at HT hlen
  by_cases h0 : m = 0
  · have HS : Hid (sgn (zof n (val b32 xs)) = 0) := by show _ = _; rw [hlen.1 h0]; cases n <;> rfl
    subst h0
    clear hm hlen hx
    rw [HS.out]
    go_enter Try.func29, Try.ntmps29
    go_wp2_with fail
    refine HT.out.mono ?_
    rintro e w' ⟨rfl, rfl⟩
    go_wp2
    go_ret
    exact ⟨rfl, hb.out⟩
  · have hv : val b32 xs ≠ 0 := fun h => h0 (hlen.2 h)
    have hq : ((m : Int) == 0) = false := by rw [beq_eq_false_iff_ne]; omega
    cases n with
    | false =>
      have HS : Hid (sgn (zof false (val b32 xs)) = 1) := by show _ = _; simp [sgn, zof, hv]
      clear hm hlen hx hv
      rw [HS.out]
      go_enter Try.func29, Try.ntmps29
      go_wp2_with fail
      refine HT.out.mono ?_
      rintro e w' ⟨rfl, rfl⟩
      go_wp2
      go_ret
      exact ⟨rfl, hb.out⟩
    | true =>
      have HS : Hid (sgn (zof true (val b32 xs)) = -1) := by
        show _ = _
        have h1 : zof true (val b32 xs) < 0 := by simp [zof]; omega
        unfold sgn
        rw [if_neg (by omega), if_pos h1]
      clear hm hlen hx hv
      rw [HS.out]
      go_enter Try.func29, Try.ntmps29
      go_wp2_with fail
      refine HT.out.mono ?_
      rintro e w' ⟨rfl, rfl⟩
      go_wp2
      go_ret
      exact ⟨rfl, hb.out⟩
end Go.Proofs.Ytlnjnoingiohjaa
