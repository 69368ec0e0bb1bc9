/- whole.FromInt64. -/
import Derived.Test.YtlnjnoingiohjaaDiff
namespace Go.Proofs.Ytlnjnoingiohjaa
open Go.RowKit Go.Shelf

theorem toWords_l (n : Nat) (hn : n < 18446744073709551616) (w : World) :
    Calls Try.prog 48 #[.int .u64 (n : Nat)] w fun e w' => ∃ A c, e = .returned (.slice A (dig b32 n).length c) ∧ Rd .u32 w' w'.heap.size A (dig b32 n) ∧ (dig b32 n).length ≤ c ∧ c ≤ 9223372036854775807 ∧ Below w.heap.size w w' := by
  refine (toWords_any n hn w).mono ?_
  rintro e w' ⟨v, rfl, ⟨A, c, rfl, h1, h2, h3⟩, hb⟩
  exact ⟨A, c, rfl, h1, h2, h3, hb⟩

theorem wrap_neg_neg (m : Nat) (hm : m < 18446744073709551616) : IntKind.u64.wrap (-IntKind.u64.wrap (-(m : Int))) = (m : Int) := by
  rw [IntKind.wrap_u64, IntKind.wrap_u64]; omega

theorem zof_dig (neg : Bool) (n : Nat) : zof neg (val b32 (dig b32 n)) = zof neg n := by rw [val_dig b32_one]

set_option maxHeartbeats 1000000 in
theorem fromInt64_pos (m : Nat) (hm : m < 9223372036854775808) (w : World) :
    Calls Try.prog 15 #[.int .i64 (m : Nat)] w (ZRet w ((m : Nat))) := by
  have t0 := Two.new w (.bool false) (.slice none 0 0) 24
  have HB0 := Lib.hid ((Below.refl w.heap.size w).alloc (Nat.le_refl _) (.cells #[.bool false, .slice none 0 0] 24))
  have hm' : m < 18446744073709551616 := by omega
  go_enter Try.func15, Try.ntmps15
  go_wp2_with fail
  refine (toWords_l m hm' _).mono ?_
  rintro e w2 ⟨A1, c1, rfl, r1, r2, r3, hb2⟩
  have HI := Lib.hid (integer_l false r1 (Dg_dig b32_one m) r2 r3)
  rw [zof_dig] at HI
  have tR2 := t0.to hb2
  have HB := Lib.hid (HB0.out.trans (hb2.mono HB0.out.size))
  clear r1 hb2 t0
  obtain ⟨z, ez⟩ : ∃ z, Hid (zof false m = z) := ⟨_, rfl⟩
  rw [ez.out] at HI
  go_wp2_with fail
  refine HI.out.mono ?_
  rintro e w3 ⟨A3, c3, rfl, s1, s2, s3, hb3⟩
  obtain ⟨q1, q2, q3, q4, q5⟩ := tR2.to hb3
  have S1 := Lib.hid s1
  have HB3 := Lib.hid (HB.out.trans (hb3.mono HB.out.size))
  clear s1 hb3 tR2
  go_wp2
  have tF := (⟨q1, q2, q3, q4, q5⟩ : Two w3 w.heap.size _ _).set (.bool (decide (z < 0))) (.slice A3 (dig b32 z.natAbs).length c3)
  refine bodyPost_ret (v := .agg #[.bool (decide (z < 0)), .slice A3 (dig b32 z.natAbs).length c3]) (by simp [results, Try.f15, go_sem, tF.c0, tF.c1]) rfl ?_
  rw [show ((m : Nat) : Int) = z from by rw [← ez.out]; rfl]
  exact zret_stored ⟨q1, q2, q3, q4, q5⟩ (Nat.le_refl _) S1.out s2 s3 HB3.out

set_option maxHeartbeats 1000000 in
theorem fromInt64_neg (m : Nat) (hm0 : 0 < m) (hm : m ≤ 9223372036854775808) (w : World) :
    Calls Try.prog 15 #[.int .i64 (-(m : Int))] w (ZRet w (-(m : Int))) := by
  have t0 := Two.new w (.bool false) (.slice none 0 0) 24
  have HB0 := Lib.hid ((Below.refl w.heap.size w).alloc (Nat.le_refl _) (.cells #[.bool false, .slice none 0 0] 24))
  have hm' : m < 18446744073709551616 := by omega
  go_enter Try.func15, Try.ntmps15
  go_wp2_with fail
  rw [wrap_neg_neg m hm']
  refine (toWords_l m hm' _).mono ?_
  rintro e w2 ⟨A1, c1, rfl, r1, r2, r3, hb2⟩
  have HI := Lib.hid (integer_l true r1 (Dg_dig b32_one m) r2 r3)
  rw [zof_dig] at HI
  have tR2 := t0.to hb2
  have HB := Lib.hid (HB0.out.trans (hb2.mono HB0.out.size))
  clear r1 hb2 t0
  obtain ⟨z, ez⟩ : ∃ z, Hid (zof true m = z) := ⟨_, rfl⟩
  rw [ez.out] at HI
  go_wp2_with fail
  refine HI.out.mono ?_
  rintro e w3 ⟨A3, c3, rfl, s1, s2, s3, hb3⟩
  obtain ⟨q1, q2, q3, q4, q5⟩ := tR2.to hb3
  have S1 := Lib.hid s1
  have HB3 := Lib.hid (HB.out.trans (hb3.mono HB.out.size))
  clear s1 hb3 tR2
  go_wp2
  have tF := (⟨q1, q2, q3, q4, q5⟩ : Two w3 w.heap.size _ _).set (.bool (decide (z < 0))) (.slice A3 (dig b32 z.natAbs).length c3)
  refine bodyPost_ret (v := .agg #[.bool (decide (z < 0)), .slice A3 (dig b32 z.natAbs).length c3]) (by simp [results, Try.f15, go_sem, tF.c0, tF.c1]) rfl ?_
  rw [show (-(m : Int) : Int) = z from by rw [← ez.out]; rfl]
  exact zret_stored ⟨q1, q2, q3, q4, q5⟩ (Nat.le_refl _) S1.out s2 s3 HB3.out

theorem fromInt64_any (n : Int) (h1 : -9223372036854775808 ≤ n) (h2 : n ≤ 9223372036854775807) (w : World) :
    Calls Try.prog 15 #[.int .i64 n] w (ZRet w n) := by
  rcases Int.lt_or_le n 0 with h | h
  · obtain ⟨m, rfl⟩ : ∃ m : Nat, n = -(m : Int) := ⟨n.natAbs, by omega⟩
    exact fromInt64_neg m (by omega) (by omega) w
  · obtain ⟨m, rfl⟩ := Int.eq_ofNat_of_zero_le h
    exact fromInt64_pos m (by omega) w

/-- The law's own short name for it. -/
theorem n_any (n : Int) (h1 : -9223372036854775808 ≤ n) (h2 : n ≤ 9223372036854775807) (w : World) :
    Calls Try.prog 42 #[.int .i64 n] w (ZRet w n) := by
  have t0 := Two.new w (.bool false) (.slice none 0 0) 24
  have HB0 := Lib.hid ((Below.refl w.heap.size w).alloc (Nat.le_refl _) (.cells #[.bool false, .slice none 0 0] 24))
  have HF := Lib.hid (fromInt64_any n h1 h2)
  clear h1 h2
  go_enter Try.func42, Try.ntmps42
  go_wp2_with fail
  refine (HF.out _).mono ?_
  rintro e w3 ⟨A3, c3, rfl, s1, s2, s3, hb3⟩
  obtain ⟨q1, q2, q3, q4, q5⟩ := t0.to hb3
  have S1 := Lib.hid s1
  have HB3 := Lib.hid (HB0.out.trans (hb3.mono HB0.out.size))
  clear s1 hb3 t0
  go_wp2
  have tF := (⟨q1, q2, q3, q4, q5⟩ : Two w3 w.heap.size _ _).set (.bool (decide (n < 0))) (.slice A3 (dig b32 n.natAbs).length c3)
  refine bodyPost_ret (v := .agg #[.bool (decide (n < 0)), .slice A3 (dig b32 n.natAbs).length c3]) (by simp [results, Try.f42, go_sem, tF.c0, tF.c1]) rfl ?_
  exact zret_stored ⟨q1, q2, q3, q4, q5⟩ (Nat.le_refl _) S1.out s2 s3 HB3.out
end Go.Proofs.Ytlnjnoingiohjaa
