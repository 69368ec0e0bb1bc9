/- pylonref01.Least: an integer in canonical form. -/
import Derived.Test.YtlnjnoingiohjaaOf
import Derived.Test.YtlnjnoingiohjaaFrom
namespace Go.Proofs.Ytlnjnoingiohjaa
open Go.RowKit Go.Shelf

set_option maxRecDepth 100000 in
set_option maxHeartbeats 2000000 in
theorem least_any (n : Bool) {A : Option Addr} {c : Nat} {xs : List Nat} {w : World} (hx : Arg w A c xs) :
    Calls Try.prog 18 #[.agg #[.bool n, .slice A xs.length c]] w (ZRet w (zof n (val b32 xs))) := by
  obtain ⟨W0, hW0⟩ : ∃ W0, W0 = (w.alloc (.cells #[.bool n, .slice A xs.length c] 24)).alloc (.cells #[.bool false, .slice none 0 0] 24) := ⟨_, rfl⟩
  have hb : Below w.heap.size w W0.drew := by rw [hW0]; exact (((Below.refl _ _).alloc (Nat.le_refl _) _).alloc (by simp) _).drew
  have tX : Zat W0.drew w.heap.size (.bool n) (.slice A xs.length c) := by rw [hW0]; exact (Zat.new w _ _).alloc _
  have tR : Zat W0.drew (w.heap.size + 1) (.bool false) (.slice none 0 0) := by
    have h := Zat.new (w.alloc (.cells #[.bool n, .slice A xs.length c] 24)) (.bool false) (.slice none 0 0)
    rw [World.size_alloc] at h
    rw [hW0]; exact h
  have HSM : Hid ((dig b16 (val b32 xs)).length ≤ 8589934592) := by
    have h1 := trimL_dig b16_one (hw_dg hx.dg)
    rw [hw_val] at h1
    have h2 := trimL_le (hw xs)
    have h3 := hx.small
    rw [h1, hw_length] at h2
    show _ ≤ _
    omega
  have HH := Lib.hid (halves_any (hx.to hb))
  have cN : W0.cell? ⟨w.heap.size, 0, none⟩ = some (.bool n) := tX.two.c0
  have cW : W0.cell? ⟨w.heap.size, 1, none⟩ = some (.slice A xs.length c) := tX.two.c1
  have HW0 := Lib.hid hW0
  clear hW0 hx
  go_enter Try.func18, Try.ntmps18
  go_wp2_with fail
  rw [← HW0.out]
  refine wp_region_any (by kernel_rfl) ?_
  refine (show wpAny _ _ _ _ _ _ _ (World.drew _) from ?_)
  refine wpAny_take (i := 0) (v := .pointer (some ⟨w.heap.size, 0, none⟩)) rfl (by kernel_rfl) (by kernel_rfl) (by kernel_rfl) (fun _ _ _ h => h) (Or.inl ⟨by rfl, fun _ => by go_simp⟩) ?_
  refine wpAny_take (i := 2) (v := .pointer (some ⟨w.heap.size, 1, none⟩)) rfl (by kernel_rfl) (by kernel_rfl) (by kernel_rfl) (fun _ _ _ h => h) (Or.inl ⟨by rfl, fun _ => by go_simp⟩) ?_
  refine wpAny_ready (rs := [1, 3]) (by kernel_rfl) (by simp) (AllReady.cons rfl (fun K hK => ?_) (AllReady.cons rfl (fun K hK => ?_) AllReady.nil))
  · go_simp; refine hK _ _ ?_; clear hK K
    refine wpAny_ready (rs := [3]) (by kernel_rfl) (by simp) (AllReady.cons rfl (fun K hK => ?_) AllReady.nil)
    go_simp; refine hK _ _ ?_; clear hK K
    refine wpAny_ready (rs := [4]) (by kernel_rfl) (by simp) (AllReady.cons rfl (fun K hK => ?_) AllReady.nil)
    go_simp
    refine HH.out.mono ?_
    rintro e w2 ⟨A1, c1, rfl, r1, r2, r3, hb2⟩
    have hsm2 : (dig b16 (val b32 xs)).length ≤ 8589934592 := HSM.out
    have HO := Lib.hid (of_any n r1 (Dg_dig b16_one _) r2 r3 hsm2)
    rw [val_dig b16_one] at HO
    have cN2 := (tX.two.to hb2).c0
    have tR2 := tR.two.to hb2
    have HB := Lib.hid (hb.trans (hb2.mono hb.size))
    clear r1 r2 hsm2 hb2
    refine hK _ _ ?_; clear hK K
    refine wpAny_ready (rs := [5]) (by kernel_rfl) (by simp) (AllReady.cons rfl (fun K hK => ?_) AllReady.nil)
    obtain ⟨z, ez⟩ : ∃ z, Hid (zof n (val b32 xs) = z) := ⟨_, rfl⟩
    rw [ez.out] at HO
    go_simp
    refine HO.out.mono ?_
    rintro e w3 ⟨A3, c3, rfl, s1, s2, s3, hb3⟩
    obtain ⟨q1, q2, q3, q4, q5⟩ := tR2.to hb3
    have S1 := Lib.hid s1
    have HB3 := Lib.hid (HB.out.trans (hb3.mono HB.out.size))
    clear s1 hb3 tR2
    refine hK _ _ ?_; clear hK K
    refine wpAny_ready (rs := [6]) (by kernel_rfl) (by simp) (AllReady.cons rfl (fun K hK => ?_) AllReady.nil)
    go_simp; refine hK _ _ ?_; clear hK K
    refine wpAny_done (by kernel_rfl) ?_ _
    go_wp2
    have tF := (⟨q1, q2, q3, q4, q5⟩ : Two w3 (w.heap.size + 1) _ _).set (.bool (decide (z < 0))) (.slice A3 (dig b32 z.natAbs).length c3)
    refine bodyPost_ret (v := .agg #[.bool (decide (z < 0)), .slice A3 (dig b32 z.natAbs).length c3]) (by simp [results, Try.f18, go_sem, tF.c0, tF.c1]) rfl ?_
    rw [ez.out]
    exact zret_stored ⟨q1, q2, q3, q4, q5⟩ (by omega) S1.out s2 s3 HB3.out
  · go_simp; refine hK _ _ ?_; clear hK K
    refine wpAny_ready (rs := [1, 4]) (by kernel_rfl) (by simp) (AllReady.cons rfl (fun K hK => ?_) (AllReady.cons rfl (fun K hK => ?_) AllReady.nil))
    · go_simp; refine hK _ _ ?_; clear hK K
      refine wpAny_ready (rs := [4]) (by kernel_rfl) (by simp) (AllReady.cons rfl (fun K hK => ?_) AllReady.nil)
      go_simp
      refine HH.out.mono ?_
      rintro e w2 ⟨A1, c1, rfl, r1, r2, r3, hb2⟩
      have hsm2 : (dig b16 (val b32 xs)).length ≤ 8589934592 := HSM.out
      have HO := Lib.hid (of_any n r1 (Dg_dig b16_one _) r2 r3 hsm2)
      rw [val_dig b16_one] at HO
      have cN2 := (tX.two.to hb2).c0
      have tR2 := tR.two.to hb2
      have HB := Lib.hid (hb.trans (hb2.mono hb.size))
      clear r1 r2 hsm2 hb2
      refine hK _ _ ?_; clear hK K
      refine wpAny_ready (rs := [5]) (by kernel_rfl) (by simp) (AllReady.cons rfl (fun K hK => ?_) AllReady.nil)
      obtain ⟨z, ez⟩ : ∃ z, Hid (zof n (val b32 xs) = z) := ⟨_, rfl⟩
      rw [ez.out] at HO
      go_simp
      refine HO.out.mono ?_
      rintro e w3 ⟨A3, c3, rfl, s1, s2, s3, hb3⟩
      obtain ⟨q1, q2, q3, q4, q5⟩ := tR2.to hb3
      have S1 := Lib.hid s1
      have HB3 := Lib.hid (HB.out.trans (hb3.mono HB.out.size))
      clear s1 hb3 tR2
      refine hK _ _ ?_; clear hK K
      refine wpAny_ready (rs := [6]) (by kernel_rfl) (by simp) (AllReady.cons rfl (fun K hK => ?_) AllReady.nil)
      go_simp; refine hK _ _ ?_; clear hK K
      refine wpAny_done (by kernel_rfl) ?_ _
      go_wp2
      have tF := (⟨q1, q2, q3, q4, q5⟩ : Two w3 (w.heap.size + 1) _ _).set (.bool (decide (z < 0))) (.slice A3 (dig b32 z.natAbs).length c3)
      refine bodyPost_ret (v := .agg #[.bool (decide (z < 0)), .slice A3 (dig b32 z.natAbs).length c3]) (by simp [results, Try.f18, go_sem, tF.c0, tF.c1]) rfl ?_
      rw [ez.out]
      exact zret_stored ⟨q1, q2, q3, q4, q5⟩ (by omega) S1.out s2 s3 HB3.out
    · go_simp
      refine HH.out.mono ?_
      rintro e w2 ⟨A1, c1, rfl, r1, r2, r3, hb2⟩
      have hsm2 : (dig b16 (val b32 xs)).length ≤ 8589934592 := HSM.out
      have HO := Lib.hid (of_any n r1 (Dg_dig b16_one _) r2 r3 hsm2)
      rw [val_dig b16_one] at HO
      have cN2 := (tX.two.to hb2).c0
      have tR2 := tR.two.to hb2
      have HB := Lib.hid (hb.trans (hb2.mono hb.size))
      clear r1 r2 hsm2 hb2
      refine hK _ _ ?_; clear hK K
      refine wpAny_ready (rs := [1]) (by kernel_rfl) (by simp) (AllReady.cons rfl (fun K hK => ?_) AllReady.nil)
      go_simp; refine hK _ _ ?_; clear hK K
      refine wpAny_ready (rs := [5]) (by kernel_rfl) (by simp) (AllReady.cons rfl (fun K hK => ?_) AllReady.nil)
      obtain ⟨z, ez⟩ : ∃ z, Hid (zof n (val b32 xs) = z) := ⟨_, rfl⟩
      rw [ez.out] at HO
      go_simp
      refine HO.out.mono ?_
      rintro e w3 ⟨A3, c3, rfl, s1, s2, s3, hb3⟩
      obtain ⟨q1, q2, q3, q4, q5⟩ := tR2.to hb3
      have S1 := Lib.hid s1
      have HB3 := Lib.hid (HB.out.trans (hb3.mono HB.out.size))
      clear s1 hb3 tR2
      refine hK _ _ ?_; clear hK K
      refine wpAny_ready (rs := [6]) (by kernel_rfl) (by simp) (AllReady.cons rfl (fun K hK => ?_) AllReady.nil)
      go_simp; refine hK _ _ ?_; clear hK K
      refine wpAny_done (by kernel_rfl) ?_ _
      go_wp2
      have tF := (⟨q1, q2, q3, q4, q5⟩ : Two w3 (w.heap.size + 1) _ _).set (.bool (decide (z < 0))) (.slice A3 (dig b32 z.natAbs).length c3)
      refine bodyPost_ret (v := .agg #[.bool (decide (z < 0)), .slice A3 (dig b32 z.natAbs).length c3]) (by simp [results, Try.f18, go_sem, tF.c0, tF.c1]) rfl ?_
      rw [ez.out]
      exact zret_stored ⟨q1, q2, q3, q4, q5⟩ (by omega) S1.out s2 s3 HB3.out
theorem lo_word (m : Nat) (hm : m < 18446744073709551616) : ((m : Nat) : Int).tmod 4294967296 % 4294967296 = (m : Int) % 4294967296 := by
  rw [Int.tmod_eq_emod_of_nonneg (by omega)]; omega
theorem hi_word (m : Nat) (hm : m < 18446744073709551616) : IntKind.u64.wrap (((m : Nat) : Int).tdiv 4294967296) % 4294967296 = (m : Int) / 4294967296 := by
  rw [Int.tdiv_eq_ediv_of_nonneg (by omega), IntKind.wrap_u64]; omega

set_option maxHeartbeats 1000000 in
theorem from_tail (neg : Bool) (m : Nat) (hm : m < 18446744073709551616) {w W : World} (hb : Below w.heap.size w W) :
    Calls Try.prog 18 #[.agg #[.bool neg, .slice (some ⟨W.heap.size, 0, none⟩) 2 2]] (W.alloc (.cells #[.int .u32 ((m : Int) % 4294967296), .int .u32 ((m : Int) / 4294967296)] 52)) (ZRet (W.alloc (.cells #[.int .u32 ((m : Int) % 4294967296), .int .u32 ((m : Int) / 4294967296)] 52)) (zof neg m)) := by
  have hr := Rd.new .u32 W 52 [m % 4294967296, m / 4294967296]
  have h := least_any neg (A := some ⟨W.heap.size, 0, none⟩) (c := 2) (xs := [m % 4294967296, m / 4294967296]) (w := W.alloc (.cells (ints .u32 [m % 4294967296, m / 4294967296]).toArray 52))
    ⟨hr.more (by simp), two_dg hm, by simp, by omega, by simp⟩
  rw [two_val] at h
  simpa [ints] using h

set_option maxHeartbeats 1000000 in
theorem rfrom_pos (m : Nat) (hm : m < 9223372036854775808) (w : World) :
    Calls Try.prog 16 #[.int .i64 (m : Nat)] w (ZRet w ((m : Nat))) := by
  have t0 := Two.new w (.bool false) (.slice none 0 0) 24
  have HB0 := Lib.hid ((Below.refl w.heap.size w).alloc (Nat.le_refl _) (.cells #[.bool false, .slice none 0 0] 24))
  have hm' : m < 18446744073709551616 := by omega
  have HI := Lib.hid (from_tail false m hm' HB0.out)
  obtain ⟨z, ez⟩ : ∃ z, Hid (zof false m = z) := ⟨_, rfl⟩
  rw [ez.out] at HI
  simp only [World.size_alloc] at HI
  go_enter Try.func16, Try.ntmps16
  go_wp2_with fail
  refine HI.out.mono ?_
  rintro e w3 ⟨A3, c3, rfl, s1, s2, s3, hb3⟩
  obtain ⟨q1, q2, q3, q4, q5⟩ := (t0.alloc _).to hb3
  have S1 := Lib.hid s1
  have HB3 := Lib.hid ((HB0.out.alloc HB0.out.size _).trans (hb3.mono (by simp; omega)))
  clear s1 hb3 t0
  go_wp2
  have tF := (⟨q1, q2, q3, q4, q5⟩ : Two w3 w.heap.size _ _).set (.bool (decide (z < 0))) (.slice A3 (dig b32 z.natAbs).length c3)
  refine bodyPost_ret (v := .agg #[.bool (decide (z < 0)), .slice A3 (dig b32 z.natAbs).length c3]) (by simp [results, Try.f16, go_sem, tF.c0, tF.c1]) rfl ?_
  rw [show ((m : Nat) : Int) = z from by rw [← ez.out]; rfl]
  exact zret_stored ⟨q1, q2, q3, q4, q5⟩ (Nat.le_refl _) S1.out s2 s3 HB3.out

set_option maxHeartbeats 1000000 in
theorem rfrom_neg (m : Nat) (hm0 : 0 < m) (hm : m ≤ 9223372036854775808) (w : World) :
    Calls Try.prog 16 #[.int .i64 (-(m : Int))] w (ZRet w (-(m : Int))) := by
  have t0 := Two.new w (.bool false) (.slice none 0 0) 24
  have HB0 := Lib.hid ((Below.refl w.heap.size w).alloc (Nat.le_refl _) (.cells #[.bool false, .slice none 0 0] 24))
  have hm' : m < 18446744073709551616 := by omega
  have HI := Lib.hid (from_tail true m hm' HB0.out)
  obtain ⟨z, ez⟩ : ∃ z, Hid (zof true m = z) := ⟨_, rfl⟩
  rw [ez.out] at HI
  simp only [World.size_alloc] at HI
  go_enter Try.func16, Try.ntmps16
  go_wp2_with fail
  rw [wrap_neg_neg m hm', lo_word m hm', hi_word m hm']
  refine HI.out.mono ?_
  rintro e w3 ⟨A3, c3, rfl, s1, s2, s3, hb3⟩
  obtain ⟨q1, q2, q3, q4, q5⟩ := (t0.alloc _).to hb3
  have S1 := Lib.hid s1
  have HB3 := Lib.hid ((HB0.out.alloc HB0.out.size _).trans (hb3.mono (by simp; omega)))
  clear s1 hb3 t0
  go_wp2
  have tF := (⟨q1, q2, q3, q4, q5⟩ : Two w3 w.heap.size _ _).set (.bool (decide (z < 0))) (.slice A3 (dig b32 z.natAbs).length c3)
  refine bodyPost_ret (v := .agg #[.bool (decide (z < 0)), .slice A3 (dig b32 z.natAbs).length c3]) (by simp [results, Try.f16, go_sem, tF.c0, tF.c1]) rfl ?_
  rw [show (-(m : Int) : Int) = z from by rw [← ez.out]; rfl]
  exact zret_stored ⟨q1, q2, q3, q4, q5⟩ (Nat.le_refl _) S1.out s2 s3 HB3.out

theorem rfrom_any (n : Int) (h1 : -9223372036854775808 ≤ n) (h2 : n ≤ 9223372036854775807) (w : World) :
    Calls Try.prog 16 #[.int .i64 n] w (ZRet w n) := by
  rcases Int.lt_or_le n 0 with h | h
  · obtain ⟨m, rfl⟩ : ∃ m : Nat, n = -(m : Int) := ⟨n.natAbs, by omega⟩
    exact rfrom_neg m (by omega) (by omega) w
  · obtain ⟨m, rfl⟩ := Int.eq_ofNat_of_zero_le h
    exact rfrom_pos m (by omega) w
end Go.Proofs.Ytlnjnoingiohjaa
