/- pylonlaw01.is: an integer in canonical form is a given int64. -/
import Derived.Test.YtlnjnoingiohjaaLeast
import Derived.Test.YtlnjnoingiohjaaSame
namespace Go.Proofs.Ytlnjnoingiohjaa
open Go.RowKit Go.Shelf

theorem same_iff (z v : Int) : decide (decide (z < 0) = decide (v < 0) ∧ dig b32 z.natAbs = dig b32 v.natAbs) = decide (z = v) := by
  by_cases h : z = v
  · subst h; simp
  · rw [decide_eq_false h, decide_eq_false]
    rintro ⟨h1, h2⟩
    have h3 := dig_inj b32_one h2
    by_cases hz : z < 0
    · have : v < 0 := by simpa [hz] using h1
      omega
    · have : ¬ v < 0 := by simpa [hz] using h1
      omega

set_option maxRecDepth 100000 in
set_option maxHeartbeats 2000000 in
theorem is_any {z v : Int} {A : Option Addr} {c : Nat} {w : World} (hr : Rd .u32 w w.heap.size A (dig b32 z.natAbs)) (hc : (dig b32 z.natAbs).length ≤ c) (hc63 : c ≤ 9223372036854775807) (h1 : -9223372036854775808 ≤ v) (h2 : v ≤ 9223372036854775807) :
    Calls Try.prog 43 #[.agg #[.bool (decide (z < 0)), .slice A (dig b32 z.natAbs).length c], .int .i64 v] w fun e w' => e = .returned (.bool (decide (z = v))) ∧ Below w.heap.size w w' := by
  obtain ⟨W0, hW0⟩ : ∃ W0, W0 = w.alloc (.cells #[.bool (decide (z < 0)), .slice A (dig b32 z.natAbs).length c] 24) := ⟨_, rfl⟩
  have hb : Below w.heap.size w W0.drew := by rw [hW0]; exact ((Below.refl _ _).alloc (Nat.le_refl _) _).drew
  have tX : Zat W0.drew w.heap.size (.bool (decide (z < 0))) (.slice A (dig b32 z.natAbs).length c) := by rw [hW0]; exact Zat.new w _ _
  have HF := Lib.hid (rfrom_any v h1 h2 W0.drew)
  have c0 : W0.cell? ⟨w.heap.size, 0, none⟩ = some (.bool (decide (z < 0))) := tX.two.c0
  have c1 : W0.cell? ⟨w.heap.size, 1, none⟩ = some (.slice A (dig b32 z.natAbs).length c) := tX.two.c1
  have HW0 := Lib.hid hW0
  clear hW0 h1 h2
  go_enter Try.func43, Try.ntmps43
  go_wp2_with fail
  rw [← HW0.out]
  refine wp_region_any (by kernel_rfl) ?_
  refine (show wpAny _ _ _ _ _ _ _ (World.drew _) from ?_)
  refine wpAny_take (i := 1) (v := .int .i64 v) rfl (by kernel_rfl) (by kernel_rfl) (by kernel_rfl) (fun _ _ _ h => h) (Or.inl ⟨by rfl, fun _ => by go_simp⟩) ?_
  refine wpAny_ready (rs := [0, 2]) (by kernel_rfl) (by simp) (AllReady.cons rfl (fun K hK => ?_) (AllReady.cons rfl (fun K hK => ?_) AllReady.nil))
  · go_simp; refine hK _ _ ?_; clear hK K
    refine wpAny_ready (rs := [2]) (by kernel_rfl) (by simp) (AllReady.cons rfl (fun K hK => ?_) AllReady.nil)
    go_simp
    refine HF.out.mono ?_
    rintro e w2 ⟨A1, c1, rfl, r1, r2, r3, hb2⟩
    have HS := Lib.hid (same_any (decide (z < 0)) (decide (v < 0)) ((hr.to hb).to hb2) r1 hc hc63 r2 r3)
    rw [same_iff z v] at HS
    have tX2 := tX.two.to hb2
    have cA := tX2.c0
    have cB := tX2.c1
    have HB := Lib.hid (hb.trans (hb2.mono hb.size))
    clear r1 hb2 tX2
    refine hK _ _ ?_; clear hK K
    refine wpAny_ready (rs := [3]) (by kernel_rfl) (by simp) (AllReady.cons rfl (fun K hK => ?_) AllReady.nil)
    go_simp
    refine HS.out.mono ?_
    rintro e w3 ⟨rfl, hb3⟩
    have HB3 := Lib.hid (HB.out.trans (hb3.mono HB.out.size))
    clear hb3
    refine hK _ _ ?_; clear hK K
    refine wpAny_ready (rs := [4]) (by kernel_rfl) (by simp) (AllReady.cons rfl (fun K hK => ?_) AllReady.nil)
    go_simp; refine hK _ _ ?_; clear hK K
    refine wpAny_done (by kernel_rfl) ?_ _
    go_wp2
    go_ret
    exact ⟨rfl, HB3.out⟩
  · go_simp
    refine HF.out.mono ?_
    rintro e w2 ⟨A1, c1, rfl, r1, r2, r3, hb2⟩
    have HS := Lib.hid (same_any (decide (z < 0)) (decide (v < 0)) ((hr.to hb).to hb2) r1 hc hc63 r2 r3)
    rw [same_iff z v] at HS
    have tX2 := tX.two.to hb2
    have cA := tX2.c0
    have cB := tX2.c1
    have HB := Lib.hid (hb.trans (hb2.mono hb.size))
    clear r1 hb2 tX2
    refine hK _ _ ?_; clear hK K
    refine wpAny_ready (rs := [0]) (by kernel_rfl) (by simp) (AllReady.cons rfl (fun K hK => ?_) AllReady.nil)
    go_simp; refine hK _ _ ?_; clear hK K
    refine wpAny_ready (rs := [3]) (by kernel_rfl) (by simp) (AllReady.cons rfl (fun K hK => ?_) AllReady.nil)
    go_simp
    refine HS.out.mono ?_
    rintro e w3 ⟨rfl, hb3⟩
    have HB3 := Lib.hid (HB.out.trans (hb3.mono HB.out.size))
    clear hb3
    refine hK _ _ ?_; clear hK K
    refine wpAny_ready (rs := [4]) (by kernel_rfl) (by simp) (AllReady.cons rfl (fun K hK => ?_) AllReady.nil)
    go_simp; refine hK _ _ ?_; clear hK K
    refine wpAny_done (by kernel_rfl) ?_ _
    go_wp2
    go_ret
    exact ⟨rfl, HB3.out⟩
end Go.Proofs.Ytlnjnoingiohjaa
