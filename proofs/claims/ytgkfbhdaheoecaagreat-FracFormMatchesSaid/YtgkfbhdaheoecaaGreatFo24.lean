/- Parts: 3. -/
import Derived.Test.YtgkfbhdaheoecaaGreatFo5
import Derived.Test.YtgkfbhdaheoecaaGreatFo17
import Derived.Test.YtgkfbhdaheoecaaGreatFo23
import Derived.Below
import Derived.ChangeOld
import Derived.Laws.EntriesVeiled
import Derived.Lib.SmallJoins
import Derived.OpenShut
import Derived.ProofKit
import Derived.ShutString
import Derived.WalkKit
set_option linter.unusedVariables false
set_option linter.unusedSimpArgs false
set_option maxRecDepth 100000
set_option maxHeartbeats 40000000

namespace Go.Proofs.YtgkfbhdaheoecaaGreat
open Go.RowKit Go.Shelf

theorem sm2_i64 {n : Int} (h1 : -9223372036854775808 <= n) (h2 : n <= 9223372036854775807) : Sm 2 n := by
  have h : b32 ^ 2 = 18446744073709551616 := by decide
  unfold Sm
  omega
theorem qc_int {w : World} {x y : Value} {z : Int} (h : Zc w x y z) : Qc w x y (.bool false) (.slice none 0 0) ((z : Int) : Rat) :=
  ⟨h, by rw [show ((z : Int) : Rat).den = 1 from rfl, if_pos rfl]; exact Zc.zero _⟩


theorem form_longA {a1 a2 a3 a4 z1 z2 : Value} {n d : Int} {w : World} 
    (hL : ∀ (V : World) (g : Nat), V.heap[g]? = some (.cells #[a1, a2, a3, a4] 26 (0, 0)) -> Calls Tryz.prog 4 #[.slice (some ⟨g, 0, none⟩) 1 1] V fun e w' => e = .returned (.bool true) /\ Below V.heap.size V w')
     :
    Calls Tryz.prog 3 #[.agg #[a1, a2, a3, a4], .int .i64 n, .int .i64 d, .agg #[z1, z2]] w fun e w' => e = .returned (.bool true) /\ Below w.heap.size w w' := by
  obtain ⟨W0, hW0⟩ : ∃ W0, W0 = ((w.alloc (.cells #[a1, a2, a3, a4] 26)).alloc (.cells #[z1, z2] 24)).alloc (.cells #[a1, a2, a3, a4] 26) := ⟨_, rfl⟩
  have hb : Below w.heap.size w W0 := by rw [hW0]; exact (((Below.refl _ _).alloc (Nat.le_refl _) _).alloc (by simp) _).alloc (by simp; omega) _
  have tA : Four W0 w.heap.size a1 a2 a3 a4 := by rw [hW0]; exact ((Four.new w _ _ _ _ _).alloc _).alloc _
  have tZ : Two W0 (w.heap.size + 1) z1 z2 := by
    have h := Two.new (w.alloc (.cells #[a1, a2, a3, a4] 26)) z1 z2 24
    rw [World.size_alloc] at h
    rw [hW0]; exact h.alloc _
  have HL : Hid (Calls Tryz.prog 4 #[.slice (some ⟨w.heap.size + 1 + 1, 0, none⟩) 1 1] W0 fun e w' => e = .returned (.bool true) /\ Below W0.heap.size W0 w') := by
    have h := World.alloc_heap_new ((w.alloc (.cells #[a1, a2, a3, a4] 26)).alloc (.cells #[z1, z2] 24)) (.cells #[a1, a2, a3, a4] 26)
    rw [World.size_alloc, World.size_alloc, <- hW0] at h
    exact hL W0 (w.heap.size + 1 + 1) h
  have HW0 := Lib.hid hW0
  have HB0 := Lib.hid hb
  clear hL hW0 hb
  go_enter Tryz.func3, Tryz.ntmps3
  go_wp2_with fail
  rw [<- HW0.out]
  clear HW0
  refine HL.out.mono ?_
  rintro e W1 ⟨rfl, bb⟩
  clear HL
  replace tA := tA.to bb
  replace tZ := tZ.to bb
  replace HB0 := Lib.hid (HB0.out.trans (bb.mono HB0.out.size))
  clear bb
  have k0 := tZ.c0
  have k1 := tZ.c1
  go_wp2_with fail
  refine (falive_any _).mono ?_
  rintro e w' ⟨rfl, b⟩
  have HE := Lib.hid (HB0.out.trans (b.mono HB0.out.size))
  clear b HB0 k0 k1 tA tZ
  go_wp2
  go_ret
  exact ⟨rfl, HE.out⟩

theorem form_longZ {a1 a2 a3 a4 z1 z2 : Value} {n d : Int} {w : World} 
    (hL : ∀ (V : World) (g : Nat), V.heap[g]? = some (.cells #[a1, a2, a3, a4] 26 (0, 0)) -> Calls Tryz.prog 4 #[.slice (some ⟨g, 0, none⟩) 1 1] V fun e w' => e = .returned (.bool false) /\ Below V.heap.size V w')
    (hM : ∀ (V : World) (g : Nat), V.cell? ⟨g, 1, none⟩ = some z2 -> Calls Tryz.prog 5 #[.slice (some ⟨g, 0, none⟩) 1 1] V fun e w' => e = .returned (.bool true) /\ w' = V) :
    Calls Tryz.prog 3 #[.agg #[a1, a2, a3, a4], .int .i64 n, .int .i64 d, .agg #[z1, z2]] w fun e w' => e = .returned (.bool true) /\ Below w.heap.size w w' := by
  obtain ⟨W0, hW0⟩ : ∃ W0, W0 = ((w.alloc (.cells #[a1, a2, a3, a4] 26)).alloc (.cells #[z1, z2] 24)).alloc (.cells #[a1, a2, a3, a4] 26) := ⟨_, rfl⟩
  have hb : Below w.heap.size w W0 := by rw [hW0]; exact (((Below.refl _ _).alloc (Nat.le_refl _) _).alloc (by simp) _).alloc (by simp; omega) _
  have tA : Four W0 w.heap.size a1 a2 a3 a4 := by rw [hW0]; exact ((Four.new w _ _ _ _ _).alloc _).alloc _
  have tZ : Two W0 (w.heap.size + 1) z1 z2 := by
    have h := Two.new (w.alloc (.cells #[a1, a2, a3, a4] 26)) z1 z2 24
    rw [World.size_alloc] at h
    rw [hW0]; exact h.alloc _
  have HL : Hid (Calls Tryz.prog 4 #[.slice (some ⟨w.heap.size + 1 + 1, 0, none⟩) 1 1] W0 fun e w' => e = .returned (.bool false) /\ Below W0.heap.size W0 w') := by
    have h := World.alloc_heap_new ((w.alloc (.cells #[a1, a2, a3, a4] 26)).alloc (.cells #[z1, z2] 24)) (.cells #[a1, a2, a3, a4] 26)
    rw [World.size_alloc, World.size_alloc, <- hW0] at h
    exact hL W0 (w.heap.size + 1 + 1) h
  have HW0 := Lib.hid hW0
  have HB0 := Lib.hid hb
  clear hL hW0 hb
  have HM := Lib.hid hM
  clear hM
  go_enter Tryz.func3, Tryz.ntmps3
  go_wp2_with fail
  rw [<- HW0.out]
  clear HW0
  refine HL.out.mono ?_
  rintro e W1 ⟨rfl, bb⟩
  clear HL
  replace tA := tA.to bb
  replace tZ := tZ.to bb
  replace HB0 := Lib.hid (HB0.out.trans (bb.mono HB0.out.size))
  clear bb
  have k0 := tZ.c0
  have k1 := tZ.c1
  go_wp2_with fail
  obtain ⟨W2, hW2⟩ : ∃ W, W = W1.alloc (.cells #[z1, z2] 24) := ⟨_, rfl⟩
  have bb : Below W1.heap.size W1 W2 := by rw [hW2]; exact (Below.refl _ _).alloc (Nat.le_refl _) _
  have hc : W2.cell? ⟨W1.heap.size, 1, none⟩ = some z2 := by
    have h := (Two.new W1 z1 z2 24).c1
    rw [hW2]; exact h
  have HM2 := Lib.hid (HM.out W2 W1.heap.size hc)
  replace tA := tA.to bb
  replace tZ := tZ.to bb
  replace HB0 := Lib.hid (HB0.out.trans (bb.mono HB0.out.size))
  rw [<- hW2]
  clear hW2 bb hc HM k0 k1
  refine HM2.out.mono ?_
  rintro e W3 ⟨rfl, rfl⟩
  clear HM2
  go_wp2_with fail
  refine (falive_any _).mono ?_
  rintro e w' ⟨rfl, b⟩
  have HE := Lib.hid (HB0.out.trans (b.mono HB0.out.size))
  clear b HB0 tA tZ
  go_wp2
  go_ret
  exact ⟨rfl, HE.out⟩

theorem form_core0 {a1 a2 a3 a4 z1 z2 : Value} {n d : Int} {nz : Int} {b1 b2 : Bool} {xs1 xs2 : List Nat} {w : World} (h1 : Qx w a1 a2 a3 a4 b1 xs1 b2 xs2) (h2 : Zl w z1 z2 nz) (mZ : Sm 12 nz) (l1 : xs1.length <= 6) (l2 : xs2.length <= 6) (n1 : -9223372036854775808 <= n) (n2 : n <= 9223372036854775807) (d1 : -9223372036854775808 <= d) (d2 : d <= 9223372036854775807) (hd : d = 0)
    (hL : ∀ (V : World) (g : Nat), V.heap[g]? = some (.cells #[a1, a2, a3, a4] 26 (0, 0)) -> Calls Tryz.prog 4 #[.slice (some ⟨g, 0, none⟩) 1 1] V fun e w' => e = .returned (.bool false) /\ Below V.heap.size V w')
    (hM : ∀ (V : World) (g : Nat), V.cell? ⟨g, 1, none⟩ = some z2 -> Calls Tryz.prog 5 #[.slice (some ⟨g, 0, none⟩) 1 1] V fun e w' => e = .returned (.bool false) /\ w' = V) :
    Calls Tryz.prog 3 #[.agg #[a1, a2, a3, a4], .int .i64 n, .int .i64 d, .agg #[z1, z2]] w fun e w' => e = .returned (.bool true) /\ Below w.heap.size w w' := by
  obtain ⟨a, ha⟩ : ∃ a, rv (zof b1 (val b32 xs1)) (zof b2 (val b32 xs2)) = a := ⟨_, rfl⟩
  obtain ⟨F, hF⟩ : ∃ F, formQ b1 xs1 b2 xs2 = F := ⟨_, rfl⟩
  have qa : ∀ {V : World} {c1 c2 c3 c4 : Value}, Qx V c1 c2 c3 c4 b1 xs1 b2 xs2 -> Qi V c1 c2 c3 c4 a 6 := fun h => ha ▸ h.qi l1 l2 (by decide)
  have mA : Qm 6 a := (qa h1).qm (by decide)
  have OA : Hid (∀ {V : World} {c1 c2 c3 c4 : Value}, Qx V c1 c2 c3 c4 b1 xs1 b2 xs2 -> Calls Tryz.prog 7 #[.agg #[c1, c2, c3, c4]] V fun e w' => ∃ a b c d, e = .returned (.agg #[a, b, c, d]) /\ Qx w' a b c d b1 xs1 b2 xs2 /\ Below V.heap.size V w') := fun h => own_q h (by omega) (by omega)
  have CF : Hid (∀ {V : World} {c1 c2 c3 c4 : Value}, Qx V c1 c2 c3 c4 b1 xs1 b2 xs2 -> Calls Tryz.prog 13 #[.agg #[c1, c2, c3, c4]] V fun e w' => e = .returned (.bool F) /\ Below V.heap.size V w') := fun h => isCan_f h (by omega) (by omega) hF
  have IF : Hid (∀ {V : World} {c1 c2 c3 c4 e1 e2 e3 e4 : Value}, Qx V c1 c2 c3 c4 b1 xs1 b2 xs2 -> Qc V e1 e2 e3 e4 a -> Calls Tryz.prog 9 #[.agg #[c1, c2, c3, c4], .agg #[e1, e2, e3, e4]] V fun e w' => e = .returned (.bool F) /\ Below V.heap.size V w') := fun h hB => is_f h (ha ▸ hB) hF
  have QA : Hid (∀ {V : World} {c1 c2 c3 c4 : Value}, Qx V c1 c2 c3 c4 b1 xs1 b2 xs2 -> Qi V c1 c2 c3 c4 a 6) := @qa
  have FN : Hid (∀ V, Calls Tryz.prog 14 #[.int .i64 n] V (QR V (n : Rat))) := fun V => fromInt_q n n1 n2 V
  have IN : Hid (∀ V, Calls Tryz.prog 15 #[.int .i64 n] V (QR V (n : Rat))) := fun V => rint_q n n1 n2 V
  have sZ : Hid (Sg nz) := mZ.sg (by decide)
  have mN : Qm 2 ((n : Int) : Rat) := Qm.int (sm2_i64 n1 n2) (by decide)
  have mZq : Qm 12 ((nz : Int) : Rat) := Qm.int mZ (by decide)
  have sF : Hid (Sg a.floor) := by
    show Sg _
    rw [Rat.floor_def]
    exact (mA.1.le (Int.natAbs_ediv_le_natAbs _ _)).sg (by decide)
  subst hd
  have NW : Hid (∀ V, Calls Tryz.prog 8 #[.int .i64 n, .int .i64 0] V fun e w' => e = .returned (.tuple #[.agg #[.bool false, .slice none 0 0, .bool false, .slice none 0 0], .int .i64 7]) /\ Below V.heap.size V w') := fun V => new_zero n V
  clear ha hF l1 l2 qa n1 n2 d1 d2
  obtain ⟨W0, hW0⟩ : ∃ W0, W0 = ((w.alloc (.cells #[a1, a2, a3, a4] 26)).alloc (.cells #[z1, z2] 24)).alloc (.cells #[a1, a2, a3, a4] 26) := ⟨_, rfl⟩
  have hb : Below w.heap.size w W0 := by rw [hW0]; exact (((Below.refl _ _).alloc (Nat.le_refl _) _).alloc (by simp) _).alloc (by simp; omega) _
  have tA : Four W0 w.heap.size a1 a2 a3 a4 := by rw [hW0]; exact ((Four.new w _ _ _ _ _).alloc _).alloc _
  have tZ : Two W0 (w.heap.size + 1) z1 z2 := by
    have h := Two.new (w.alloc (.cells #[a1, a2, a3, a4] 26)) z1 z2 24
    rw [World.size_alloc] at h
    rw [hW0]; exact h.alloc _
  have xA := h1.to hb
  have xZ := h2.to hb
  have HL : Hid (Calls Tryz.prog 4 #[.slice (some ⟨w.heap.size + 1 + 1, 0, none⟩) 1 1] W0 fun e w' => e = .returned (.bool false) /\ Below W0.heap.size W0 w') := by
    have h := World.alloc_heap_new ((w.alloc (.cells #[a1, a2, a3, a4] 26)).alloc (.cells #[z1, z2] 24)) (.cells #[a1, a2, a3, a4] 26)
    rw [World.size_alloc, World.size_alloc, <- hW0] at h
    exact hL W0 (w.heap.size + 1 + 1) h
  have HW0 := Lib.hid hW0
  have HB0 := Lib.hid hb
  clear hL hW0 hb h1 h2
  have HM := Lib.hid hM
  clear hM
  go_enter Tryz.func3, Tryz.ntmps3
  go_wp2_with fail
  rw [<- HW0.out]
  clear HW0
  refine HL.out.mono ?_
  rintro e W1 ⟨rfl, bb⟩
  clear HL
  replace tA := tA.to bb
  replace tZ := tZ.to bb
  replace xA := xA.to bb
  replace xZ := xZ.to bb
  replace HB0 := Lib.hid (HB0.out.trans (bb.mono HB0.out.size))
  clear bb
  have k0 := tZ.c0
  have k1 := tZ.c1
  go_wp2_with fail
  obtain ⟨W2, hW2⟩ : ∃ W, W = W1.alloc (.cells #[z1, z2] 24) := ⟨_, rfl⟩
  have bb : Below W1.heap.size W1 W2 := by rw [hW2]; exact (Below.refl _ _).alloc (Nat.le_refl _) _
  have hc : W2.cell? ⟨W1.heap.size, 1, none⟩ = some z2 := by
    have h := (Two.new W1 z1 z2 24).c1
    rw [hW2]; exact h
  have HM2 := Lib.hid (HM.out W2 W1.heap.size hc)
  replace tA := tA.to bb
  replace tZ := tZ.to bb
  replace xA := xA.to bb
  replace xZ := xZ.to bb
  replace HB0 := Lib.hid (HB0.out.trans (bb.mono HB0.out.size))
  rw [<- hW2]
  clear hW2 bb hc HM k0 k1
  refine HM2.out.mono ?_
  rintro e W3 ⟨rfl, rfl⟩
  clear HM2
  have k0 := tA.c0
  have k1 := tA.c1
  have k2 := tA.c2
  have k3 := tA.c3
  go_wp2_with fail
  refine (OA.out xA).mono ?_
  rintro e VX ⟨_, _, _, _, rfl, xX, bb⟩
  clear k0 k1 k2 k3
  replace tA := tA.to bb
  replace tZ := tZ.to bb
  replace xA := xA.to bb
  replace xZ := xZ.to bb
  replace HB0 := Lib.hid (HB0.out.trans (bb.mono HB0.out.size))
  clear bb
  obtain ⟨⟨nX1, AX1, jX1, mX1, rfl, rfl⟩, ⟨nX2, AX2, jX2, mX2, rfl, rfl⟩⟩ := xX.fq
  have tX := Four.new VX (.bool nX1) (.slice AX1 jX1 mX1) (.bool nX2) (.slice AX2 jX2 mX2) 26
  have bb := (Below.refl VX.heap.size VX).alloc (Nat.le_refl _) (.cells #[.bool nX1, .slice AX1 jX1 mX1, .bool nX2, .slice AX2 jX2 mX2] 26)
  replace xX := xX.to bb
  replace tA := tA.to bb
  replace tZ := tZ.to bb
  replace xA := xA.to bb
  replace xZ := xZ.to bb
  replace HB0 := Lib.hid (HB0.out.trans (bb.mono HB0.out.size))
  clear bb
  go_wp2_with fail
  obtain ⟨WX, hWX⟩ : ∃ W, W = VX.alloc (.cells #[.bool nX1, .slice AX1 jX1 mX1, .bool nX2, .slice AX2 jX2 mX2] 26) := ⟨_, rfl⟩
  obtain ⟨gX, hgX⟩ : ∃ g, g = VX.heap.size := ⟨_, rfl⟩
  rw [<- hWX, <- hgX]
  rw [<- hWX, <- hgX] at tX
  rw [<- hWX] at HB0 tA tZ xA xZ xX
  clear hWX hgX
  refine (NW.out _).mono ?_
  rintro e VO ⟨rfl, bb⟩
  replace tA := tA.to bb
  replace tZ := tZ.to bb
  replace tX := tX.to bb
  replace xA := xA.to bb
  replace xZ := xZ.to bb
  replace xX := xX.to bb
  replace HB0 := Lib.hid (HB0.out.trans (bb.mono HB0.out.size))
  clear bb
  have tO := Four.new VO (.bool false) (.slice none 0 0) (.bool false) (.slice none 0 0) 26
  have bb := (Below.refl VO.heap.size VO).alloc (Nat.le_refl _) (.cells #[.bool false, .slice none 0 0, .bool false, .slice none 0 0] 26)
  replace tA := tA.to bb
  replace tZ := tZ.to bb
  replace tX := tX.to bb
  replace xA := xA.to bb
  replace xZ := xZ.to bb
  replace xX := xX.to bb
  replace HB0 := Lib.hid (HB0.out.trans (bb.mono HB0.out.size))
  clear bb
  go_wp2_with fail
  obtain ⟨WO, hWO⟩ : ∃ W, W = VO.alloc (.cells #[.bool false, .slice none 0 0, .bool false, .slice none 0 0] 26) := ⟨_, rfl⟩
  obtain ⟨gO, hgO⟩ : ∃ g, g = VO.heap.size := ⟨_, rfl⟩
  rw [<- hWO, <- hgO]
  rw [<- hWO, <- hgO] at tO
  rw [<- hWO] at HB0 tA tZ tX xA xZ xX
  clear hWO hgO
  have cO : Qc WO (.bool false) (.slice none 0 0) (.bool false) (.slice none 0 0) 0 := ⟨Zc.zero _, Zc.zero _⟩
  have mO : Qm 2 (0 : Rat) := by refine ⟨?_, ?_⟩ <;> (unfold Sm; decide)
  have VA : Qb WO _ _ _ _ _ a 6 := ⟨tA, QA.out xA⟩
  clear tA
  have VX : Qb WO _ _ _ _ _ a 6 := ⟨tX, QA.out xX⟩
  clear tX
  have VO : Qb WO _ _ _ _ _ 0 2 := ⟨tO, cO.qi mO (by decide)⟩
  clear tO
  obtain ⟨W4, hW4⟩ : ∃ W, W = WO := ⟨_, rfl⟩
  subst hW4
  refine wp_region_plan (S := fun w' => Below W4.heap.size W4 w') [(0, true), (1, true), (2, true), (3, true), (4, true), (5, true), (6, true), (7, true), (8, true), (9, true), (10, true), (11, true), (12, true), (13, true), (14, true), (15, false), (16, true), (17, true), (18, true), (19, true), (20, true), (21, true), (22, true), (23, true), (24, true), (25, true), (26, true), (27, true), (28, true), (29, true), (30, true), (31, true), (32, true)] (by kernel_rfl) (by kernel_rfl) (Below.refl _ _).drew ?_
  have HB := (Below.refl W4.heap.size W4).drew
  refine plan_take (v := ?_) rfl (by rfl) ?_ ?_; rotate_left; (focus (intro w' _; go_simp; try with_reducible rfl)); simp only [Act.put, List.setIfInBounds_toArray, List.set_cons_zero, List.set_cons_succ]
  refine plan_take (v := ?_) rfl (by rfl) ?_ ?_; rotate_left; (focus (intro w' _; go_simp; try with_reducible rfl)); simp only [Act.put, List.setIfInBounds_toArray, List.set_cons_zero, List.set_cons_succ]
  refine plan_take (v := ?_) rfl (by rfl) ?_ ?_; rotate_left; (focus (intro w' _; go_simp; try with_reducible rfl)); simp only [Act.put, List.setIfInBounds_toArray, List.set_cons_zero, List.set_cons_succ]
  refine plan_take (v := ?_) rfl (by rfl) ?_ ?_; rotate_left; (focus (intro w' _; go_simp; try with_reducible rfl)); simp only [Act.put, List.setIfInBounds_toArray, List.set_cons_zero, List.set_cons_succ]
  refine plan_take (v := ?_) rfl (by rfl) ?_ ?_; rotate_left; (focus (intro w' _; go_simp; try with_reducible rfl)); simp only [Act.put, List.setIfInBounds_toArray, List.set_cons_zero, List.set_cons_succ]
  refine plan_take (v := ?_) rfl (by rfl) ?_ ?_; rotate_left; (focus (intro w' _; go_simp; try with_reducible rfl)); simp only [Act.put, List.setIfInBounds_toArray, List.set_cons_zero, List.set_cons_succ]
  refine plan_take (v := ?_) rfl (by rfl) ?_ ?_; rotate_left; (focus (intro w' _; go_simp; try with_reducible rfl)); simp only [Act.put, List.setIfInBounds_toArray, List.set_cons_zero, List.set_cons_succ]
  refine plan_take (v := ?_) rfl (by rfl) ?_ ?_; rotate_left; (focus (intro w' _; go_simp; try with_reducible rfl)); simp only [Act.put, List.setIfInBounds_toArray, List.set_cons_zero, List.set_cons_succ]
  refine plan_take (v := ?_) rfl (by rfl) ?_ ?_; rotate_left; (focus (intro w' _; go_simp; try with_reducible rfl)); simp only [Act.put, List.setIfInBounds_toArray, List.set_cons_zero, List.set_cons_succ]
  refine plan_take (v := ?_) rfl (by rfl) ?_ ?_; rotate_left; (focus (intro w' _; go_simp; try with_reducible rfl)); simp only [Act.put, List.setIfInBounds_toArray, List.set_cons_zero, List.set_cons_succ]
  refine plan_take (v := ?_) rfl (by rfl) ?_ ?_; rotate_left; (focus (intro w' _; go_simp; try with_reducible rfl)); simp only [Act.put, List.setIfInBounds_toArray, List.set_cons_zero, List.set_cons_succ]
  refine plan_take (v := ?_) rfl (by rfl) ?_ ?_; rotate_left; (focus (intro w' _; go_simp; try with_reducible rfl)); simp only [Act.put, List.setIfInBounds_toArray, List.set_cons_zero, List.set_cons_succ]
  refine plan_take (v := ?_) rfl (by rfl) ?_ ?_; rotate_left; (focus (intro w' _; go_simp; try with_reducible rfl)); simp only [Act.put, List.setIfInBounds_toArray, List.set_cons_zero, List.set_cons_succ]
  refine plan_take rfl (by rfl) (fun w' hS => load_four (by rfl) (VO.four.to hS)) ?_; simp only [Act.put, List.setIfInBounds_toArray, List.set_cons_zero, List.set_cons_succ]
  refine plan_take (v := ?_) rfl (by rfl) ?_ ?_; rotate_left; (focus (intro w' _; go_simp; try with_reducible rfl)); simp only [Act.put, List.setIfInBounds_toArray, List.set_cons_zero, List.set_cons_succ]
  refine plan_call rfl (by rfl) (fun K hK => ?_)
  go_simp
  refine (is_q (cO.to HB) (⟨Zc.zero _, Zc.zero _⟩ : Qc _ _ _ _ _ (0 : Rat)) (v := true) (decide_eq_true rfl)).mono ?_
  rintro e V ⟨rfl, bb⟩
  replace HB := HB.trans (bb.mono HB.size)
  refine hK.out _ _ HB ?_
  clear hK K bb
  refine plan_take (v := ?_) rfl (by rfl) ?_ ?_; rotate_left; (focus (intro w' _; go_simp; try with_reducible rfl)); simp only [Act.put, List.setIfInBounds_toArray, List.set_cons_zero, List.set_cons_succ]
  refine plan_take (v := ?_) rfl (by rfl) ?_ ?_; rotate_left; (focus (intro w' _; go_simp; try with_reducible rfl)); simp only [Act.put, List.setIfInBounds_toArray, List.set_cons_zero, List.set_cons_succ]
  refine plan_take (v := ?_) rfl (by rfl) ?_ ?_; rotate_left; (focus (intro w' _; go_simp; try with_reducible rfl)); simp only [Act.put, List.setIfInBounds_toArray, List.set_cons_zero, List.set_cons_succ]
  refine plan_take (v := ?_) rfl (by rfl) ?_ ?_; rotate_left; (focus (intro w' _; go_simp; try with_reducible rfl)); simp only [Act.put, List.setIfInBounds_toArray, List.set_cons_zero, List.set_cons_succ]
  refine plan_take (v := ?_) rfl (by rfl) ?_ ?_; rotate_left; (focus (intro w' _; go_simp; try with_reducible rfl)); simp only [Act.put, List.setIfInBounds_toArray, List.set_cons_zero, List.set_cons_succ]
  refine plan_take (v := ?_) rfl (by rfl) ?_ ?_; rotate_left; (focus (intro w' _; go_simp; try with_reducible rfl)); simp only [Act.put, List.setIfInBounds_toArray, List.set_cons_zero, List.set_cons_succ]
  refine plan_take (v := ?_) rfl (by rfl) ?_ ?_; rotate_left; (focus (intro w' _; go_simp; try with_reducible rfl)); simp only [Act.put, List.setIfInBounds_toArray, List.set_cons_zero, List.set_cons_succ]
  refine plan_take (v := ?_) rfl (by rfl) ?_ ?_; rotate_left; (focus (intro w' _; go_simp; try with_reducible rfl)); simp only [Act.put, List.setIfInBounds_toArray, List.set_cons_zero, List.set_cons_succ]
  refine plan_skip rfl (by rfl) ?_; simp only [Act.put, List.setIfInBounds_toArray, List.set_cons_zero, List.set_cons_succ]
  refine plan_skip rfl (by rfl) ?_; simp only [Act.put, List.setIfInBounds_toArray, List.set_cons_zero, List.set_cons_succ]
  refine plan_skip rfl (by rfl) ?_; simp only [Act.put, List.setIfInBounds_toArray, List.set_cons_zero, List.set_cons_succ]
  refine plan_skip rfl (by rfl) ?_; simp only [Act.put, List.setIfInBounds_toArray, List.set_cons_zero, List.set_cons_succ]
  refine plan_skip rfl (by rfl) ?_; simp only [Act.put, List.setIfInBounds_toArray, List.set_cons_zero, List.set_cons_succ]
  refine plan_skip rfl (by rfl) ?_; simp only [Act.put, List.setIfInBounds_toArray, List.set_cons_zero, List.set_cons_succ]
  refine plan_skip rfl (by rfl) ?_; simp only [Act.put, List.setIfInBounds_toArray, List.set_cons_zero, List.set_cons_succ]
  refine plan_take (v := ?_) rfl (by rfl) ?_ ?_; rotate_left; (focus (intro w' _; go_simp; try with_reducible rfl)); simp only [Act.put, List.setIfInBounds_toArray, List.set_cons_zero, List.set_cons_succ]
  refine plan_take (v := ?_) rfl (by rfl) ?_ ?_; rotate_left; (focus (intro w' _; go_simp; try with_reducible rfl)); simp only [Act.put, List.setIfInBounds_toArray, List.set_cons_zero, List.set_cons_succ]
  refine plan_done ?_
  replace tZ := tZ.to HB
  replace VA := VA.to HB
  replace VX := VX.to HB
  replace VO := VO.to HB
  replace xA := xA.to HB
  replace xZ := xZ.to HB
  replace xX := xX.to HB
  replace cO := cO.to HB
  replace HB0 := Lib.hid (HB0.out.trans (HB.mono HB0.out.size))
  clear HB
  go_wp2_with fail
  obtain ⟨W5, hW5⟩ : ∃ W, W = V := ⟨_, rfl⟩
  subst hW5
  have mr1 : Qm 6 a := by have h := mA; exact h
  have mr2 : Qm 6 a := by have h := mA; exact h
  have mr3 : Qm 6 a := by have h := mA; exact h
  have mr4 : Qm 2 ((n : Int) : Rat) := by have h := mN; exact h
  have mr5 : Qm 2 ((n : Int) : Rat) := by have h := mN; exact h
  have mr6 : Qm 12 ((nz : Int) : Rat) := by have h := mZq; exact h
  refine wp_region_plan (S := fun w' => Below W5.heap.size W5 w') [(0, true), (1, true), (3, true), (2, false), (4, false), (5, false), (6, true), (7, true), (8, true), (10, true), (11, true), (12, true), (9, false), (13, false), (14, false), (15, true), (16, true), (17, true), (18, true), (19, true), (21, true), (20, false), (22, false), (23, false), (24, true), (25, true), (26, true), (27, true), (28, true), (30, true), (29, false), (31, false), (32, true), (33, false), (34, true), (35, true)] (by kernel_rfl) (by kernel_rfl) (Below.refl _ _).drew ?_
  have HB := (Below.refl W5.heap.size W5).drew
  refine plan_take (v := ?_) rfl (by rfl) ?_ ?_; rotate_left; (focus (intro w' _; go_simp; try with_reducible rfl)); simp only [Act.put, List.setIfInBounds_toArray, List.set_cons_zero, List.set_cons_succ]
  refine plan_take rfl (by rfl) (fun w' hS => load_four (by rfl) (VX.four.to hS)) ?_; simp only [Act.put, List.setIfInBounds_toArray, List.set_cons_zero, List.set_cons_succ]
  refine plan_take rfl (by rfl) (fun w' hS => load_four (by rfl) (VA.four.to hS)) ?_; simp only [Act.put, List.setIfInBounds_toArray, List.set_cons_zero, List.set_cons_succ]
  refine plan_call rfl (by rfl) (fun K hK => ?_)
  go_simp
  refine (canonical_q (VX.qi.to HB) (by decide)).mono ?_
  rintro e V ⟨ur1, vr1, xr1, yr1, rfl, r1, bb⟩
  replace HB := HB.trans (bb.mono HB.size)
  refine hK.out _ _ HB ?_
  clear hK K bb
  refine plan_call rfl (by rfl) (fun K hK => ?_)
  go_simp
  refine (rleast_q (VA.qi.to HB) (by decide) (by decide)).mono ?_
  rintro e V ⟨ur2, vr2, xr2, yr2, rfl, r2, bb⟩
  replace HB := HB.trans (bb.mono HB.size)
  replace r1 := r1.to bb
  refine hK.out _ _ HB ?_
  clear hK K bb
  refine plan_call rfl (by rfl) (fun K hK => ?_)
  go_simp
  refine (is_q r1 r2 (v := true) (decide_eq_true rfl)).mono ?_
  rintro e V ⟨rfl, bb⟩
  replace HB := HB.trans (bb.mono HB.size)
  clear r1
  clear r2
  refine hK.out _ _ HB ?_
  clear hK K bb
  refine plan_take (v := ?_) rfl (by rfl) ?_ ?_; rotate_left; (focus (intro w' _; go_simp; try with_reducible rfl)); simp only [Act.put, List.setIfInBounds_toArray, List.set_cons_zero, List.set_cons_succ]
  refine plan_take (v := ?_) rfl (by rfl) ?_ ?_; rotate_left; (focus (intro w' _; go_simp; try with_reducible rfl)); simp only [Act.put, List.setIfInBounds_toArray, List.set_cons_zero, List.set_cons_succ]
  refine plan_take rfl (by rfl) (fun w' hS => load_four (by rfl) (VX.four.to hS)) ?_; simp only [Act.put, List.setIfInBounds_toArray, List.set_cons_zero, List.set_cons_succ]
  refine plan_take (v := ?_) rfl (by rfl) ?_ ?_; rotate_left; (focus (intro w' _; go_simp; try with_reducible rfl)); simp only [Act.put, List.setIfInBounds_toArray, List.set_cons_zero, List.set_cons_succ]
  refine plan_take rfl (by rfl) (fun w' hS => load_four (by rfl) (VA.four.to hS)) ?_; simp only [Act.put, List.setIfInBounds_toArray, List.set_cons_zero, List.set_cons_succ]
  refine plan_take rfl (by rfl) (fun w' hS => load_four (by rfl) (VA.four.to hS)) ?_; simp only [Act.put, List.setIfInBounds_toArray, List.set_cons_zero, List.set_cons_succ]
  refine plan_call rfl (by rfl) (fun K hK => ?_)
  go_simp
  refine (CF.out (xX.to HB)).mono ?_
  rintro e V ⟨rfl, bb⟩
  replace HB := HB.trans (bb.mono HB.size)
  refine hK.out _ _ HB ?_
  clear hK K bb
  refine plan_call rfl (by rfl) (fun K hK => ?_)
  go_simp
  refine (rleast_q (VA.qi.to HB) (by decide) (by decide)).mono ?_
  rintro e V ⟨ur3, vr3, xr3, yr3, rfl, r3, bb⟩
  replace HB := HB.trans (bb.mono HB.size)
  refine hK.out _ _ HB ?_
  clear hK K bb
  refine plan_call rfl (by rfl) (fun K hK => ?_)
  go_simp
  refine (IF.out (xA.to HB) r3).mono ?_
  rintro e V ⟨rfl, bb⟩
  replace HB := HB.trans (bb.mono HB.size)
  clear r3
  refine hK.out _ _ HB ?_
  clear hK K bb
  refine plan_take (v := ?_) rfl (by rfl) ?_ ?_; rotate_left; (focus (intro w' _; go_simp; try with_reducible rfl)); simp only [Act.put, List.setIfInBounds_toArray, List.set_cons_zero, List.set_cons_succ]
  refine plan_take (v := ?_) rfl (by rfl) ?_ ?_; rotate_left; (focus (intro w' _; go_simp; try with_reducible rfl)); simp only [Act.put, List.setIfInBounds_toArray, List.set_cons_zero, List.set_cons_succ]
  refine plan_take (v := ?_) rfl (by rfl) ?_ ?_; rotate_left; (focus (intro w' _; go_simp; try with_reducible rfl)); simp only [Act.put, List.setIfInBounds_toArray, List.set_cons_zero, List.set_cons_succ]
  refine plan_take (v := ?_) rfl (by rfl) ?_ ?_; rotate_left; (focus (intro w' _; go_simp; try with_reducible rfl)); simp only [Act.put, List.setIfInBounds_toArray, List.set_cons_zero, List.set_cons_succ]
  refine plan_take (v := ?_) rfl (by rfl) ?_ ?_; rotate_left; (focus (intro w' _; go_simp; try with_reducible rfl)); simp only [Act.put, List.setIfInBounds_toArray, List.set_cons_zero, List.set_cons_succ]
  refine plan_take (v := ?_) rfl (by rfl) ?_ ?_; rotate_left; (focus (intro w' _; go_simp; try with_reducible rfl)); simp only [Act.put, List.setIfInBounds_toArray, List.set_cons_zero, List.set_cons_succ]
  refine plan_call rfl (by rfl) (fun K hK => ?_)
  go_simp
  refine (FN.out _).mono ?_
  rintro e V ⟨ur4, vr4, xr4, yr4, rfl, r4, bb⟩
  replace HB := HB.trans (bb.mono HB.size)
  refine hK.out _ _ HB ?_
  clear hK K bb
  refine plan_call rfl (by rfl) (fun K hK => ?_)
  go_simp
  refine (IN.out _).mono ?_
  rintro e V ⟨ur5, vr5, xr5, yr5, rfl, r5, bb⟩
  replace HB := HB.trans (bb.mono HB.size)
  replace r4 := r4.to bb
  refine hK.out _ _ HB ?_
  clear hK K bb
  refine plan_call rfl (by rfl) (fun K hK => ?_)
  go_simp
  refine (is_q r4 r5 (v := true) (decide_eq_true rfl)).mono ?_
  rintro e V ⟨rfl, bb⟩
  replace HB := HB.trans (bb.mono HB.size)
  clear r4
  clear r5
  refine hK.out _ _ HB ?_
  clear hK K bb
  refine plan_take (v := ?_) rfl (by rfl) ?_ ?_; rotate_left; (focus (intro w' _; go_simp; try with_reducible rfl)); simp only [Act.put, List.setIfInBounds_toArray, List.set_cons_zero, List.set_cons_succ]
  refine plan_take (v := ?_) rfl (by rfl) ?_ ?_; rotate_left; (focus (intro w' _; go_simp; try with_reducible rfl)); simp only [Act.put, List.setIfInBounds_toArray, List.set_cons_zero, List.set_cons_succ]
  refine plan_take (v := ?_) rfl (by rfl) ?_ ?_; rotate_left; (focus (intro w' _; go_simp; try with_reducible rfl)); simp only [Act.put, List.setIfInBounds_toArray, List.set_cons_zero, List.set_cons_succ]
  refine plan_take (v := ?_) rfl (by rfl) ?_ ?_; rotate_left; (focus (intro w' _; go_simp; try with_reducible rfl)); simp only [Act.put, List.setIfInBounds_toArray, List.set_cons_zero, List.set_cons_succ]
  refine plan_take rfl (by rfl) (fun w' hS => load_two (by rfl) (tZ.to hS)) ?_; simp only [Act.put, List.setIfInBounds_toArray, List.set_cons_zero, List.set_cons_succ]
  refine plan_take rfl (by rfl) (fun w' hS => load_two (by rfl) (tZ.to hS)) ?_; simp only [Act.put, List.setIfInBounds_toArray, List.set_cons_zero, List.set_cons_succ]
  refine plan_call rfl (by rfl) (fun K hK => ?_)
  go_simp
  refine (fromInteger_z (xZ.to HB).zi).mono ?_
  rintro e V ⟨ur6, vr6, xr6, yr6, rfl, r6, bb⟩
  replace HB := HB.trans (bb.mono HB.size)
  refine hK.out _ _ HB ?_
  clear hK K bb
  refine plan_call rfl (by rfl) (fun K hK => ?_)
  go_simp
  refine (rleast_z (xZ.to HB)).mono ?_
  rintro e V ⟨uz7, vz7, rfl, z7, bb⟩
  replace HB := HB.trans (bb.mono HB.size)
  replace r6 := r6.to bb
  refine hK.out _ _ HB ?_
  clear hK K bb
  refine plan_take (v := ?_) rfl (by rfl) ?_ ?_; rotate_left; (focus (intro w' _; go_simp; try with_reducible rfl)); simp only [Act.put, List.setIfInBounds_toArray, List.set_cons_zero, List.set_cons_succ]
  refine plan_call rfl (by rfl) (fun K hK => ?_)
  go_simp
  refine (is_q r6 (qc_int z7) (v := true) (decide_eq_true rfl)).mono ?_
  rintro e V ⟨rfl, bb⟩
  replace HB := HB.trans (bb.mono HB.size)
  clear r6
  clear z7
  refine hK.out _ _ HB ?_
  clear hK K bb
  refine plan_take (v := ?_) rfl (by rfl) ?_ ?_; rotate_left; (focus (intro w' _; go_simp; try with_reducible rfl)); simp only [Act.put, List.setIfInBounds_toArray, List.set_cons_zero, List.set_cons_succ]
  refine plan_take (v := ?_) rfl (by rfl) ?_ ?_; rotate_left; (focus (intro w' _; go_simp; try with_reducible rfl)); simp only [Act.put, List.setIfInBounds_toArray, List.set_cons_zero, List.set_cons_succ]
  refine plan_done ?_
  replace tZ := tZ.to HB
  replace VA := VA.to HB
  replace VX := VX.to HB
  replace VO := VO.to HB
  replace xA := xA.to HB
  replace xZ := xZ.to HB
  replace xX := xX.to HB
  replace cO := cO.to HB
  replace HB0 := Lib.hid (HB0.out.trans (HB.mono HB0.out.size))
  clear HB
  go_wp2_with fail
  obtain ⟨W6, hW6⟩ : ∃ W, W = V := ⟨_, rfl⟩
  subst hW6
  refine wp_region_plan (S := fun w' => Below W6.heap.size W6 w') [(0, true), (2, true), (1, false), (3, false), (4, false), (5, true), (6, true), (8, true), (7, false), (9, false), (10, false), (11, true), (12, true), (13, true), (14, true), (15, true), (16, false), (17, true), (18, true), (19, false), (20, true), (21, true)] (by kernel_rfl) (by kernel_rfl) (Below.refl _ _).drew ?_
  have HB := (Below.refl W6.heap.size W6).drew
  refine plan_take rfl (by rfl) (fun w' hS => load_four (by rfl) (VX.four.to hS)) ?_; simp only [Act.put, List.setIfInBounds_toArray, List.set_cons_zero, List.set_cons_succ]
  refine plan_take rfl (by rfl) (fun w' hS => load_four (by rfl) (VA.four.to hS)) ?_; simp only [Act.put, List.setIfInBounds_toArray, List.set_cons_zero, List.set_cons_succ]
  refine plan_call rfl (by rfl) (fun K hK => ?_)
  go_simp
  refine (floor_q (VX.qi.to HB) (by decide) (by decide)).mono ?_
  rintro e V ⟨uz8, vz8, rfl, z8, bb⟩
  replace HB := HB.trans (bb.mono HB.size)
  refine hK.out _ _ HB ?_
  clear hK K bb
  refine plan_call rfl (by rfl) (fun K hK => ?_)
  go_simp
  refine (rfloor_q (VA.qi.to HB) (by decide) (by decide)).mono ?_
  rintro e V ⟨uz9, vz9, rfl, z9, bb⟩
  replace HB := HB.trans (bb.mono HB.size)
  replace z8 := z8.to bb
  refine hK.out _ _ HB ?_
  clear hK K bb
  refine plan_call rfl (by rfl) (fun K hK => ?_)
  go_simp
  refine (Zc.same z8 z9 (decide_eq_true rfl)).mono ?_
  rintro e V ⟨rfl, bb⟩
  replace HB := HB.trans (bb.mono HB.size)
  clear z8
  clear z9
  refine hK.out _ _ HB ?_
  clear hK K bb
  refine plan_take (v := ?_) rfl (by rfl) ?_ ?_; rotate_left; (focus (intro w' _; go_simp; try with_reducible rfl)); simp only [Act.put, List.setIfInBounds_toArray, List.set_cons_zero, List.set_cons_succ]
  refine plan_take rfl (by rfl) (fun w' hS => load_four (by rfl) (VX.four.to hS)) ?_; simp only [Act.put, List.setIfInBounds_toArray, List.set_cons_zero, List.set_cons_succ]
  refine plan_take rfl (by rfl) (fun w' hS => load_four (by rfl) (VA.four.to hS)) ?_; simp only [Act.put, List.setIfInBounds_toArray, List.set_cons_zero, List.set_cons_succ]
  refine plan_call rfl (by rfl) (fun K hK => ?_)
  go_simp
  refine (ceil_q (VX.qi.to HB) (by decide) (by decide)).mono ?_
  rintro e V ⟨uz10, vz10, rfl, z10, bb⟩
  replace HB := HB.trans (bb.mono HB.size)
  refine hK.out _ _ HB ?_
  clear hK K bb
  refine plan_call rfl (by rfl) (fun K hK => ?_)
  go_simp
  refine (rceil_q (VA.qi.to HB) (by decide) (by decide)).mono ?_
  rintro e V ⟨uz11, vz11, rfl, z11, bb⟩
  replace HB := HB.trans (bb.mono HB.size)
  replace z10 := z10.to bb
  refine hK.out _ _ HB ?_
  clear hK K bb
  refine plan_call rfl (by rfl) (fun K hK => ?_)
  go_simp
  refine (Zc.same z10 z11 (decide_eq_true rfl)).mono ?_
  rintro e V ⟨rfl, bb⟩
  replace HB := HB.trans (bb.mono HB.size)
  clear z10
  clear z11
  refine hK.out _ _ HB ?_
  clear hK K bb
  refine plan_take (v := ?_) rfl (by rfl) ?_ ?_; rotate_left; (focus (intro w' _; go_simp; try with_reducible rfl)); simp only [Act.put, List.setIfInBounds_toArray, List.set_cons_zero, List.set_cons_succ]
  refine plan_take (v := ?_) rfl (by rfl) ?_ ?_; rotate_left; (focus (intro w' _; go_simp; try with_reducible rfl)); simp only [Act.put, List.setIfInBounds_toArray, List.set_cons_zero, List.set_cons_succ]
  refine plan_take (v := ?_) rfl (by rfl) ?_ ?_; rotate_left; (focus (intro w' _; go_simp; try with_reducible rfl)); simp only [Act.put, List.setIfInBounds_toArray, List.set_cons_zero, List.set_cons_succ]
  refine plan_take rfl (by rfl) (fun w' hS => load_four (by rfl) (VX.four.to hS)) ?_; simp only [Act.put, List.setIfInBounds_toArray, List.set_cons_zero, List.set_cons_succ]
  refine plan_take rfl (by rfl) (fun w' hS => load_four (by rfl) (VA.four.to hS)) ?_; simp only [Act.put, List.setIfInBounds_toArray, List.set_cons_zero, List.set_cons_succ]
  refine plan_call rfl (by rfl) (fun K hK => ?_)
  go_simp
  refine (is_x (xX.to HB) (xA.to HB)).mono ?_
  rintro e V ⟨rfl, bb⟩
  replace HB := HB.trans (bb.mono HB.size)
  refine hK.out _ _ HB ?_
  clear hK K bb
  refine plan_take (v := ?_) rfl (by rfl) ?_ ?_; rotate_left; (focus (intro w' _; go_simp; try with_reducible rfl)); simp only [Act.put, List.setIfInBounds_toArray, List.set_cons_zero, List.set_cons_succ]
  refine plan_take (v := ?_) rfl (by rfl) ?_ ?_; rotate_left; (focus (intro w' _; go_simp; try with_reducible rfl)); simp only [Act.put, List.setIfInBounds_toArray, List.set_cons_zero, List.set_cons_succ]
  refine plan_call rfl (by rfl) (fun K hK => ?_)
  go_simp
  refine (falive_any _).mono ?_
  rintro e V ⟨rfl, bb⟩
  replace HB := HB.trans (bb.mono HB.size)
  refine hK.out _ _ HB ?_
  clear hK K bb
  refine plan_take (v := ?_) rfl (by rfl) ?_ ?_; rotate_left; (focus (intro w' _; go_simp; try with_reducible rfl)); simp only [Act.put, List.setIfInBounds_toArray, List.set_cons_zero, List.set_cons_succ]
  refine plan_take (v := ?_) rfl (by rfl) ?_ ?_; rotate_left; (focus (intro w' _; go_simp; try with_reducible rfl)); simp only [Act.put, List.setIfInBounds_toArray, List.set_cons_zero, List.set_cons_succ]
  refine plan_done ?_
  have HE := Lib.hid (HB0.out.trans (HB.mono HB0.out.size))
  clear HB
  go_wp2
  go_ret
  exact ⟨rfl, HE.out⟩

theorem form_core1 {a1 a2 a3 a4 z1 z2 : Value} {n d : Int} {nz : Int} {b1 b2 : Bool} {xs1 xs2 : List Nat} {w : World} (h1 : Qx w a1 a2 a3 a4 b1 xs1 b2 xs2) (h2 : Zl w z1 z2 nz) (mZ : Sm 12 nz) (l1 : xs1.length <= 6) (l2 : xs2.length <= 6) (n1 : -9223372036854775808 <= n) (n2 : n <= 9223372036854775807) (d1 : -9223372036854775808 <= d) (d2 : d <= 9223372036854775807) (hd : d ≠ 0)
    (hL : ∀ (V : World) (g : Nat), V.heap[g]? = some (.cells #[a1, a2, a3, a4] 26 (0, 0)) -> Calls Tryz.prog 4 #[.slice (some ⟨g, 0, none⟩) 1 1] V fun e w' => e = .returned (.bool false) /\ Below V.heap.size V w')
    (hM : ∀ (V : World) (g : Nat), V.cell? ⟨g, 1, none⟩ = some z2 -> Calls Tryz.prog 5 #[.slice (some ⟨g, 0, none⟩) 1 1] V fun e w' => e = .returned (.bool false) /\ w' = V) :
    Calls Tryz.prog 3 #[.agg #[a1, a2, a3, a4], .int .i64 n, .int .i64 d, .agg #[z1, z2]] w fun e w' => e = .returned (.bool true) /\ Below w.heap.size w w' := by
  obtain ⟨a, ha⟩ : ∃ a, rv (zof b1 (val b32 xs1)) (zof b2 (val b32 xs2)) = a := ⟨_, rfl⟩
  obtain ⟨F, hF⟩ : ∃ F, formQ b1 xs1 b2 xs2 = F := ⟨_, rfl⟩
  have qa : ∀ {V : World} {c1 c2 c3 c4 : Value}, Qx V c1 c2 c3 c4 b1 xs1 b2 xs2 -> Qi V c1 c2 c3 c4 a 6 := fun h => ha ▸ h.qi l1 l2 (by decide)
  have mA : Qm 6 a := (qa h1).qm (by decide)
  have OA : Hid (∀ {V : World} {c1 c2 c3 c4 : Value}, Qx V c1 c2 c3 c4 b1 xs1 b2 xs2 -> Calls Tryz.prog 7 #[.agg #[c1, c2, c3, c4]] V fun e w' => ∃ a b c d, e = .returned (.agg #[a, b, c, d]) /\ Qx w' a b c d b1 xs1 b2 xs2 /\ Below V.heap.size V w') := fun h => own_q h (by omega) (by omega)
  have CF : Hid (∀ {V : World} {c1 c2 c3 c4 : Value}, Qx V c1 c2 c3 c4 b1 xs1 b2 xs2 -> Calls Tryz.prog 13 #[.agg #[c1, c2, c3, c4]] V fun e w' => e = .returned (.bool F) /\ Below V.heap.size V w') := fun h => isCan_f h (by omega) (by omega) hF
  have IF : Hid (∀ {V : World} {c1 c2 c3 c4 e1 e2 e3 e4 : Value}, Qx V c1 c2 c3 c4 b1 xs1 b2 xs2 -> Qc V e1 e2 e3 e4 a -> Calls Tryz.prog 9 #[.agg #[c1, c2, c3, c4], .agg #[e1, e2, e3, e4]] V fun e w' => e = .returned (.bool F) /\ Below V.heap.size V w') := fun h hB => is_f h (ha ▸ hB) hF
  have QA : Hid (∀ {V : World} {c1 c2 c3 c4 : Value}, Qx V c1 c2 c3 c4 b1 xs1 b2 xs2 -> Qi V c1 c2 c3 c4 a 6) := @qa
  have FN : Hid (∀ V, Calls Tryz.prog 14 #[.int .i64 n] V (QR V (n : Rat))) := fun V => fromInt_q n n1 n2 V
  have IN : Hid (∀ V, Calls Tryz.prog 15 #[.int .i64 n] V (QR V (n : Rat))) := fun V => rint_q n n1 n2 V
  have sZ : Hid (Sg nz) := mZ.sg (by decide)
  have mN : Qm 2 ((n : Int) : Rat) := Qm.int (sm2_i64 n1 n2) (by decide)
  have mZq : Qm 12 ((nz : Int) : Rat) := Qm.int mZ (by decide)
  have sF : Hid (Sg a.floor) := by
    show Sg _
    rw [Rat.floor_def]
    exact (mA.1.le (Int.natAbs_ediv_le_natAbs _ _)).sg (by decide)
  have NW : Hid (∀ V, Calls Tryz.prog 8 #[.int .i64 n, .int .i64 d] V fun e w' => ∃ a b c f, e = .returned (.tuple #[.agg #[a, b, c, f], .int .i64 0]) /\ Qc w' a b c f (Rat.divInt n d) /\ Below V.heap.size V w') := fun V => new_z n d n1 n2 d1 d2 hd V
  have OF : Hid (∀ V, Calls Tryz.prog 10 #[.int .i64 n, .int .i64 d] V (QR V (Rat.divInt n d))) := fun V => by
    have h := rof_q n d n1 n2 d1 d2 V
    rw [show rv n d = Rat.divInt n d from by unfold rv; rw [if_neg hd]] at h
    exact h
  have mO : Qm 2 (Rat.divInt n d) := Qm.divInt (sm2_i64 n1 n2) (sm2_i64 d1 d2) hd
  have e1 : (d == 0) = false := by simpa using hd
  have e2 : (d != 0) = true := by simpa using hd
  obtain ⟨rO, hrO⟩ : ∃ r, Rat.divInt n d = r := ⟨_, rfl⟩
  rw [hrO] at NW OF mO
  clear hrO
  clear ha hF l1 l2 qa n1 n2 d1 d2 hd
  obtain ⟨W0, hW0⟩ : ∃ W0, W0 = ((w.alloc (.cells #[a1, a2, a3, a4] 26)).alloc (.cells #[z1, z2] 24)).alloc (.cells #[a1, a2, a3, a4] 26) := ⟨_, rfl⟩
  have hb : Below w.heap.size w W0 := by rw [hW0]; exact (((Below.refl _ _).alloc (Nat.le_refl _) _).alloc (by simp) _).alloc (by simp; omega) _
  have tA : Four W0 w.heap.size a1 a2 a3 a4 := by rw [hW0]; exact ((Four.new w _ _ _ _ _).alloc _).alloc _
  have tZ : Two W0 (w.heap.size + 1) z1 z2 := by
    have h := Two.new (w.alloc (.cells #[a1, a2, a3, a4] 26)) z1 z2 24
    rw [World.size_alloc] at h
    rw [hW0]; exact h.alloc _
  have xA := h1.to hb
  have xZ := h2.to hb
  have HL : Hid (Calls Tryz.prog 4 #[.slice (some ⟨w.heap.size + 1 + 1, 0, none⟩) 1 1] W0 fun e w' => e = .returned (.bool false) /\ Below W0.heap.size W0 w') := by
    have h := World.alloc_heap_new ((w.alloc (.cells #[a1, a2, a3, a4] 26)).alloc (.cells #[z1, z2] 24)) (.cells #[a1, a2, a3, a4] 26)
    rw [World.size_alloc, World.size_alloc, <- hW0] at h
    exact hL W0 (w.heap.size + 1 + 1) h
  have HW0 := Lib.hid hW0
  have HB0 := Lib.hid hb
  clear hL hW0 hb h1 h2
  have HM := Lib.hid hM
  clear hM
  go_enter Tryz.func3, Tryz.ntmps3
  go_wp2_with fail
  rw [<- HW0.out]
  clear HW0
  refine HL.out.mono ?_
  rintro e W1 ⟨rfl, bb⟩
  clear HL
  replace tA := tA.to bb
  replace tZ := tZ.to bb
  replace xA := xA.to bb
  replace xZ := xZ.to bb
  replace HB0 := Lib.hid (HB0.out.trans (bb.mono HB0.out.size))
  clear bb
  have k0 := tZ.c0
  have k1 := tZ.c1
  go_wp2_with fail
  obtain ⟨W2, hW2⟩ : ∃ W, W = W1.alloc (.cells #[z1, z2] 24) := ⟨_, rfl⟩
  have bb : Below W1.heap.size W1 W2 := by rw [hW2]; exact (Below.refl _ _).alloc (Nat.le_refl _) _
  have hc : W2.cell? ⟨W1.heap.size, 1, none⟩ = some z2 := by
    have h := (Two.new W1 z1 z2 24).c1
    rw [hW2]; exact h
  have HM2 := Lib.hid (HM.out W2 W1.heap.size hc)
  replace tA := tA.to bb
  replace tZ := tZ.to bb
  replace xA := xA.to bb
  replace xZ := xZ.to bb
  replace HB0 := Lib.hid (HB0.out.trans (bb.mono HB0.out.size))
  rw [<- hW2]
  clear hW2 bb hc HM k0 k1
  refine HM2.out.mono ?_
  rintro e W3 ⟨rfl, rfl⟩
  clear HM2
  have k0 := tA.c0
  have k1 := tA.c1
  have k2 := tA.c2
  have k3 := tA.c3
  go_wp2_with fail
  refine (OA.out xA).mono ?_
  rintro e VX ⟨_, _, _, _, rfl, xX, bb⟩
  clear k0 k1 k2 k3
  replace tA := tA.to bb
  replace tZ := tZ.to bb
  replace xA := xA.to bb
  replace xZ := xZ.to bb
  replace HB0 := Lib.hid (HB0.out.trans (bb.mono HB0.out.size))
  clear bb
  obtain ⟨⟨nX1, AX1, jX1, mX1, rfl, rfl⟩, ⟨nX2, AX2, jX2, mX2, rfl, rfl⟩⟩ := xX.fq
  have tX := Four.new VX (.bool nX1) (.slice AX1 jX1 mX1) (.bool nX2) (.slice AX2 jX2 mX2) 26
  have bb := (Below.refl VX.heap.size VX).alloc (Nat.le_refl _) (.cells #[.bool nX1, .slice AX1 jX1 mX1, .bool nX2, .slice AX2 jX2 mX2] 26)
  replace xX := xX.to bb
  replace tA := tA.to bb
  replace tZ := tZ.to bb
  replace xA := xA.to bb
  replace xZ := xZ.to bb
  replace HB0 := Lib.hid (HB0.out.trans (bb.mono HB0.out.size))
  clear bb
  go_wp2_with fail
  obtain ⟨WX, hWX⟩ : ∃ W, W = VX.alloc (.cells #[.bool nX1, .slice AX1 jX1 mX1, .bool nX2, .slice AX2 jX2 mX2] 26) := ⟨_, rfl⟩
  obtain ⟨gX, hgX⟩ : ∃ g, g = VX.heap.size := ⟨_, rfl⟩
  rw [<- hWX, <- hgX]
  rw [<- hWX, <- hgX] at tX
  rw [<- hWX] at HB0 tA tZ xA xZ xX
  clear hWX hgX
  refine (NW.out _).mono ?_
  rintro e VO ⟨_, _, _, _, rfl, cO, bb⟩
  replace tA := tA.to bb
  replace tZ := tZ.to bb
  replace tX := tX.to bb
  replace xA := xA.to bb
  replace xZ := xZ.to bb
  replace xX := xX.to bb
  replace HB0 := Lib.hid (HB0.out.trans (bb.mono HB0.out.size))
  clear bb
  obtain ⟨⟨nO1, AO1, jO1, mO1, rfl, rfl⟩, ⟨nO2, AO2, jO2, mO2, rfl, rfl⟩⟩ := cO.fq
  have tO := Four.new VO (.bool nO1) (.slice AO1 jO1 mO1) (.bool nO2) (.slice AO2 jO2 mO2) 26
  have bb := (Below.refl VO.heap.size VO).alloc (Nat.le_refl _) (.cells #[.bool nO1, .slice AO1 jO1 mO1, .bool nO2, .slice AO2 jO2 mO2] 26)
  replace cO := cO.to bb
  replace tA := tA.to bb
  replace tZ := tZ.to bb
  replace tX := tX.to bb
  replace xA := xA.to bb
  replace xZ := xZ.to bb
  replace xX := xX.to bb
  replace HB0 := Lib.hid (HB0.out.trans (bb.mono HB0.out.size))
  clear bb
  go_wp2_with fail
  obtain ⟨WO, hWO⟩ : ∃ W, W = VO.alloc (.cells #[.bool nO1, .slice AO1 jO1 mO1, .bool nO2, .slice AO2 jO2 mO2] 26) := ⟨_, rfl⟩
  obtain ⟨gO, hgO⟩ : ∃ g, g = VO.heap.size := ⟨_, rfl⟩
  rw [<- hWO, <- hgO]
  rw [<- hWO, <- hgO] at tO
  rw [<- hWO] at HB0 tA tZ tX xA xZ xX cO
  clear hWO hgO
  have VA : Qb WO _ _ _ _ _ a 6 := ⟨tA, QA.out xA⟩
  clear tA
  have VX : Qb WO _ _ _ _ _ a 6 := ⟨tX, QA.out xX⟩
  clear tX
  have VO : Qb WO _ _ _ _ _ rO 2 := ⟨tO, cO.qi mO (by decide)⟩
  clear tO
  obtain ⟨W4, hW4⟩ : ∃ W, W = WO := ⟨_, rfl⟩
  subst hW4
  have mr12 : Qm 2 rO := by have h := mO; exact h
  refine wp_region_plan (S := fun w' => Below W4.heap.size W4 w') [(0, true), (1, true), (2, true), (3, true), (4, true), (5, true), (6, true), (7, true), (8, true), (9, true), (10, true), (11, true), (12, true), (13, true), (14, true), (15, true), (16, true), (17, true), (18, true), (19, true), (20, true), (21, true), (22, true), (23, true), (24, true), (25, true), (26, true), (27, true), (28, false), (29, false), (30, true), (31, true), (32, true)] (by kernel_rfl) (by kernel_rfl) (Below.refl _ _).drew ?_
  have HB := (Below.refl W4.heap.size W4).drew
  refine plan_take (v := ?_) rfl (by rfl) ?_ ?_; rotate_left; (focus (intro w' _; go_simp; try with_reducible rfl)); simp only [Act.put, List.setIfInBounds_toArray, List.set_cons_zero, List.set_cons_succ]
  refine plan_take (v := ?_) rfl (by rfl) ?_ ?_; rotate_left; (focus (intro w' _; go_simp; try with_reducible rfl)); simp only [Act.put, List.setIfInBounds_toArray, List.set_cons_zero, List.set_cons_succ]
  refine plan_take (v := ?_) rfl (by rfl) ?_ ?_; rotate_left; (focus (intro w' _; go_simp; try with_reducible rfl)); simp only [Act.put, List.setIfInBounds_toArray, List.set_cons_zero, List.set_cons_succ]
  refine plan_take (v := ?_) rfl (by rfl) ?_ ?_; rotate_left; (focus (intro w' _; go_simp; try with_reducible rfl)); simp only [Act.put, List.setIfInBounds_toArray, List.set_cons_zero, List.set_cons_succ]
  refine plan_take (v := ?_) rfl (by rfl) ?_ ?_; rotate_left; (focus (intro w' _; go_simp; try with_reducible rfl)); simp only [Act.put, List.setIfInBounds_toArray, List.set_cons_zero, List.set_cons_succ]
  refine plan_take (v := ?_) rfl (by rfl) ?_ ?_; rotate_left; (focus (intro w' _; go_simp; try with_reducible rfl)); simp only [Act.put, List.setIfInBounds_toArray, List.set_cons_zero, List.set_cons_succ]
  refine plan_take (v := ?_) rfl (by rfl) ?_ ?_; rotate_left; (focus (intro w' _; go_simp; try with_reducible rfl)); simp only [Act.put, List.setIfInBounds_toArray, List.set_cons_zero, List.set_cons_succ]
  refine plan_take (v := ?_) rfl (by rfl) ?_ ?_; rotate_left; (focus (intro w' _; go_simp; try with_reducible rfl)); simp only [Act.put, List.setIfInBounds_toArray, List.set_cons_zero, List.set_cons_succ]
  refine plan_take (v := ?_) rfl (by rfl) ?_ ?_; rotate_left; (focus (intro w' _; go_simp; try with_reducible rfl)); simp only [Act.put, List.setIfInBounds_toArray, List.set_cons_zero, List.set_cons_succ]
  refine plan_skip rfl (by rfl) ?_; simp only [Act.put, List.setIfInBounds_toArray, List.set_cons_zero, List.set_cons_succ]
  refine plan_skip rfl (by rfl) ?_; simp only [Act.put, List.setIfInBounds_toArray, List.set_cons_zero, List.set_cons_succ]
  refine plan_skip rfl (by rfl) ?_; simp only [Act.put, List.setIfInBounds_toArray, List.set_cons_zero, List.set_cons_succ]
  refine plan_skip rfl (by rfl) ?_; simp only [Act.put, List.setIfInBounds_toArray, List.set_cons_zero, List.set_cons_succ]
  refine plan_skip rfl (by rfl) ?_; simp only [Act.put, List.setIfInBounds_toArray, List.set_cons_zero, List.set_cons_succ]
  refine plan_skip rfl (by rfl) ?_; simp only [Act.put, List.setIfInBounds_toArray, List.set_cons_zero, List.set_cons_succ]
  refine plan_skip rfl (by rfl) ?_; simp only [Act.put, List.setIfInBounds_toArray, List.set_cons_zero, List.set_cons_succ]
  refine plan_skip rfl (by rfl) ?_; simp only [Act.put, List.setIfInBounds_toArray, List.set_cons_zero, List.set_cons_succ]
  refine plan_skip rfl (by rfl) ?_; simp only [Act.put, List.setIfInBounds_toArray, List.set_cons_zero, List.set_cons_succ]
  refine plan_take (v := ?_) rfl (by rfl) ?_ ?_; rotate_left; (focus (intro w' _; go_simp; try with_reducible rfl)); simp only [Act.put, List.setIfInBounds_toArray, List.set_cons_zero, List.set_cons_succ]
  refine plan_take (v := ?_) rfl (by rfl) ?_ ?_; rotate_left; (focus (intro w' _; go_simp; try with_reducible rfl)); simp only [Act.put, List.setIfInBounds_toArray, List.set_cons_zero, List.set_cons_succ]
  refine plan_take (v := ?_) rfl (by rfl) ?_ ?_; rotate_left; (focus (intro w' _; go_simp; try with_reducible rfl)); simp only [Act.put, List.setIfInBounds_toArray, List.set_cons_zero, List.set_cons_succ]
  refine plan_take (v := ?_) rfl (by rfl) ?_ ?_; rotate_left; (focus (intro w' _; go_simp; try with_reducible rfl)); simp only [Act.put, List.setIfInBounds_toArray, List.set_cons_zero, List.set_cons_succ]
  refine plan_take (v := ?_) rfl (by rfl) ?_ ?_; rotate_left; (focus (intro w' _; go_simp; try with_reducible rfl)); simp only [Act.put, List.setIfInBounds_toArray, List.set_cons_zero, List.set_cons_succ]
  refine plan_take (v := ?_) rfl (by rfl) ?_ ?_; rotate_left; (focus (intro w' _; go_simp; try with_reducible rfl)); simp only [Act.put, List.setIfInBounds_toArray, List.set_cons_zero, List.set_cons_succ]
  refine plan_take (v := ?_) rfl (by rfl) ?_ ?_; rotate_left; (focus (intro w' _; go_simp; try with_reducible rfl)); simp only [Act.put, List.setIfInBounds_toArray, List.set_cons_zero, List.set_cons_succ]
  refine plan_take rfl (by rfl) (fun w' hS => load_four (by rfl) (VO.four.to hS)) ?_; simp only [Act.put, List.setIfInBounds_toArray, List.set_cons_zero, List.set_cons_succ]
  refine plan_take (v := ?_) rfl (by rfl) ?_ ?_; rotate_left; (focus (intro w' _; go_simp; try with_reducible rfl)); simp only [Act.put, List.setIfInBounds_toArray, List.set_cons_zero, List.set_cons_succ]
  refine plan_take (v := ?_) rfl (by rfl) ?_ ?_; rotate_left; (focus (intro w' _; go_simp; try with_reducible rfl)); simp only [Act.put, List.setIfInBounds_toArray, List.set_cons_zero, List.set_cons_succ]
  refine plan_call rfl (by rfl) (fun K hK => ?_)
  go_simp
  refine (OF.out _).mono ?_
  rintro e V ⟨ur12, vr12, xr12, yr12, rfl, r12, bb⟩
  replace HB := HB.trans (bb.mono HB.size)
  refine hK.out _ _ HB ?_
  clear hK K bb
  refine plan_call rfl (by rfl) (fun K hK => ?_)
  go_simp
  refine (is_q (cO.to HB) r12 (v := true) (decide_eq_true rfl)).mono ?_
  rintro e V ⟨rfl, bb⟩
  replace HB := HB.trans (bb.mono HB.size)
  clear r12
  refine hK.out _ _ HB ?_
  clear hK K bb
  refine plan_take (v := ?_) rfl (by rfl) ?_ ?_; rotate_left; (focus (intro w' _; go_simp; try with_reducible rfl)); simp only [Act.put, List.setIfInBounds_toArray, List.set_cons_zero, List.set_cons_succ]
  refine plan_take (v := ?_) rfl (by rfl) ?_ ?_; rotate_left; (focus (intro w' _; go_simp; try with_reducible rfl)); simp only [Act.put, List.setIfInBounds_toArray, List.set_cons_zero, List.set_cons_succ]
  refine plan_take (v := ?_) rfl (by rfl) ?_ ?_; rotate_left; (focus (intro w' _; go_simp; try with_reducible rfl)); simp only [Act.put, List.setIfInBounds_toArray, List.set_cons_zero, List.set_cons_succ]
  refine plan_done ?_
  replace tZ := tZ.to HB
  replace VA := VA.to HB
  replace VX := VX.to HB
  replace VO := VO.to HB
  replace xA := xA.to HB
  replace xZ := xZ.to HB
  replace xX := xX.to HB
  replace cO := cO.to HB
  replace HB0 := Lib.hid (HB0.out.trans (HB.mono HB0.out.size))
  clear HB
  go_wp2_with fail
  obtain ⟨W5, hW5⟩ : ∃ W, W = V := ⟨_, rfl⟩
  subst hW5
  have mr13 : Qm 6 a := by have h := mA; exact h
  have mr14 : Qm 6 a := by have h := mA; exact h
  have mr15 : Qm 6 a := by have h := mA; exact h
  have mr16 : Qm 2 ((n : Int) : Rat) := by have h := mN; exact h
  have mr17 : Qm 2 ((n : Int) : Rat) := by have h := mN; exact h
  have mr18 : Qm 12 ((nz : Int) : Rat) := by have h := mZq; exact h
  refine wp_region_plan (S := fun w' => Below W5.heap.size W5 w') [(0, true), (1, true), (3, true), (2, false), (4, false), (5, false), (6, true), (7, true), (8, true), (10, true), (11, true), (12, true), (9, false), (13, false), (14, false), (15, true), (16, true), (17, true), (18, true), (19, true), (21, true), (20, false), (22, false), (23, false), (24, true), (25, true), (26, true), (27, true), (28, true), (30, true), (29, false), (31, false), (32, true), (33, false), (34, true), (35, true)] (by kernel_rfl) (by kernel_rfl) (Below.refl _ _).drew ?_
  have HB := (Below.refl W5.heap.size W5).drew
  refine plan_take (v := ?_) rfl (by rfl) ?_ ?_; rotate_left; (focus (intro w' _; go_simp; try with_reducible rfl)); simp only [Act.put, List.setIfInBounds_toArray, List.set_cons_zero, List.set_cons_succ]
  refine plan_take rfl (by rfl) (fun w' hS => load_four (by rfl) (VX.four.to hS)) ?_; simp only [Act.put, List.setIfInBounds_toArray, List.set_cons_zero, List.set_cons_succ]
  refine plan_take rfl (by rfl) (fun w' hS => load_four (by rfl) (VA.four.to hS)) ?_; simp only [Act.put, List.setIfInBounds_toArray, List.set_cons_zero, List.set_cons_succ]
  refine plan_call rfl (by rfl) (fun K hK => ?_)
  go_simp
  refine (canonical_q (VX.qi.to HB) (by decide)).mono ?_
  rintro e V ⟨ur13, vr13, xr13, yr13, rfl, r13, bb⟩
  replace HB := HB.trans (bb.mono HB.size)
  refine hK.out _ _ HB ?_
  clear hK K bb
  refine plan_call rfl (by rfl) (fun K hK => ?_)
  go_simp
  refine (rleast_q (VA.qi.to HB) (by decide) (by decide)).mono ?_
  rintro e V ⟨ur14, vr14, xr14, yr14, rfl, r14, bb⟩
  replace HB := HB.trans (bb.mono HB.size)
  replace r13 := r13.to bb
  refine hK.out _ _ HB ?_
  clear hK K bb
  refine plan_call rfl (by rfl) (fun K hK => ?_)
  go_simp
  refine (is_q r13 r14 (v := true) (decide_eq_true rfl)).mono ?_
  rintro e V ⟨rfl, bb⟩
  replace HB := HB.trans (bb.mono HB.size)
  clear r13
  clear r14
  refine hK.out _ _ HB ?_
  clear hK K bb
  refine plan_take (v := ?_) rfl (by rfl) ?_ ?_; rotate_left; (focus (intro w' _; go_simp; try with_reducible rfl)); simp only [Act.put, List.setIfInBounds_toArray, List.set_cons_zero, List.set_cons_succ]
  refine plan_take (v := ?_) rfl (by rfl) ?_ ?_; rotate_left; (focus (intro w' _; go_simp; try with_reducible rfl)); simp only [Act.put, List.setIfInBounds_toArray, List.set_cons_zero, List.set_cons_succ]
  refine plan_take rfl (by rfl) (fun w' hS => load_four (by rfl) (VX.four.to hS)) ?_; simp only [Act.put, List.setIfInBounds_toArray, List.set_cons_zero, List.set_cons_succ]
  refine plan_take (v := ?_) rfl (by rfl) ?_ ?_; rotate_left; (focus (intro w' _; go_simp; try with_reducible rfl)); simp only [Act.put, List.setIfInBounds_toArray, List.set_cons_zero, List.set_cons_succ]
  refine plan_take rfl (by rfl) (fun w' hS => load_four (by rfl) (VA.four.to hS)) ?_; simp only [Act.put, List.setIfInBounds_toArray, List.set_cons_zero, List.set_cons_succ]
  refine plan_take rfl (by rfl) (fun w' hS => load_four (by rfl) (VA.four.to hS)) ?_; simp only [Act.put, List.setIfInBounds_toArray, List.set_cons_zero, List.set_cons_succ]
  refine plan_call rfl (by rfl) (fun K hK => ?_)
  go_simp
  refine (CF.out (xX.to HB)).mono ?_
  rintro e V ⟨rfl, bb⟩
  replace HB := HB.trans (bb.mono HB.size)
  refine hK.out _ _ HB ?_
  clear hK K bb
  refine plan_call rfl (by rfl) (fun K hK => ?_)
  go_simp
  refine (rleast_q (VA.qi.to HB) (by decide) (by decide)).mono ?_
  rintro e V ⟨ur15, vr15, xr15, yr15, rfl, r15, bb⟩
  replace HB := HB.trans (bb.mono HB.size)
  refine hK.out _ _ HB ?_
  clear hK K bb
  refine plan_call rfl (by rfl) (fun K hK => ?_)
  go_simp
  refine (IF.out (xA.to HB) r15).mono ?_
  rintro e V ⟨rfl, bb⟩
  replace HB := HB.trans (bb.mono HB.size)
  clear r15
  refine hK.out _ _ HB ?_
  clear hK K bb
  refine plan_take (v := ?_) rfl (by rfl) ?_ ?_; rotate_left; (focus (intro w' _; go_simp; try with_reducible rfl)); simp only [Act.put, List.setIfInBounds_toArray, List.set_cons_zero, List.set_cons_succ]
  refine plan_take (v := ?_) rfl (by rfl) ?_ ?_; rotate_left; (focus (intro w' _; go_simp; try with_reducible rfl)); simp only [Act.put, List.setIfInBounds_toArray, List.set_cons_zero, List.set_cons_succ]
  refine plan_take (v := ?_) rfl (by rfl) ?_ ?_; rotate_left; (focus (intro w' _; go_simp; try with_reducible rfl)); simp only [Act.put, List.setIfInBounds_toArray, List.set_cons_zero, List.set_cons_succ]
  refine plan_take (v := ?_) rfl (by rfl) ?_ ?_; rotate_left; (focus (intro w' _; go_simp; try with_reducible rfl)); simp only [Act.put, List.setIfInBounds_toArray, List.set_cons_zero, List.set_cons_succ]
  refine plan_take (v := ?_) rfl (by rfl) ?_ ?_; rotate_left; (focus (intro w' _; go_simp; try with_reducible rfl)); simp only [Act.put, List.setIfInBounds_toArray, List.set_cons_zero, List.set_cons_succ]
  refine plan_take (v := ?_) rfl (by rfl) ?_ ?_; rotate_left; (focus (intro w' _; go_simp; try with_reducible rfl)); simp only [Act.put, List.setIfInBounds_toArray, List.set_cons_zero, List.set_cons_succ]
  refine plan_call rfl (by rfl) (fun K hK => ?_)
  go_simp
  refine (FN.out _).mono ?_
  rintro e V ⟨ur16, vr16, xr16, yr16, rfl, r16, bb⟩
  replace HB := HB.trans (bb.mono HB.size)
  refine hK.out _ _ HB ?_
  clear hK K bb
  refine plan_call rfl (by rfl) (fun K hK => ?_)
  go_simp
  refine (IN.out _).mono ?_
  rintro e V ⟨ur17, vr17, xr17, yr17, rfl, r17, bb⟩
  replace HB := HB.trans (bb.mono HB.size)
  replace r16 := r16.to bb
  refine hK.out _ _ HB ?_
  clear hK K bb
  refine plan_call rfl (by rfl) (fun K hK => ?_)
  go_simp
  refine (is_q r16 r17 (v := true) (decide_eq_true rfl)).mono ?_
  rintro e V ⟨rfl, bb⟩
  replace HB := HB.trans (bb.mono HB.size)
  clear r16
  clear r17
  refine hK.out _ _ HB ?_
  clear hK K bb
  refine plan_take (v := ?_) rfl (by rfl) ?_ ?_; rotate_left; (focus (intro w' _; go_simp; try with_reducible rfl)); simp only [Act.put, List.setIfInBounds_toArray, List.set_cons_zero, List.set_cons_succ]
  refine plan_take (v := ?_) rfl (by rfl) ?_ ?_; rotate_left; (focus (intro w' _; go_simp; try with_reducible rfl)); simp only [Act.put, List.setIfInBounds_toArray, List.set_cons_zero, List.set_cons_succ]
  refine plan_take (v := ?_) rfl (by rfl) ?_ ?_; rotate_left; (focus (intro w' _; go_simp; try with_reducible rfl)); simp only [Act.put, List.setIfInBounds_toArray, List.set_cons_zero, List.set_cons_succ]
  refine plan_take (v := ?_) rfl (by rfl) ?_ ?_; rotate_left; (focus (intro w' _; go_simp; try with_reducible rfl)); simp only [Act.put, List.setIfInBounds_toArray, List.set_cons_zero, List.set_cons_succ]
  refine plan_take rfl (by rfl) (fun w' hS => load_two (by rfl) (tZ.to hS)) ?_; simp only [Act.put, List.setIfInBounds_toArray, List.set_cons_zero, List.set_cons_succ]
  refine plan_take rfl (by rfl) (fun w' hS => load_two (by rfl) (tZ.to hS)) ?_; simp only [Act.put, List.setIfInBounds_toArray, List.set_cons_zero, List.set_cons_succ]
  refine plan_call rfl (by rfl) (fun K hK => ?_)
  go_simp
  refine (fromInteger_z (xZ.to HB).zi).mono ?_
  rintro e V ⟨ur18, vr18, xr18, yr18, rfl, r18, bb⟩
  replace HB := HB.trans (bb.mono HB.size)
  refine hK.out _ _ HB ?_
  clear hK K bb
  refine plan_call rfl (by rfl) (fun K hK => ?_)
  go_simp
  refine (rleast_z (xZ.to HB)).mono ?_
  rintro e V ⟨uz19, vz19, rfl, z19, bb⟩
  replace HB := HB.trans (bb.mono HB.size)
  replace r18 := r18.to bb
  refine hK.out _ _ HB ?_
  clear hK K bb
  refine plan_take (v := ?_) rfl (by rfl) ?_ ?_; rotate_left; (focus (intro w' _; go_simp; try with_reducible rfl)); simp only [Act.put, List.setIfInBounds_toArray, List.set_cons_zero, List.set_cons_succ]
  refine plan_call rfl (by rfl) (fun K hK => ?_)
  go_simp
  refine (is_q r18 (qc_int z19) (v := true) (decide_eq_true rfl)).mono ?_
  rintro e V ⟨rfl, bb⟩
  replace HB := HB.trans (bb.mono HB.size)
  clear r18
  clear z19
  refine hK.out _ _ HB ?_
  clear hK K bb
  refine plan_take (v := ?_) rfl (by rfl) ?_ ?_; rotate_left; (focus (intro w' _; go_simp; try with_reducible rfl)); simp only [Act.put, List.setIfInBounds_toArray, List.set_cons_zero, List.set_cons_succ]
  refine plan_take (v := ?_) rfl (by rfl) ?_ ?_; rotate_left; (focus (intro w' _; go_simp; try with_reducible rfl)); simp only [Act.put, List.setIfInBounds_toArray, List.set_cons_zero, List.set_cons_succ]
  refine plan_done ?_
  replace tZ := tZ.to HB
  replace VA := VA.to HB
  replace VX := VX.to HB
  replace VO := VO.to HB
  replace xA := xA.to HB
  replace xZ := xZ.to HB
  replace xX := xX.to HB
  replace cO := cO.to HB
  replace HB0 := Lib.hid (HB0.out.trans (HB.mono HB0.out.size))
  clear HB
  go_wp2_with fail
  obtain ⟨W6, hW6⟩ : ∃ W, W = V := ⟨_, rfl⟩
  subst hW6
  refine wp_region_plan (S := fun w' => Below W6.heap.size W6 w') [(0, true), (2, true), (1, false), (3, false), (4, false), (5, true), (6, true), (8, true), (7, false), (9, false), (10, false), (11, true), (12, true), (13, true), (14, true), (15, true), (16, false), (17, true), (18, true), (19, false), (20, true), (21, true)] (by kernel_rfl) (by kernel_rfl) (Below.refl _ _).drew ?_
  have HB := (Below.refl W6.heap.size W6).drew
  refine plan_take rfl (by rfl) (fun w' hS => load_four (by rfl) (VX.four.to hS)) ?_; simp only [Act.put, List.setIfInBounds_toArray, List.set_cons_zero, List.set_cons_succ]
  refine plan_take rfl (by rfl) (fun w' hS => load_four (by rfl) (VA.four.to hS)) ?_; simp only [Act.put, List.setIfInBounds_toArray, List.set_cons_zero, List.set_cons_succ]
  refine plan_call rfl (by rfl) (fun K hK => ?_)
  go_simp
  refine (floor_q (VX.qi.to HB) (by decide) (by decide)).mono ?_
  rintro e V ⟨uz20, vz20, rfl, z20, bb⟩
  replace HB := HB.trans (bb.mono HB.size)
  refine hK.out _ _ HB ?_
  clear hK K bb
  refine plan_call rfl (by rfl) (fun K hK => ?_)
  go_simp
  refine (rfloor_q (VA.qi.to HB) (by decide) (by decide)).mono ?_
  rintro e V ⟨uz21, vz21, rfl, z21, bb⟩
  replace HB := HB.trans (bb.mono HB.size)
  replace z20 := z20.to bb
  refine hK.out _ _ HB ?_
  clear hK K bb
  refine plan_call rfl (by rfl) (fun K hK => ?_)
  go_simp
  refine (Zc.same z20 z21 (decide_eq_true rfl)).mono ?_
  rintro e V ⟨rfl, bb⟩
  replace HB := HB.trans (bb.mono HB.size)
  clear z20
  clear z21
  refine hK.out _ _ HB ?_
  clear hK K bb
  refine plan_take (v := ?_) rfl (by rfl) ?_ ?_; rotate_left; (focus (intro w' _; go_simp; try with_reducible rfl)); simp only [Act.put, List.setIfInBounds_toArray, List.set_cons_zero, List.set_cons_succ]
  refine plan_take rfl (by rfl) (fun w' hS => load_four (by rfl) (VX.four.to hS)) ?_; simp only [Act.put, List.setIfInBounds_toArray, List.set_cons_zero, List.set_cons_succ]
  refine plan_take rfl (by rfl) (fun w' hS => load_four (by rfl) (VA.four.to hS)) ?_; simp only [Act.put, List.setIfInBounds_toArray, List.set_cons_zero, List.set_cons_succ]
  refine plan_call rfl (by rfl) (fun K hK => ?_)
  go_simp
  refine (ceil_q (VX.qi.to HB) (by decide) (by decide)).mono ?_
  rintro e V ⟨uz22, vz22, rfl, z22, bb⟩
  replace HB := HB.trans (bb.mono HB.size)
  refine hK.out _ _ HB ?_
  clear hK K bb
  refine plan_call rfl (by rfl) (fun K hK => ?_)
  go_simp
  refine (rceil_q (VA.qi.to HB) (by decide) (by decide)).mono ?_
  rintro e V ⟨uz23, vz23, rfl, z23, bb⟩
  replace HB := HB.trans (bb.mono HB.size)
  replace z22 := z22.to bb
  refine hK.out _ _ HB ?_
  clear hK K bb
  refine plan_call rfl (by rfl) (fun K hK => ?_)
  go_simp
  refine (Zc.same z22 z23 (decide_eq_true rfl)).mono ?_
  rintro e V ⟨rfl, bb⟩
  replace HB := HB.trans (bb.mono HB.size)
  clear z22
  clear z23
  refine hK.out _ _ HB ?_
  clear hK K bb
  refine plan_take (v := ?_) rfl (by rfl) ?_ ?_; rotate_left; (focus (intro w' _; go_simp; try with_reducible rfl)); simp only [Act.put, List.setIfInBounds_toArray, List.set_cons_zero, List.set_cons_succ]
  refine plan_take (v := ?_) rfl (by rfl) ?_ ?_; rotate_left; (focus (intro w' _; go_simp; try with_reducible rfl)); simp only [Act.put, List.setIfInBounds_toArray, List.set_cons_zero, List.set_cons_succ]
  refine plan_take (v := ?_) rfl (by rfl) ?_ ?_; rotate_left; (focus (intro w' _; go_simp; try with_reducible rfl)); simp only [Act.put, List.setIfInBounds_toArray, List.set_cons_zero, List.set_cons_succ]
  refine plan_take rfl (by rfl) (fun w' hS => load_four (by rfl) (VX.four.to hS)) ?_; simp only [Act.put, List.setIfInBounds_toArray, List.set_cons_zero, List.set_cons_succ]
  refine plan_take rfl (by rfl) (fun w' hS => load_four (by rfl) (VA.four.to hS)) ?_; simp only [Act.put, List.setIfInBounds_toArray, List.set_cons_zero, List.set_cons_succ]
  refine plan_call rfl (by rfl) (fun K hK => ?_)
  go_simp
  refine (is_x (xX.to HB) (xA.to HB)).mono ?_
  rintro e V ⟨rfl, bb⟩
  replace HB := HB.trans (bb.mono HB.size)
  refine hK.out _ _ HB ?_
  clear hK K bb
  refine plan_take (v := ?_) rfl (by rfl) ?_ ?_; rotate_left; (focus (intro w' _; go_simp; try with_reducible rfl)); simp only [Act.put, List.setIfInBounds_toArray, List.set_cons_zero, List.set_cons_succ]
  refine plan_take (v := ?_) rfl (by rfl) ?_ ?_; rotate_left; (focus (intro w' _; go_simp; try with_reducible rfl)); simp only [Act.put, List.setIfInBounds_toArray, List.set_cons_zero, List.set_cons_succ]
  refine plan_call rfl (by rfl) (fun K hK => ?_)
  go_simp
  refine (falive_any _).mono ?_
  rintro e V ⟨rfl, bb⟩
  replace HB := HB.trans (bb.mono HB.size)
  refine hK.out _ _ HB ?_
  clear hK K bb
  refine plan_take (v := ?_) rfl (by rfl) ?_ ?_; rotate_left; (focus (intro w' _; go_simp; try with_reducible rfl)); simp only [Act.put, List.setIfInBounds_toArray, List.set_cons_zero, List.set_cons_succ]
  refine plan_take (v := ?_) rfl (by rfl) ?_ ?_; rotate_left; (focus (intro w' _; go_simp; try with_reducible rfl)); simp only [Act.put, List.setIfInBounds_toArray, List.set_cons_zero, List.set_cons_succ]
  refine plan_done ?_
  have HE := Lib.hid (HB0.out.trans (HB.mono HB0.out.size))
  clear HB
  go_wp2
  go_ret
  exact ⟨rfl, HE.out⟩
end Go.Proofs.YtgkfbhdaheoecaaGreat

namespace Go.Proofs.YtgkfbhdaheoecaaGreat
open Go.ChangeShapes Go.WideShapes Go.ChangeAt Go.RowKit Go.Joins

theorem cellsZ : Tryz.prog.cellsOf 24 = 2 := by kernel_rfl
theorem cellsU : Tryz.prog.cellsOf 56 = 1 := by kernel_rfl
theorem laidOut : laidOutB Tryz.prog = true := by kernel_rfl
theorem own : ownKnob Tryz.prog.godebug = none := by kernel_rfl

theorem nats_of {zs : List Int} (h : ∀ n ∈ zs, (Lit.int .u32 n).wf = true) : ∃ xs : List Nat, zs = xs.map (fun n : Nat => (n : Int)) /\ Dg b32 xs := by
  induction zs with
  | nil => exact ⟨[], rfl, fun d hd => by cases hd⟩
  | cons z zs ih =>
    obtain ⟨xs, rfl, hx⟩ := ih (fun n hn => h n (List.mem_cons_of_mem _ hn))
    have hz := h z List.mem_cons_self
    have hz' := bounds_u32 hz
    exact ⟨z.toNat :: xs, by simp; omega, Dg.cons (by unfold b32; omega) hx⟩

/-- What an argument that is an integer holds: a flag, and words, all read from the world; whatever its form. -/
theorem open_z {H : Type} {enc : TypeId × Value -> H} {W : World} {base : Nat} {spare : Nat -> Bool} {held : Bool} {r : Reach} {b0 : Nat} {v : Value} {d : DataW H} {p : List MemPlace}
    (hs : ∀ b, spare b = true) (hv : Value.okWide Tryz.prog W r b0 24 v) (h : DataW.Trod enc Tryz.prog W base spare held 24 v d p) :
    ∃ n A c xs, v = .agg #[.bool n, .slice A xs.length c] /\ Rd .u32 W W.heap.size A xs /\ Dg b32 xs /\ xs.length <= c /\ c <= 9223372036854775807 := by
  obtain ⟨c0, c1, y0, y1, m, rfl, _, _, hy0, hy1⟩ := open_agg2 Tryz.underlying24 (by kernel_rfl) cellsZ hv h
  obtain ⟨n, hc0, _⟩ := DataW.trod_bool Tryz.underlying4 hy0
  obtain rfl : c0 = .bool n := by simpa using hc0
  rcases open_ints Tryz.underlying22 Tryz.underlying56 cellsU hy1 with ⟨hcs, _⟩ | ⟨x, l, c, zs, hcs, _, hl, hm, hz, _, hcell, hwz⟩
  · obtain rfl : c1 = .slice none 0 0 := by simpa using hcs
    exact ⟨n, none, 0, [], rfl, Rd.nil, Dg.nil, Nat.le_refl _, by decide⟩
  · obtain rfl : c1 = .slice (some x) l c := by simpa using hcs
    rw [hs, if_pos rfl] at hz
    obtain ⟨xs, rfl, hx⟩ := nats_of hwz
    rw [List.length_map] at hz
    have hlen : (xs.take l).length = l := by rw [List.length_take]; omega
    refine ⟨n, some x, c, xs.take l, by rw [hlen], ?_, hx.take l, by rw [hlen]; exact hl, Nat.le_trans hm (by decide)⟩
    intro k hk
    rw [hlen] at hk
    obtain ⟨b, off, rfl, hc⟩ := Go.ints_at hcell (by rw [List.length_map]; omega)
    have hck := hc k (by rw [List.length_map]; omega)
    refine ⟨b, off, rfl, World.block_lt_of_cell? W _ hck, ?_⟩
    rw [hck]
    have hk' : k < xs.length := by omega
    simp [hk']
end Go.Proofs.YtgkfbhdaheoecaaGreat

namespace Go.Proofs.YtgkfbhdaheoecaaGreat
open Go.ChangeShapes Go.WideShapes Go.ChangeAt Go.RowKit Go.Joins

theorem cellsB : Tryz.prog.cellsOf 4 = 1 := by kernel_rfl
theorem cellsS : Tryz.prog.cellsOf 22 = 1 := by kernel_rfl
theorem cellsQ : Tryz.prog.cellsOf 26 = 4 := by kernel_rfl

/-- Cells that read as an integer. -/
def Zx2 (W : World) (x y : Value) : Prop := ∃ n A c xs, x = .bool n /\ y = .slice A xs.length c /\ Rd .u32 W W.heap.size A xs /\ Dg b32 xs /\ xs.length <= c /\ c <= 9223372036854775807

theorem trod_z {H : Type} {enc : TypeId × Value -> H} {W : World} {base : Nat} {spare : Nat -> Bool} {held : Bool} {fuel : Nat} {c0 c1 : Value} {x : DataW H × List MemPlace}
    (hs : ∀ b, spare b = true) (h : DataW.trod enc Tryz.prog W base spare held fuel 24 [c0, c1] = some x) : Zx2 W c0 c1 := by
  obtain ⟨y0, y1, m, hx, _, h0, h1⟩ := trod_struct2 (f0 := _) (f1 := _) (show Tryz.prog.underlying 24 = _ from Tryz.underlying24) h
  replace h0 : DataW.trod enc Tryz.prog W base spare held m 4 [c0] = some y0 := by
    rw [show Tryz.prog.cellsOf _ = 1 from cellsB] at h0
    simpa using h0
  replace h1 : DataW.trod enc Tryz.prog W base spare held m 22 [c1] = some y1 := by
    rw [show Tryz.prog.cellsOf _ = 1 from cellsS] at h1
    simpa using h1
  obtain ⟨n, hc0, _⟩ := DataW.trod_bool Tryz.underlying4 h0
  obtain rfl : c0 = .bool n := by simpa using hc0
  rcases open_ints Tryz.underlying22 Tryz.underlying56 cellsU h1 with ⟨hcs, _⟩ | ⟨x, l, c, zs, hcs, _, hl, hm, hz, _, hcell, hwz⟩
  · obtain rfl : c1 = .slice none 0 0 := by simpa using hcs
    exact ⟨n, none, 0, [], rfl, rfl, Rd.nil, Dg.nil, Nat.le_refl _, by decide⟩
  · obtain rfl : c1 = .slice (some x) l c := by simpa using hcs
    rw [hs, if_pos rfl] at hz
    obtain ⟨xs, rfl, hx⟩ := nats_of hwz
    rw [List.length_map] at hz
    have hlen : (xs.take l).length = l := by rw [List.length_take]; omega
    refine ⟨n, some x, c, xs.take l, rfl, by rw [hlen], ?_, hx.take l, by rw [hlen]; exact hl, Nat.le_trans hm (by decide)⟩
    intro k hk
    rw [hlen] at hk
    obtain ⟨b, off, rfl, hc⟩ := Go.ints_at hcell (by rw [List.length_map]; omega)
    have hck := hc k (by rw [List.length_map]; omega)
    refine ⟨b, off, rfl, World.block_lt_of_cell? W _ hck, ?_⟩
    rw [hck]
    have hk' : k < xs.length := by omega
    simp [hk']

theorem array4 {α : Type} {cs : Array α} (h : cs.size = 4) : ∃ c0 c1 c2 c3, cs = #[c0, c1, c2, c3] := by
  obtain ⟨l⟩ := cs
  match l, h with
  | [c0, c1, c2, c3], _ => exact ⟨c0, c1, c2, c3, rfl⟩

/-- Four cells that read as a rational. -/
theorem trod_q {H : Type} {enc : TypeId × Value -> H} {W : World} {base : Nat} {spare : Nat -> Bool} {held : Bool} {fuel : Nat} {c0 c1 c2 c3 : Value} {x : DataW H × List MemPlace}
    (hs : ∀ b, spare b = true) (h : DataW.trod enc Tryz.prog W base spare held fuel 26 [c0, c1, c2, c3] = some x) : Zx2 W c0 c1 /\ Zx2 W c2 c3 := by
  obtain ⟨y0, y1, m, hx, _, h0, h1⟩ := trod_struct2 (f0 := _) (f1 := _) (show Tryz.prog.underlying 26 = _ from Tryz.underlying26) h
  replace h0 : DataW.trod enc Tryz.prog W base spare held m 24 [c0, c1] = some y0 := by
    rw [show Tryz.prog.cellsOf _ = 2 from cellsZ] at h0
    simpa using h0
  replace h1 : DataW.trod enc Tryz.prog W base spare held m 24 [c2, c3] = some y1 := by
    rw [show Tryz.prog.cellsOf _ = 2 from cellsZ] at h1
    simpa using h1
  exact ⟨trod_z hs h0, trod_z hs h1⟩

/-- What an argument that is a rational holds. -/
theorem open_q {H : Type} {enc : TypeId × Value -> H} {W : World} {base : Nat} {spare : Nat -> Bool} {held : Bool} {r : Reach} {b0 : Nat} {v : Value} {d : DataW H} {p : List MemPlace}
    (hs : ∀ b, spare b = true) (hv : Value.okWide Tryz.prog W r b0 26 v) (h : DataW.Trod enc Tryz.prog W base spare held 26 v d p) :
    ∃ c0 c1 c2 c3, v = .agg #[c0, c1, c2, c3] /\ Zx2 W c0 c1 /\ Zx2 W c2 c3 := by
  obtain ⟨cs, rfl, hsz⟩ := okWide_struct Tryz.underlying26 hv
  obtain ⟨c0, c1, c2, c3, rfl⟩ := array4 (hsz.trans cellsQ)
  obtain ⟨fuel, hf⟩ := h
  exact ⟨c0, c1, c2, c3, rfl, trod_q hs hf⟩
end Go.Proofs.YtgkfbhdaheoecaaGreat
