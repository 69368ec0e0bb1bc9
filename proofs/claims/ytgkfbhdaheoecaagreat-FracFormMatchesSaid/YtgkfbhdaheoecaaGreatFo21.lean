/- Parts: 1. -/
import Derived.Test.YtgkfbhdaheoecaaGreatFo20
set_option linter.unusedVariables false
set_option linter.unusedSimpArgs false
set_option maxRecDepth 100000
set_option maxHeartbeats 40000000

namespace Go.Proofs.YtgkfbhdaheoecaaGreat
open Go.RowKit Go.Shelf

/-- Four cells that hold these flags and words. -/
def Qx (W : World) (a b c d : Value) (n : Bool) (xs : List Nat) (m : Bool) (ys : List Nat) : Prop := Zx W a b n xs /\ Zx W c d m ys
theorem Qx.to {W V : World} {a b c d : Value} {n m : Bool} {xs ys : List Nat} (h : Qx W a b c d n xs m ys) (hb : Below W.heap.size W V) : Qx V a b c d n xs m ys := ⟨h.1.to hb, h.2.to hb⟩
theorem Qx.qi {W : World} {a b c d : Value} {n m : Bool} {xs ys : List Nat} {k : Nat} (h : Qx W a b c d n xs m ys) (h1 : xs.length <= k) (h2 : ys.length <= k) (hk : k <= 10000) : Qi W a b c d (rv (zof n (val b32 xs)) (zof m (val b32 ys))) k := by
  have z1 := h.1.zl (by omega)
  have z2 := h.2.zl (by omega)
  obtain ⟨⟨A, c, _, _, r1⟩, ⟨B, d, _, _, r2⟩⟩ := h
  exact ⟨_, _, z1, z2, rfl, Sm.zof r1.dg h1, Sm.zof r2.dg h2⟩
theorem Qx.fq {W : World} {a b c d : Value} {n m : Bool} {xs ys : List Nat} (h : Qx W a b c d n xs m ys) : Fq a b c d := ⟨h.1.fs, h.2.fs⟩
theorem own_x {w : World} {x y : Value} {n : Bool} {xs : List Nat} (h : Zx w x y n xs) (sx : xs.length <= 10000) : Calls Tryz.prog 27 #[.agg #[x, y]] w fun e w' => ∃ x y, e = .returned (.agg #[x, y]) /\ Zx w' x y n xs /\ Below w.heap.size w w' := by
  obtain ⟨A, c, rfl, rfl, hx⟩ := h
  exact own_any n hx sx
theorem kpZx {g : Nat} {w V : World} (kp : KeptG g w V) {x y : Value} {n : Bool} {xs : List Nat} (h : Zx w x y n xs) : Zx V x y n xs := by
  obtain ⟨A, c, rfl, rfl, ⟨r1, r2, r3, r4, r5⟩⟩ := h
  exact ⟨A, c, rfl, rfl, ⟨kp.rd _ _ r1, r2, r3, r4, r5⟩⟩
theorem kpQx {g : Nat} {w V : World} (kp : KeptG g w V) {a b c d : Value} {n m : Bool} {xs ys : List Nat} (h : Qx w a b c d n xs m ys) : Qx V a b c d n xs m ys := ⟨kpZx kp h.1, kpZx kp h.2⟩


set_option maxRecDepth 100000 in
theorem own_q {w : World} {a1 a2 a3 a4 : Value} {n m : Bool} {xs ys : List Nat} (h : Qx w a1 a2 a3 a4 n xs m ys) (l1 : xs.length <= 10000) (l2 : ys.length <= 10000) :
    Calls Tryz.prog 7 #[.agg #[a1, a2, a3, a4]] w (fun e w' => ∃ a b c d, e = .returned (.agg #[a, b, c, d]) /\ Qx w' a b c d n xs m ys /\ Below w.heap.size w w') := by
  have h1 := h.1
  have h2 := h.2
  clear h
  obtain ⟨W0, hW0⟩ : ∃ W0, W0 = (w.alloc (.cells #[a1, a2, a3, a4] 26)).alloc (.cells #[.bool false, .slice none 0 0, .bool false, .slice none 0 0] 26) := ⟨_, rfl⟩
  have hbw : Below w.heap.size w W0 := by rw [hW0]; exact (((Below.refl _ _).alloc (Nat.le_refl _) _).alloc (by simp) _)
  have tA : Four W0 (w.heap.size) a1 a2 a3 a4 := by
    have h := Four.new w a1 a2 a3 a4 26
    rw [hW0]; exact (h.alloc _)
  have tR : Four W0 (w.heap.size + 1) (.bool false) (.slice none 0 0) (.bool false) (.slice none 0 0) := by
    have h := Four.new (w.alloc (.cells #[a1, a2, a3, a4] 26)) (.bool false) (.slice none 0 0) (.bool false) (.slice none 0 0) 26
    rw [World.size_alloc] at h
    rw [hW0]; exact h
  replace h1 := h1.to hbw
  replace h2 := h2.to hbw
  have HW0 := Lib.hid hW0
  have HB := Lib.hid hbw
  clear hW0 hbw
  go_enter Tryz.func7, Tryz.ntmps7
  go_wp2_with fail
  rw [<- HW0.out]
  clear HW0
  refine wp_region_plan (S := fun w' => Below w.heap.size w w' /\ Four w' (w.heap.size) a1 a2 a3 a4) [(0, true), (1, true), (3, true), (4, true), (2, false), (5, false), (6, true), (7, false)] (by kernel_rfl) (by kernel_rfl) ⟨HB.out.drew, tA.to (Below.refl _ _).drew⟩ ?_
  have hb := HB.out.drew
  replace tA := tA.to (Below.refl _ _).drew
  replace tR := tR.to (Below.refl _ _).drew
  replace h1 := h1.to (Below.refl _ _).drew
  replace h2 := h2.to (Below.refl _ _).drew
  clear HB
  refine plan_take (v := ?_) rfl (by rfl) ?_ ?_; rotate_left; (focus (intro w' hS; go_simp; try with_reducible rfl)); simp only [Act.put, List.setIfInBounds_toArray, List.set_cons_zero, List.set_cons_succ]
  refine plan_take (v := ?_) rfl (by rfl) ?_ ?_; rotate_left; (focus (intro w' hS; have k00 := (hS.2).c0; have k01 := (hS.2).c1; have k02 := (hS.2).c2; have k03 := (hS.2).c3; go_simp; try with_reducible rfl)); simp only [Act.put, List.setIfInBounds_toArray, List.set_cons_zero, List.set_cons_succ]
  refine plan_take (v := ?_) rfl (by rfl) ?_ ?_; rotate_left; (focus (intro w' hS; go_simp; try with_reducible rfl)); simp only [Act.put, List.setIfInBounds_toArray, List.set_cons_zero, List.set_cons_succ]
  refine plan_take (v := ?_) rfl (by rfl) ?_ ?_; rotate_left; (focus (intro w' hS; have k00 := (hS.2).c0; have k01 := (hS.2).c1; have k02 := (hS.2).c2; have k03 := (hS.2).c3; go_simp; try with_reducible rfl)); simp only [Act.put, List.setIfInBounds_toArray, List.set_cons_zero, List.set_cons_succ]
  refine plan_call rfl (by rfl) (fun K hK => ?_)
  go_simp
  refine (own_x h1 l1).mono ?_
  rintro e V1 ⟨x1, y1, rfl, z1, bb⟩
  replace hb := hb.trans (bb.mono hb.size)
  replace tA := tA.to bb
  replace tR := tR.to bb
  replace h2 := h2.to bb
  refine hK.out _ _ ⟨hb, tA⟩ ?_
  clear hK K bb
  refine plan_call rfl (by rfl) (fun K hK => ?_)
  go_simp
  refine (own_x h2 l2).mono ?_
  rintro e V2 ⟨x2, y2, rfl, z2, bb⟩
  replace hb := hb.trans (bb.mono hb.size)
  replace tA := tA.to bb
  replace tR := tR.to bb
  replace z1 := z1.to bb
  refine hK.out _ _ ⟨hb, tA⟩ ?_
  clear hK K bb
  refine plan_take (v := ?_) rfl (by rfl) ?_ ?_; rotate_left; (focus (intro w' hS; go_simp; try with_reducible rfl)); simp only [Act.put, List.setIfInBounds_toArray, List.set_cons_zero, List.set_cons_succ]
  refine plan_call rfl (by rfl) (fun K hK => ?_)
  have rq : Qx _ _ _ _ _ n xs m ys := ⟨z1, z2⟩
  refine wp_store_q (by rfl) (by rfl) tR Fq.nil rq.fq (fun V u kp => ?_)
  replace tA := kp.four (by omega) tA
  replace hb := kp.bel _ _ hb (by omega)
  replace rq := kpQx kp rq
  refine hK.out _ _ ⟨hb, tA⟩ ?_
  clear hK K kp tR tA
  simp only [Act.put, List.setIfInBounds_toArray, List.set_cons_zero, List.set_cons_succ]
  refine plan_done ?_
  have U0 := u.c0
  have U1 := u.c1
  have U2 := u.c2
  have U3 := u.c3
  have RZ := Lib.hid rq
  have HE := Lib.hid hb
  clear rq hb u
  go_wp2
  refine bodyPost_ret (v := .agg #[x1, y1, x2, y2]) (by simp [results, Tryz.f7, go_sem, U0, U1, U2, U3]) rfl ?_
  exact ⟨_, _, _, _, rfl, RZ.out, HE.out⟩


set_option maxRecDepth 100000 in
theorem is_x {w : World} {a1 a2 a3 a4 b1 b2 b3 b4 : Value} {n m : Bool} {xs ys : List Nat} (hA : Qx w a1 a2 a3 a4 n xs m ys) (hB : Qx w b1 b2 b3 b4 n xs m ys) :
    Calls Tryz.prog 9 #[.agg #[a1, a2, a3, a4], .agg #[b1, b2, b3, b4]] w (fun e w' => e = .returned (.bool true) /\ Below w.heap.size w w') := by
  obtain ⟨W0, hW0⟩ : ∃ W0, W0 = (w.alloc (.cells #[a1, a2, a3, a4] 26)).alloc (.cells #[b1, b2, b3, b4] 26) := ⟨_, rfl⟩
  have hbw : Below w.heap.size w W0 := by rw [hW0]; exact (((Below.refl _ _).alloc (Nat.le_refl _) _).alloc (by simp) _)
  have tA : Four W0 (w.heap.size) a1 a2 a3 a4 := by
    have h := Four.new w a1 a2 a3 a4 26
    rw [hW0]; exact (h.alloc _)
  have tB : Four W0 (w.heap.size + 1) b1 b2 b3 b4 := by
    have h := Four.new (w.alloc (.cells #[a1, a2, a3, a4] 26)) b1 b2 b3 b4 26
    rw [World.size_alloc] at h
    rw [hW0]; exact h
  replace hA := hA.to hbw
  replace hB := hB.to hbw
  have HW0 := Lib.hid hW0
  have HB := Lib.hid hbw
  clear hW0 hbw
  go_enter Tryz.func9, Tryz.ntmps9
  go_wp2_with fail
  rw [<- HW0.out]
  clear HW0
  have kktA0 := tA.c0
  have kktA1 := tA.c1
  have kktA2 := tA.c2
  have kktA3 := tA.c3
  have kktB0 := tB.c0
  have kktB1 := tB.c1
  have kktB2 := tB.c2
  have kktB3 := tB.c3
  go_wp2_with fail
  refine (same_x hA.1 hB.1).mono ?_
  rintro e V1 ⟨rfl, bb⟩
  clear kktA0 kktA1 kktA2 kktA3 kktB0 kktB1 kktB2 kktB3
  replace tA := tA.to bb
  replace tB := tB.to bb
  replace hA := hA.to bb
  replace hB := hB.to bb
  replace HB := Lib.hid (HB.out.trans (bb.mono HB.out.size))
  clear bb
  have kktA0 := tA.c0
  have kktA1 := tA.c1
  have kktA2 := tA.c2
  have kktA3 := tA.c3
  have kktB0 := tB.c0
  have kktB1 := tB.c1
  have kktB2 := tB.c2
  have kktB3 := tB.c3
  go_wp2_with fail
  refine (same_x hA.2 hB.2).mono ?_
  rintro e V2 ⟨rfl, bb⟩
  clear kktA0 kktA1 kktA2 kktA3 kktB0 kktB1 kktB2 kktB3
  replace tA := tA.to bb
  replace tB := tB.to bb
  replace HB := Lib.hid (HB.out.trans (bb.mono HB.out.size))
  clear bb
  clear tA tB
  go_wp2
  go_ret
  exact ⟨rfl, HB.out⟩


/-- What was wrong with a division. -/
def errD (s : Rat) : Int := if s = 0 then 7 else 0
/-- A call hands back the rational r and a number that says what was wrong. -/
def QE (w : World) (r : Rat) (v : Int) (e : Ending) (w' : World) : Prop := ∃ x1 x2 x3 x4, e = .returned (.tuple #[.agg #[x1, x2, x3, x4], .int .i64 v]) /\ Qc w' x1 x2 x3 x4 r /\ Below w.heap.size w w'
end Go.Proofs.YtgkfbhdaheoecaaGreat
