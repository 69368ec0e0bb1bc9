/- Parts: RefOps3, RefOps4, Int64, RefInt. -/
import Derived.Test.YtlnjnoingiohjaaMa4
import Derived.Test.YtlnjnoingiohjaaMa5
import Derived.Test.YtlnjnoingiohjaaMa8
import Derived.Test.YtlnjnoingiohjaaMa9
set_option linter.unusedVariables false

namespace Go.Proofs.Ytlnjnoingiohjaa
open Go.RowKit Go.Shelf

/-- Two cells that are an integer of at most 10000 words, in whatever form. -/
def Zl (W : World) (x y : Value) (z : Int) : Prop := ∃ n A c xs, x = .bool n ∧ y = .slice A xs.length c ∧ Arg W A c xs ∧ xs.length ≤ 10000 ∧ zof n (val b32 xs) = z

theorem Zl.to {W V : World} {x y : Value} {z : Int} (h : Zl W x y z) (hb : Below W.heap.size W V) : Zl V x y z := by
  obtain ⟨n, A, c, xs, h1, h2, h3, h4⟩ := h
  exact ⟨n, A, c, xs, h1, h2, h3.to hb, h4⟩
theorem Zl.zi {W : World} {x y : Value} {z : Int} (h : Zl W x y z) : Zi W x y z := by
  obtain ⟨n, A, c, xs, h1, h2, h3, _, h4⟩ := h
  exact ⟨n, A, c, xs, h1, h2, h3, h4⟩
theorem Zc.zl {W : World} {x y : Value} {z : Int} {k : Nat} (h : Zc W x y z) (hs : Sm k z) (hk : k ≤ 10000) : Zl W x y z := by
  obtain ⟨A, c, h1, h2, h3, h4, h5⟩ := h
  have hl := Nat.le_trans (dig_length_le b32_one hs) hk
  exact ⟨_, A, c, _, h1, h2, ⟨h3, Dg_dig b32_one _, h4, h5, by omega⟩, hl, by rw [val_dig b32_one]; exact zof_dec z⟩

section
variable {w : World} {x y x' y' : Value} {a b : Int}
theorem rneg_z (ha : Zl w x y a) : Calls Try.prog 26 #[.agg #[x, y]] w (ZR w (-a)) := by
  obtain ⟨n, A, c, xs, rfl, rfl, h3, h4, rfl⟩ := ha
  have h := rneg_any n h3 h4
  rw [zof_not] at h
  exact h
theorem radd_z (ha : Zl w x y a) (hb : Zl w x' y' b) : Calls Try.prog 20 #[.agg #[x, y], .agg #[x', y']] w (ZR w (a + b)) := by
  obtain ⟨n, A, c, xs, rfl, rfl, h3, h4, rfl⟩ := ha
  obtain ⟨m, B, d, ys, rfl, rfl, k3, k4, rfl⟩ := hb
  exact rAdd_any n m h3 h4 k3 k4
theorem rmul_z (ha : Zl w x y a) (hb : Zl w x' y' b) : Calls Try.prog 24 #[.agg #[x, y], .agg #[x', y']] w (ZR w (a * b)) := by
  obtain ⟨n, A, c, xs, rfl, rfl, h3, h4, rfl⟩ := ha
  obtain ⟨m, B, d, ys, rfl, rfl, k3, k4, rfl⟩ := hb
  have h := rMul_any n m h3 h4 k3 k4
  rw [zof_mul] at h
  exact h
theorem rleast_z (ha : Zl w x y a) : Calls Try.prog 18 #[.agg #[x, y]] w (ZR w a) := by
  obtain ⟨n, A, c, xs, rfl, rfl, h3, h4, rfl⟩ := ha
  exact (least_any n h3).mono fun _ _ h => h.zr
theorem rfrom_z (v : Int) (h1 : -9223372036854775808 ≤ v) (h2 : v ≤ 9223372036854775807) (w : World) : Calls Try.prog 16 #[.int .i64 v] w (ZR w v) :=
  (rfrom_any v h1 h2 w).mono fun _ _ h => h.zr
end

set_option maxRecDepth 100000 in
set_option maxHeartbeats 8000000 in
theorem rSub_any (n : Bool) (m : Bool) {A A' : Option Addr} {c c' : Nat} {xs ys : List Nat} {w : World} (hx : Arg w A c xs) (sx : xs.length ≤ 10000) (hy : Arg w A' c' ys) (sy : ys.length ≤ 10000) :
    Calls Try.prog 22 #[.agg #[.bool n, .slice A xs.length c], .agg #[.bool m, .slice A' ys.length c']] w (ZR w (zof n (val b32 xs) - zof m (val b32 ys))) := by
  obtain ⟨W0, hW0⟩ : ∃ W0, W0 = (((w.alloc (.cells #[.bool n, .slice A xs.length c] 24)).alloc (.cells #[.bool m, .slice A' ys.length c'] 24)).alloc (.cells #[.bool false, .slice none 0 0] 24)) := ⟨_, rfl⟩
  have hb : Below w.heap.size w W0 := by rw [hW0]; exact (((Below.refl _ _).alloc (Nat.le_refl _) _).alloc (by simp) _).alloc (by simp; omega) _
  have tX : Two W0 (w.heap.size) (.bool n) (.slice A xs.length c) := by
    have h := Two.new w (.bool n) (.slice A xs.length c) 24
    rw [hW0]; exact (h.alloc _).alloc _
  have tY : Two W0 (w.heap.size + 1) (.bool m) (.slice A' ys.length c') := by
    have h := Two.new (w.alloc (.cells #[.bool n, .slice A xs.length c] 24)) (.bool m) (.slice A' ys.length c') 24
    rw [World.size_alloc] at h
    rw [hW0]; exact h.alloc _
  have tR : Two W0 (w.heap.size + 1 + 1) (.bool false) (.slice none 0 0) := by
    have h := Two.new ((w.alloc (.cells #[.bool n, .slice A xs.length c] 24)).alloc (.cells #[.bool m, .slice A' ys.length c'] 24)) (.bool false) (.slice none 0 0) 24
    rw [World.size_alloc, World.size_alloc] at h
    rw [hW0]; exact h
  have HW0 := Lib.hid hW0
  have HB0 := Lib.hid hb
  have HX := Lib.hid hx
  have HY := Lib.hid hy
  have hBW : w.heap.size + 1 + 1 ≤ W0.heap.size := by rw [hW0]; simp
  have Dsx : val b32 xs < b16 ^ (2 * xs.length) := by rw [← pow_2k]; exact val_lt hx.dg
  have Dsy : val b32 ys < b16 ^ (2 * ys.length) := by rw [← pow_2k]; exact val_lt hy.dg
  clear hW0 hb hx hy
  have hsm : Sm ys.length (-zof m (val b32 ys)) := (Sm.zof HY.out.dg (Nat.le_refl _)).neg
  go_enter Try.func22, Try.ntmps22
  go_wp2_with fail
  rw [← HW0.out]
  refine wp_region_plan (S := fun w' => Below (w.heap.size + 1 + 1) W0 w') [(0, true), (1, true), (2, false), (3, false), (4, false)] (by kernel_rfl) (by kernel_rfl) (Below.refl _ _).drew ?_
  have HB := (Below.refl W0.heap.size W0).drew
  repeat (refine plan_take (v := ?_) rfl (by rfl) ?_ ?_; rotate_left; (focus (intro w' hS; have k0 := (tX.toB hS (by omega)).c0; have k1 := (tX.toB hS (by omega)).c1; have k2 := (tY.toB hS (by omega)).c0; have k3 := (tY.toB hS (by omega)).c1; go_simp; try with_reducible rfl)); simp only [Act.put, List.setIfInBounds_toArray, List.set_cons_zero, List.set_cons_succ])
  refine plan_call rfl (by rfl) (fun K hK => ?_)
  go_simp
  refine (rneg_z (a := zof m (val b32 ys)) ⟨m, _, _, _, rfl, rfl, (HY.out.to (HB0.out.trans (HB.mono HB0.out.size))), sy, rfl⟩).mono ?_
  rintro e V ⟨xn, yn, rfl, rn, bb⟩
  replace HB := HB.trans (bb.mono HB.size)
  refine hK.out _ _ (HB.mono hBW) ?_
  clear hK K
  refine plan_call rfl (by rfl) (fun K hK => ?_)
  go_simp
  refine (radd_z (a := zof n (val b32 xs)) ⟨n, _, _, _, rfl, rfl, (HX.out.to (HB0.out.trans (HB.mono HB0.out.size))), sx, rfl⟩ (rn.zl hsm sy)).mono ?_
  rintro e V ⟨xr, yr, rfl, rz, bb2⟩
  replace HB := HB.trans (bb2.mono HB.size)
  rw [← Int.sub_eq_add_neg] at rz
  clear rn bb bb2
  refine hK.out _ _ (HB.mono hBW) ?_
  clear hK K
  refine plan_call rfl (by rfl) (fun K hK => ?_)
  refine wp_store_two (by rfl) (by rfl) (tR.to HB) Fs.nil rz.fs (fun V u kp => ?_)
  have HF := kp.zc _ _ _ rz
  have HE := kp.bel _ _ (HB0.out.trans (HB.mono HB0.out.size)) (by omega)
  refine hK.out _ _ (kp.bel _ _ (HB.mono hBW) (Nat.le_refl _)) ?_
  clear hK K kp
  simp only [Act.put, List.setIfInBounds_toArray, List.set_cons_zero, List.set_cons_succ]
  refine plan_done ?_
  have HF2 := Lib.hid HF
  have HE2 := Lib.hid HE
  clear HF HE
  go_wp2
  exact bodyPost_ret (v := .agg #[xr, yr]) (by simp [results, Try.f22, go_sem, u.c0, u.c1]) rfl ⟨xr, yr, rfl, HF2.out, HE2.out⟩

set_option maxRecDepth 100000 in
set_option maxHeartbeats 8000000 in
theorem rAbs_any (n : Bool) {A : Option Addr} {c : Nat} {xs : List Nat} {w : World} (hx : Arg w A c xs) (sx : xs.length ≤ 10000) :
    Calls Try.prog 28 #[.agg #[.bool n, .slice A xs.length c]] w (ZR w ((val b32 xs : Nat) : Int)) := by
  obtain ⟨W0, hW0⟩ : ∃ W0, W0 = ((w.alloc (.cells #[.bool n, .slice A xs.length c] 24)).alloc (.cells #[.bool false, .slice none 0 0] 24)) := ⟨_, rfl⟩
  have hb : Below w.heap.size w W0 := by rw [hW0]; exact ((Below.refl _ _).alloc (Nat.le_refl _) _).alloc (by simp) _
  have tX : Two W0 (w.heap.size) (.bool n) (.slice A xs.length c) := by
    have h := Two.new w (.bool n) (.slice A xs.length c) 24
    rw [hW0]; exact h.alloc _
  have tR : Two W0 (w.heap.size + 1) (.bool false) (.slice none 0 0) := by
    have h := Two.new (w.alloc (.cells #[.bool n, .slice A xs.length c] 24)) (.bool false) (.slice none 0 0) 24
    rw [World.size_alloc] at h
    rw [hW0]; exact h
  have HW0 := Lib.hid hW0
  have HB0 := Lib.hid hb
  have HX := Lib.hid hx
  have hBW : w.heap.size + 1 ≤ W0.heap.size := by rw [hW0]; simp
  have Dsx : val b32 xs < b16 ^ (2 * xs.length) := by rw [← pow_2k]; exact val_lt hx.dg
  clear hW0 hb hx
  go_enter Try.func28, Try.ntmps28
  go_wp2_with fail
  rw [← HW0.out]
  have k1 := tX.c0
  have k2 := tX.c1
  refine (halves_r (HX.out.to HB0.out)).mono ?_
  rintro e V ⟨A1, c1, rfl, r1, l1, m1, bb⟩
  have H1 := Hr.of_ret r1 l1 m1 Dsx (by omega)
  have HOF := Lib.hid (of_r false H1)
  have t2 := tR.to bb
  have HB := Lib.hid (HB0.out.trans (bb.mono HB0.out.size))
  clear k1 k2 r1 l1 m1 bb H1 tX tR
  go_wp2_with fail
  refine HOF.out.mono ?_
  rintro e V2 ⟨xr, yr, rfl, rz, bb⟩
  have rz2 := rz
  obtain ⟨A3, c3, rfl, rfl, -⟩ := rz2
  have t3 := t2.to bb
  have HE := Lib.hid (HB.out.trans (bb.mono HB.out.size))
  have k0 := t3.c0
  have k1 := t3.c1
  have k2 := t3.f0
  have k3 := t3.f1
  have RZ := Lib.hid rz
  clear rz bb t2 HB HOF
  go_wp2
  have tF := t3.set (.bool (decide (zof false (val b32 xs) < 0))) (.slice A3 (dig b32 (zof false (val b32 xs)).natAbs).length c3)
  have KP := Kept.of t3 (fun n e => by cases e) (fun n e => by cases e) (.bool (decide (zof false (val b32 xs) < 0))) (.slice A3 (dig b32 (zof false (val b32 xs)).natAbs).length c3)
  have hz : zof false (val b32 xs) = ((val b32 xs : Nat) : Int) := by simp [zof]
  refine bodyPost_ret (v := .agg #[.bool (decide (zof false (val b32 xs) < 0)), .slice A3 (dig b32 (zof false (val b32 xs)).natAbs).length c3]) (by simp [results, Try.f28, go_sem, tF.c0, tF.c1]) rfl ?_
  rw [← hz]
  exact ⟨_, _, rfl, KP.zc _ _ _ RZ.out, KP.bel _ _ HE.out (by omega)⟩
  
theorem dig_len0 {b n : Nat} (hb : 1 < b) : (dig b n).length = 0 ↔ n = 0 :=
  ⟨fun h => (dig_nil hb).1 (List.eq_nil_of_length_eq_zero h), fun h => by rw [h]; rfl⟩

set_option maxRecDepth 100000 in
set_option maxHeartbeats 8000000 in
theorem rSign_any (n : Bool) {A : Option Addr} {c : Nat} {xs : List Nat} {w : World} (hx : Arg w A c xs) (sx : xs.length ≤ 10000) :
    Calls Try.prog 30 #[.agg #[.bool n, .slice A xs.length c]] w fun e w' => e = .returned (.int .i64 (sgn (zof n (val b32 xs)))) ∧ Below w.heap.size w w' := by
  obtain ⟨W0, hW0⟩ : ∃ W0, W0 = (w.alloc (.cells #[.bool n, .slice A xs.length c] 24)) := ⟨_, rfl⟩
  have hb : Below w.heap.size w W0 := by rw [hW0]; exact (Below.refl _ _).alloc (Nat.le_refl _) _
  have tX : Two W0 (w.heap.size) (.bool n) (.slice A xs.length c) := by
    have h := Two.new w (.bool n) (.slice A xs.length c) 24
    rw [hW0]; exact h
  have HW0 := Lib.hid hW0
  have HB0 := Lib.hid hb
  have HX := Lib.hid hx
  have hBW : w.heap.size + 1 ≤ W0.heap.size := by rw [hW0]; simp
  have Dsx : val b32 xs < b16 ^ (2 * xs.length) := by rw [← pow_2k]; exact val_lt hx.dg
  clear hW0 hb hx
  have HH := Lib.hid (halves_r (HX.out.to HB0.out))
  have h0 := @dig_len0 b16 (val b32 xs) b16_one
  obtain ⟨l, hl⟩ : ∃ l, (dig b16 (val b32 xs)).length = l := ⟨_, rfl⟩
  obtain ⟨v, hv⟩ : ∃ v, val b32 xs = v := ⟨_, rfl⟩
  rw [hv] at h0 hl HH
  rw [hv]
  rw [hl] at h0
  have HL := Lib.hid hl
  have HS : Hid ((l = 0 → sgn (zof n v) = 0) ∧ (l ≠ 0 → sgn (zof n v) = if n then -1 else 1)) := by
    refine ⟨fun h => by rw [h0.1 h, zof_zero]; rfl, fun h => ?_⟩
    have : v ≠ 0 := fun e => h (h0.2 e)
    cases n <;> simp only [sgn, zof, Bool.false_eq_true, if_false, if_true] <;> repeat' split
    all_goals omega
  clear hl h0 hv Dsx
  rcases Nat.eq_zero_or_pos l with hl0 | hl0
  · subst hl0
    rw [HS.out.1 rfl]
    go_enter Try.func30, Try.ntmps30
    go_wp2_with fail
    rw [← HW0.out]
    have k1 := tX.c0
    have k2 := tX.c1
    refine HH.out.mono ?_
    rintro e V ⟨A1, c1, rfl, r1, l1, m1, bb⟩
    rw [HL.out]
    have k3 := (tX.to bb).c0
    have k4 := (tX.to bb).c1
    have HB := Lib.hid (HB0.out.trans (bb.mono HB0.out.size))
    clear k1 k2 r1 l1 m1 bb tX
    go_wp2
    go_ret
    exact ⟨rfl, HB.out⟩
  · have hln : ((l : Int) == 0) = false := by rw [beq_eq_false_iff_ne]; omega
    rw [HS.out.2 (by omega)]
    cases n
    · go_enter Try.func30, Try.ntmps30
      go_wp2_with fail
      rw [← HW0.out]
      have k1 := tX.c0
      have k2 := tX.c1
      refine HH.out.mono ?_
      rintro e V ⟨A1, c1, rfl, r1, l1, m1, bb⟩
      rw [HL.out]
      have k3 := (tX.to bb).c0
      have k4 := (tX.to bb).c1
      have HB := Lib.hid (HB0.out.trans (bb.mono HB0.out.size))
      clear k1 k2 r1 l1 m1 bb tX
      go_wp2
      go_ret
      exact ⟨rfl, HB.out⟩
    · go_enter Try.func30, Try.ntmps30
      go_wp2_with fail
      rw [← HW0.out]
      have k1 := tX.c0
      have k2 := tX.c1
      refine HH.out.mono ?_
      rintro e V ⟨A1, c1, rfl, r1, l1, m1, bb⟩
      rw [HL.out]
      have k3 := (tX.to bb).c0
      have k4 := (tX.to bb).c1
      have HB := Lib.hid (HB0.out.trans (bb.mono HB0.out.size))
      clear k1 k2 r1 l1 m1 bb tX
      go_wp2
      go_ret
      exact ⟨rfl, HB.out⟩
end Go.Proofs.Ytlnjnoingiohjaa

namespace Go.Proofs.Ytlnjnoingiohjaa
open Go.RowKit Go.Shelf

theorem rsign_z {w : World} {x y : Value} {a : Int} (ha : Zl w x y a) : Calls Try.prog 30 #[.agg #[x, y]] w fun e w' => e = .returned (.int .i64 (sgn a)) ∧ Below w.heap.size w w' := by
  obtain ⟨n, A, c, xs, rfl, rfl, h3, h4, rfl⟩ := ha
  exact rSign_any n h3 h4

theorem cmp_signs {n m : Bool} {x y : Nat} (h : sgn (zof n x) = sgn (zof m y)) : (sgn (zof n x) < 0 → -cmpN x y = cmpZ (zof n x) (zof m y)) ∧ (¬ sgn (zof n x) < 0 → cmpN x y = cmpZ (zof n x) (zof m y)) := by
  have h1 := cmpZ_mag h
  rcases sgn_range (zof n x) with hs | hs | hs
  · rw [hs] at h1 ⊢; exact ⟨fun _ => by omega, fun h => by omega⟩
  · rw [hs] at h1 ⊢
    refine ⟨fun h => by omega, fun _ => ?_⟩
    rw [hs] at h
    have hx : x = 0 := by
      refine Classical.byContradiction fun hn => ?_
      cases n <;> simp only [sgn, zof, Bool.false_eq_true, if_false, if_true] at hs <;> (repeat' split at hs) <;> omega
    have hy : y = 0 := by
      refine Classical.byContradiction fun hn => ?_
      cases m <;> simp only [sgn, zof, Bool.false_eq_true, if_false, if_true] at h <;> (repeat' split at h) <;> omega
    subst hx hy
    rw [← h1]; simp [cmpN]
  · rw [hs] at h1 ⊢; exact ⟨fun h => by omega, fun _ => by omega⟩

set_option maxRecDepth 100000 in
set_option maxHeartbeats 8000000 in
theorem rCmp_any (n : Bool) (m : Bool) {A A' : Option Addr} {c c' : Nat} {xs ys : List Nat} {w : World} (hx : Arg w A c xs) (sx : xs.length ≤ 10000) (hy : Arg w A' c' ys) (sy : ys.length ≤ 10000) :
    Calls Try.prog 32 #[.agg #[.bool n, .slice A xs.length c], .agg #[.bool m, .slice A' ys.length c']] w fun e w' => e = .returned (.int .i64 (cmpZ (zof n (val b32 xs)) (zof m (val b32 ys)))) ∧ Below w.heap.size w w' := by
  obtain ⟨W0, hW0⟩ : ∃ W0, W0 = ((w.alloc (.cells #[.bool n, .slice A xs.length c] 24)).alloc (.cells #[.bool m, .slice A' ys.length c'] 24)) := ⟨_, rfl⟩
  have hb : Below w.heap.size w W0 := by rw [hW0]; exact ((Below.refl _ _).alloc (Nat.le_refl _) _).alloc (by simp) _
  have tX : Two W0 (w.heap.size) (.bool n) (.slice A xs.length c) := by
    have h := Two.new w (.bool n) (.slice A xs.length c) 24
    rw [hW0]; exact h.alloc _
  have tY : Two W0 (w.heap.size + 1) (.bool m) (.slice A' ys.length c') := by
    have h := Two.new (w.alloc (.cells #[.bool n, .slice A xs.length c] 24)) (.bool m) (.slice A' ys.length c') 24
    rw [World.size_alloc] at h
    rw [hW0]; exact h
  have HW0 := Lib.hid hW0
  have HB0 := Lib.hid hb
  have HX := Lib.hid hx
  have HY := Lib.hid hy
  have hBW : w.heap.size + 1 + 1 ≤ W0.heap.size := by rw [hW0]; simp
  have Dsx : val b32 xs < b16 ^ (2 * xs.length) := by rw [← pow_2k]; exact val_lt hx.dg
  have Dsy : val b32 ys < b16 ^ (2 * ys.length) := by rw [← pow_2k]; exact val_lt hy.dg
  clear hW0 hb hx hy
  have HS1 := Lib.hid fun (V : World) (h : Below w.heap.size w V) => rsign_z (w := V) (a := zof n (val b32 xs)) ⟨n, A, c, xs, rfl, rfl, HX.out.to h, sx, rfl⟩
  have HS2 := Lib.hid fun (V : World) (h : Below w.heap.size w V) => rsign_z (w := V) (a := zof m (val b32 ys)) ⟨m, A', c', ys, rfl, rfl, HY.out.to h, sy, rfl⟩
  have r1 := sgn_range (zof n (val b32 xs))
  have r2 := sgn_range (zof m (val b32 ys))
  have hne := @cmpZ_sgn (zof n (val b32 xs)) (zof m (val b32 ys))
  have heq := @cmp_signs n m (val b32 xs) (val b32 ys)
  obtain ⟨s1, e1⟩ : ∃ s, sgn (zof n (val b32 xs)) = s := ⟨_, rfl⟩
  obtain ⟨s2, e2⟩ : ∃ s, sgn (zof m (val b32 ys)) = s := ⟨_, rfl⟩
  obtain ⟨o, eo⟩ : ∃ o, cmpZ (zof n (val b32 xs)) (zof m (val b32 ys)) = o := ⟨_, rfl⟩
  rw [e1] at HS1 r1 hne heq
  rw [e2] at HS2 r2 hne heq
  rw [eo] at hne heq ⊢
  clear e1 e2 eo
  by_cases h12 : s1 = s2
  · subst h12
    obtain ⟨v, ev⟩ : ∃ v, cmpN (val b32 xs) (val b32 ys) = v := ⟨_, rfl⟩
    have hq := heq rfl
    rw [ev] at hq
    have EV := Lib.hid ev
    have hss : (s1 != s1) = false := by simp
    have rv : v = -1 ∨ v = 0 ∨ v = 1 := by rw [← ev]; unfold cmpN; split <;> (try split) <;> simp
    clear hne heq ev r2
    go_enter Try.func32, Try.ntmps32
    go_wp2_with fail
    rw [← HW0.out]
    refine wp_region_plan (S := fun w' => Below (w.heap.size + 1 + 1) W0 w') [(0, true), (2, true), (1, false), (3, false), (4, true)] (by kernel_rfl) (by kernel_rfl) (Below.refl _ _).drew ?_
    have HB := (Below.refl W0.heap.size W0).drew
    repeat (refine plan_take (v := ?_) rfl (by rfl) ?_ ?_; rotate_left; (focus (intro w' hS; have k0 := (tX.toB hS (by omega)).c0; have k1 := (tX.toB hS (by omega)).c1; have k2 := (tY.toB hS (by omega)).c0; have k3 := (tY.toB hS (by omega)).c1; go_simp; try with_reducible rfl)); simp only [Act.put, List.setIfInBounds_toArray, List.set_cons_zero, List.set_cons_succ])
    refine plan_call rfl (by rfl) (fun K hK => ?_)
    go_simp
    refine (HS1.out _ (HB0.out.trans (HB.mono HB0.out.size))).mono ?_
    rintro e V ⟨rfl, bb⟩
    replace HB := HB.trans (bb.mono HB.size)
    clear bb
    refine hK.out _ _ (HB.mono hBW) ?_
    clear hK K
    refine plan_call rfl (by rfl) (fun K hK => ?_)
    go_simp
    refine (HS2.out _ (HB0.out.trans (HB.mono HB0.out.size))).mono ?_
    rintro e V ⟨rfl, bb⟩
    replace HB := HB.trans (bb.mono HB.size)
    clear bb
    refine hK.out _ _ (HB.mono hBW) ?_
    clear hK K
    repeat (refine plan_take (v := ?_) rfl (by rfl) ?_ ?_; rotate_left; (focus (intro w' hS; have k0 := (tX.toB hS (by omega)).c0; have k1 := (tX.toB hS (by omega)).c1; have k2 := (tY.toB hS (by omega)).c0; have k3 := (tY.toB hS (by omega)).c1; go_simp; try with_reducible rfl)); simp only [Act.put, List.setIfInBounds_toArray, List.set_cons_zero, List.set_cons_succ])
    refine plan_done ?_
    have k1 := (tX.to HB).c0
    have k2 := (tX.to HB).c1
    have k3 := (tY.to HB).c0
    have k4 := (tY.to HB).c1
    go_wp2_with fail
    clear k1 k2 k3 k4
    refine wp_region_plan (S := fun w' => Below (w.heap.size + 1 + 1) W0 w') [(0, true), (1, true), (3, true), (4, true), (2, false), (5, false), (6, false), (7, true)] (by kernel_rfl) (by kernel_rfl) (HB.mono hBW).drew ?_
    replace HB := HB.drew
    repeat (refine plan_take (v := ?_) rfl (by rfl) ?_ ?_; rotate_left; (focus (intro w' hS; have k0 := (tX.toB hS (by omega)).c0; have k1 := (tX.toB hS (by omega)).c1; have k2 := (tY.toB hS (by omega)).c0; have k3 := (tY.toB hS (by omega)).c1; go_simp; try with_reducible rfl)); simp only [Act.put, List.setIfInBounds_toArray, List.set_cons_zero, List.set_cons_succ])
    refine plan_call rfl (by rfl) (fun K hK => ?_)
    go_simp
    refine (halves_r (HX.out.to (HB0.out.trans (HB.mono HB0.out.size)))).mono ?_
    rintro e V ⟨A1, c1, rfl, t1, l1, m1, bb⟩
    replace HB := HB.trans (bb.mono HB.size)
    have H1 := Hr.of_ret t1 l1 m1 Dsx (by omega)
    clear t1 l1 m1 bb
    refine hK.out _ _ (HB.mono hBW) ?_
    clear hK K
    refine plan_call rfl (by rfl) (fun K hK => ?_)
    go_simp
    refine (halves_r (HY.out.to (HB0.out.trans (HB.mono HB0.out.size)))).mono ?_
    rintro e V ⟨A2, c2, rfl, t1, l1, m1, bb⟩
    replace HB := HB.trans (bb.mono HB.size)
    have H2 := Hr.of_ret t1 l1 m1 Dsy (by omega)
    replace H1 := H1.to bb
    clear t1 l1 m1 bb
    refine hK.out _ _ (HB.mono hBW) ?_
    clear hK K
    have HC := Lib.hid (cmp_r H1 H2)
    rw [EV.out] at HC
    refine plan_call rfl (by rfl) (fun K hK => ?_)
    go_simp
    refine HC.out.mono ?_
    rintro e V2 ⟨rfl, rfl⟩
    refine hK.out _ _ (HB.mono hBW) ?_
    clear hK K HC H1 H2
    repeat (refine plan_take (v := ?_) rfl (by rfl) ?_ ?_; rotate_left; (focus (intro w' hS; have k0 := (tX.toB hS (by omega)).c0; have k1 := (tX.toB hS (by omega)).c1; have k2 := (tY.toB hS (by omega)).c0; have k3 := (tY.toB hS (by omega)).c1; go_simp; try with_reducible rfl)); simp only [Act.put, List.setIfInBounds_toArray, List.set_cons_zero, List.set_cons_succ])
    refine plan_done ?_
    have k1 := (tX.to HB).c0
    have k2 := (tX.to HB).c1
    have k3 := (tY.to HB).c0
    have k4 := (tY.to HB).c1
    go_wp2_with fail
    refine (HS1.out _ (HB0.out.trans (HB.mono HB0.out.size))).mono ?_
    rintro e V3 ⟨rfl, bb⟩
    have HE := Lib.hid (HB0.out.trans ((HB.trans (bb.mono HB.size)).mono HB0.out.size))
    clear k1 k2 k3 k4 bb HB tX tY
    by_cases hs : s1 < 0
    · have h1 := hq.1 (by omega)
      have hw : IntKind.i64.wrap (-v) = o := by rw [← h1]; rcases rv with rfl | rfl | rfl <;> decide
      clear hq h1 rv r1
      go_wp2
      go_ret
      exact ⟨rfl, HE.out⟩
    · have h1 := hq.2 (by omega)
      subst h1
      clear hq rv r1
      go_wp2
      go_ret
      exact ⟨rfl, HE.out⟩
  · have hss : (s1 != s2) = true := by simpa using h12
    obtain ⟨hz, -⟩ := hne h12
    clear heq hne r1 r2
    rcases Int.lt_or_le s1 s2 with hlt | hge
    · have ho : o = -1 := by rw [← hz]; unfold cmpZ; rw [if_pos hlt]
      subst ho
      clear hz
      go_enter Try.func32, Try.ntmps32
      go_wp2_with fail
      rw [← HW0.out]
      refine wp_region_plan (S := fun w' => Below (w.heap.size + 1 + 1) W0 w') [(0, true), (2, true), (1, false), (3, false), (4, true)] (by kernel_rfl) (by kernel_rfl) (Below.refl _ _).drew ?_
      have HB := (Below.refl W0.heap.size W0).drew
      repeat (refine plan_take (v := ?_) rfl (by rfl) ?_ ?_; rotate_left; (focus (intro w' hS; have k0 := (tX.toB hS (by omega)).c0; have k1 := (tX.toB hS (by omega)).c1; have k2 := (tY.toB hS (by omega)).c0; have k3 := (tY.toB hS (by omega)).c1; go_simp; try with_reducible rfl)); simp only [Act.put, List.setIfInBounds_toArray, List.set_cons_zero, List.set_cons_succ])
      refine plan_call rfl (by rfl) (fun K hK => ?_)
      go_simp
      refine (HS1.out _ (HB0.out.trans (HB.mono HB0.out.size))).mono ?_
      rintro e V ⟨rfl, bb⟩
      replace HB := HB.trans (bb.mono HB.size)
      clear bb
      refine hK.out _ _ (HB.mono hBW) ?_
      clear hK K
      refine plan_call rfl (by rfl) (fun K hK => ?_)
      go_simp
      refine (HS2.out _ (HB0.out.trans (HB.mono HB0.out.size))).mono ?_
      rintro e V ⟨rfl, bb⟩
      replace HB := HB.trans (bb.mono HB.size)
      clear bb
      refine hK.out _ _ (HB.mono hBW) ?_
      clear hK K
      repeat (refine plan_take (v := ?_) rfl (by rfl) ?_ ?_; rotate_left; (focus (intro w' hS; have k0 := (tX.toB hS (by omega)).c0; have k1 := (tX.toB hS (by omega)).c1; have k2 := (tY.toB hS (by omega)).c0; have k3 := (tY.toB hS (by omega)).c1; go_simp; try with_reducible rfl)); simp only [Act.put, List.setIfInBounds_toArray, List.set_cons_zero, List.set_cons_succ])
      refine plan_done ?_
      have k1 := (tX.to HB).c0
      have k2 := (tX.to HB).c1
      have k3 := (tY.to HB).c0
      have k4 := (tY.to HB).c1
      go_wp2_with fail
      clear k1 k2 k3 k4
      refine wp_region_plan (S := fun w' => Below (w.heap.size + 1 + 1) W0 w') [(0, true), (2, true), (1, false), (3, false), (4, true)] (by kernel_rfl) (by kernel_rfl) (HB.mono hBW).drew ?_
      replace HB := HB.drew
      repeat (refine plan_take (v := ?_) rfl (by rfl) ?_ ?_; rotate_left; (focus (intro w' hS; have k0 := (tX.toB hS (by omega)).c0; have k1 := (tX.toB hS (by omega)).c1; have k2 := (tY.toB hS (by omega)).c0; have k3 := (tY.toB hS (by omega)).c1; go_simp; try with_reducible rfl)); simp only [Act.put, List.setIfInBounds_toArray, List.set_cons_zero, List.set_cons_succ])
      refine plan_call rfl (by rfl) (fun K hK => ?_)
      go_simp
      refine (HS1.out _ (HB0.out.trans (HB.mono HB0.out.size))).mono ?_
      rintro e V ⟨rfl, bb⟩
      replace HB := HB.trans (bb.mono HB.size)
      clear bb
      refine hK.out _ _ (HB.mono hBW) ?_
      clear hK K
      refine plan_call rfl (by rfl) (fun K hK => ?_)
      go_simp
      refine (HS2.out _ (HB0.out.trans (HB.mono HB0.out.size))).mono ?_
      rintro e V ⟨rfl, bb⟩
      replace HB := HB.trans (bb.mono HB.size)
      clear bb
      refine hK.out _ _ (HB.mono hBW) ?_
      clear hK K
      repeat (refine plan_take (v := ?_) rfl (by rfl) ?_ ?_; rotate_left; (focus (intro w' hS; have k0 := (tX.toB hS (by omega)).c0; have k1 := (tX.toB hS (by omega)).c1; have k2 := (tY.toB hS (by omega)).c0; have k3 := (tY.toB hS (by omega)).c1; go_simp; try with_reducible rfl)); simp only [Act.put, List.setIfInBounds_toArray, List.set_cons_zero, List.set_cons_succ])
      refine plan_done ?_
      have HE := Lib.hid (HB0.out.trans (HB.mono HB0.out.size))
      clear HB tX tY
      go_wp2
      go_ret
      exact ⟨rfl, HE.out⟩
    · have ho : o = 1 := by rw [← hz]; unfold cmpZ; rw [if_neg (by omega), if_pos (by omega)]
      subst ho
      clear hz
      go_enter Try.func32, Try.ntmps32
      go_wp2_with fail
      rw [← HW0.out]
      refine wp_region_plan (S := fun w' => Below (w.heap.size + 1 + 1) W0 w') [(0, true), (2, true), (1, false), (3, false), (4, true)] (by kernel_rfl) (by kernel_rfl) (Below.refl _ _).drew ?_
      have HB := (Below.refl W0.heap.size W0).drew
      repeat (refine plan_take (v := ?_) rfl (by rfl) ?_ ?_; rotate_left; (focus (intro w' hS; have k0 := (tX.toB hS (by omega)).c0; have k1 := (tX.toB hS (by omega)).c1; have k2 := (tY.toB hS (by omega)).c0; have k3 := (tY.toB hS (by omega)).c1; go_simp; try with_reducible rfl)); simp only [Act.put, List.setIfInBounds_toArray, List.set_cons_zero, List.set_cons_succ])
      refine plan_call rfl (by rfl) (fun K hK => ?_)
      go_simp
      refine (HS1.out _ (HB0.out.trans (HB.mono HB0.out.size))).mono ?_
      rintro e V ⟨rfl, bb⟩
      replace HB := HB.trans (bb.mono HB.size)
      clear bb
      refine hK.out _ _ (HB.mono hBW) ?_
      clear hK K
      refine plan_call rfl (by rfl) (fun K hK => ?_)
      go_simp
      refine (HS2.out _ (HB0.out.trans (HB.mono HB0.out.size))).mono ?_
      rintro e V ⟨rfl, bb⟩
      replace HB := HB.trans (bb.mono HB.size)
      clear bb
      refine hK.out _ _ (HB.mono hBW) ?_
      clear hK K
      repeat (refine plan_take (v := ?_) rfl (by rfl) ?_ ?_; rotate_left; (focus (intro w' hS; have k0 := (tX.toB hS (by omega)).c0; have k1 := (tX.toB hS (by omega)).c1; have k2 := (tY.toB hS (by omega)).c0; have k3 := (tY.toB hS (by omega)).c1; go_simp; try with_reducible rfl)); simp only [Act.put, List.setIfInBounds_toArray, List.set_cons_zero, List.set_cons_succ])
      refine plan_done ?_
      have k1 := (tX.to HB).c0
      have k2 := (tX.to HB).c1
      have k3 := (tY.to HB).c0
      have k4 := (tY.to HB).c1
      go_wp2_with fail
      clear k1 k2 k3 k4
      refine wp_region_plan (S := fun w' => Below (w.heap.size + 1 + 1) W0 w') [(0, true), (2, true), (1, false), (3, false), (4, true)] (by kernel_rfl) (by kernel_rfl) (HB.mono hBW).drew ?_
      replace HB := HB.drew
      repeat (refine plan_take (v := ?_) rfl (by rfl) ?_ ?_; rotate_left; (focus (intro w' hS; have k0 := (tX.toB hS (by omega)).c0; have k1 := (tX.toB hS (by omega)).c1; have k2 := (tY.toB hS (by omega)).c0; have k3 := (tY.toB hS (by omega)).c1; go_simp; try with_reducible rfl)); simp only [Act.put, List.setIfInBounds_toArray, List.set_cons_zero, List.set_cons_succ])
      refine plan_call rfl (by rfl) (fun K hK => ?_)
      go_simp
      refine (HS1.out _ (HB0.out.trans (HB.mono HB0.out.size))).mono ?_
      rintro e V ⟨rfl, bb⟩
      replace HB := HB.trans (bb.mono HB.size)
      clear bb
      refine hK.out _ _ (HB.mono hBW) ?_
      clear hK K
      refine plan_call rfl (by rfl) (fun K hK => ?_)
      go_simp
      refine (HS2.out _ (HB0.out.trans (HB.mono HB0.out.size))).mono ?_
      rintro e V ⟨rfl, bb⟩
      replace HB := HB.trans (bb.mono HB.size)
      clear bb
      refine hK.out _ _ (HB.mono hBW) ?_
      clear hK K
      repeat (refine plan_take (v := ?_) rfl (by rfl) ?_ ?_; rotate_left; (focus (intro w' hS; have k0 := (tX.toB hS (by omega)).c0; have k1 := (tX.toB hS (by omega)).c1; have k2 := (tY.toB hS (by omega)).c0; have k3 := (tY.toB hS (by omega)).c1; go_simp; try with_reducible rfl)); simp only [Act.put, List.setIfInBounds_toArray, List.set_cons_zero, List.set_cons_succ])
      refine plan_done ?_
      have HE := Lib.hid (HB0.out.trans (HB.mono HB0.out.size))
      clear HB tX tY
      go_wp2
      go_ret
      exact ⟨rfl, HE.out⟩

theorem rcmp_z {w : World} {x y x' y' : Value} {a b : Int} (ha : Zl w x y a) (hb : Zl w x' y' b) : Calls Try.prog 32 #[.agg #[x, y], .agg #[x', y']] w fun e w' => e = .returned (.int .i64 (cmpZ a b)) ∧ Below w.heap.size w w' := by
  obtain ⟨n, A, c, xs, rfl, rfl, h3, h4, rfl⟩ := ha
  obtain ⟨m, B, d, ys, rfl, rfl, k3, k4, rfl⟩ := hb
  exact rCmp_any n m h3 h4 k3 k4
theorem rsub_z {w : World} {x y x' y' : Value} {a b : Int} (ha : Zl w x y a) (hb : Zl w x' y' b) : Calls Try.prog 22 #[.agg #[x, y], .agg #[x', y']] w (ZR w (a - b)) := by
  obtain ⟨n, A, c, xs, rfl, rfl, h3, h4, rfl⟩ := ha
  obtain ⟨m, B, d, ys, rfl, rfl, k3, k4, rfl⟩ := hb
  exact rSub_any n m h3 h4 k3 k4
theorem rabs_z {w : World} {x y : Value} {a : Int} (ha : Zl w x y a) : Calls Try.prog 28 #[.agg #[x, y]] w (ZR w (a.natAbs : Int)) := by
  obtain ⟨n, A, c, xs, rfl, rfl, h3, h4, rfl⟩ := ha
  rw [zof_abs]
  exact rAbs_any n h3 h4
end Go.Proofs.Ytlnjnoingiohjaa

namespace Go.Proofs.Ytlnjnoingiohjaa
open Go.RowKit Go.Shelf

/-- Whether an int64 holds z, and what Int64 hands back. -/
def inI (z : Int) : Bool := decide (-9223372036854775808 ≤ z ∧ z ≤ 9223372036854775807)
def i64v (z : Int) : Int := if inI z then z else 0

theorem inI_t {z : Int} (h1 : -9223372036854775808 ≤ z) (h2 : z ≤ 9223372036854775807) : inI z = true ∧ i64v z = z := by
  have h : inI z = true := decide_eq_true ⟨h1, h2⟩
  exact ⟨h, by unfold i64v; rw [h]; rfl⟩
theorem inI_f {z : Int} (h1 : ¬ (-9223372036854775808 ≤ z ∧ z ≤ 9223372036854775807)) : inI z = false ∧ i64v z = 0 := by
  have h : inI z = false := decide_eq_false h1
  exact ⟨h, by unfold i64v; rw [h]; rfl⟩

theorem trim_long {xs : List Nat} (hd : Dg b32 xs) (h : 2 < (trimL xs).length) : 18446744073709551616 ≤ val b32 xs := by
  refine Classical.byContradiction fun hn => ?_
  have h1 := dig_length_le b32_one (k := 2) (n := val b32 xs) (by rw [show b32 ^ 2 = 18446744073709551616 from by decide]; omega)
  rw [← trimL_dig b32_one hd] at h1
  omega

set_option maxRecDepth 100000 in
set_option maxHeartbeats 4000000 in
theorem int64_any (n : Bool) {A : Option Addr} {c : Nat} {xs : List Nat} {w : World} (hx : Arg w A c xs) :
    Calls Try.prog 12 #[.agg #[.bool n, .slice A xs.length c]] w fun e w' => e = .returned (.tuple #[.int .i64 (i64v (zof n (val b32 xs))), .bool (inI (zof n (val b32 xs)))]) ∧ Below w.heap.size w w' := by
  have hb := Lib.hid ((Below.refl w.heap.size w).alloc (Nat.le_refl _) (.cells #[.bool n, .slice A xs.length c] 24))
  have HT := Lib.hid (trim_q (hx.to hb.out))
  have hdg := hx.dg
  have hlong := trim_long hdg
  have hv := val_trimL (b := b32) xs
  have HU : Hid ((trimL xs).length ≤ 2 → Calls Try.prog 45 #[.slice A (trimL xs).length c] (w.alloc (.cells #[.bool n, .slice A xs.length c] 24)) fun e w' => e = .returned (.int .u64 (val b32 (trimL xs) : Nat)) ∧ (w.alloc (.cells #[.bool n, .slice A xs.length c] 24)) = w') := fun h =>
    toUint64_any (hx.to hb.out).trim.rd (hx.to hb.out).trim.dg h
  obtain ⟨l, hl⟩ : ∃ l, (trimL xs).length = l := ⟨_, rfl⟩
  obtain ⟨v, ev⟩ : ∃ v, val b32 xs = v := ⟨_, rfl⟩
  have hv64 : l ≤ 2 → v < 18446744073709551616 := fun h => by
    have h1 := val_lt hx.trim.dg
    rw [val_trimL, ev] at h1
    have h2 : b32 ^ (trimL xs).length ≤ b32 ^ 2 := Nat.pow_le_pow_right (by decide) (by omega)
    rw [show b32 ^ 2 = 18446744073709551616 from by decide] at h2
    omega
  have hsl : l ≤ 4294967295 := by rw [← hl]; exact Nat.le_trans (trimL_le xs) hx.small
  rw [hv] at HU
  rw [ev] at HU hlong
  rw [hl] at HT HU hlong
  rw [ev]
  clear hv ev hl hdg hx
  rcases Nat.lt_or_ge 2 l with h2 | h2
  · have hz := hlong h2
    obtain ⟨i1, i2⟩ := inI_f (z := zof n v) (by cases n <;> simp [zof] <;> omega)
    rw [i1, i2]
    clear i1 i2 hz hlong hv64
    go_enter Try.func12, Try.ntmps12
    go_wp2_with fail
    refine HT.out.mono ?_
    rintro e w' ⟨rfl, rfl⟩
    go_wp2
    go_ret2
    exact ⟨rfl, hb.out⟩
  · have HU2 := Lib.hid (HU.out h2)
    have hv := hv64 h2
    clear hlong hv64 HU
    cases n with
    | false =>
      rcases Nat.lt_or_ge 9223372036854775807 v with hbig | hsm
      · obtain ⟨i1, i2⟩ := inI_f (z := zof false v) (by simp [zof]; omega)
        rw [i1, i2]
        clear i1 i2
        rcases Nat.lt_or_ge 9223372036854775808 v with hb2 | hb2
        all_goals
          go_enter Try.func12, Try.ntmps12
          go_wp2_with fail
          refine HT.out.mono ?_
          rintro e w' ⟨rfl, rfl⟩
          go_wp2_with fail
          refine HU2.out.mono ?_
          rintro e w' ⟨rfl, rfl⟩
          go_wp2
          go_ret2
          exact ⟨rfl, hb.out⟩
      · obtain ⟨i1, i2⟩ := inI_t (z := zof false v) (by unfold zof; simp only [Bool.false_eq_true, if_false]; omega) (by unfold zof; simp only [Bool.false_eq_true, if_false]; omega)
        rw [i1, i2, show zof false v = (v : Int) from by simp [zof]]
        have g := wrap_nat v (by omega)
        clear i1 i2
        go_enter Try.func12, Try.ntmps12
        go_wp2_with fail
        refine HT.out.mono ?_
        rintro e w' ⟨rfl, rfl⟩
        go_wp2_with fail
        refine HU2.out.mono ?_
        rintro e w' ⟨rfl, rfl⟩
        go_wp2
        go_ret2
        exact ⟨rfl, hb.out⟩
    | true =>
      rcases Nat.lt_or_ge 9223372036854775808 v with hbig | hsm
      · obtain ⟨i1, i2⟩ := inI_f (z := zof true v) (by simp [zof]; omega)
        rw [i1, i2]
        clear i1 i2
        go_enter Try.func12, Try.ntmps12
        go_wp2_with fail
        refine HT.out.mono ?_
        rintro e w' ⟨rfl, rfl⟩
        go_wp2_with fail
        refine HU2.out.mono ?_
        rintro e w' ⟨rfl, rfl⟩
        go_wp2
        go_ret2
        exact ⟨rfl, hb.out⟩
      · obtain ⟨i1, i2⟩ := inI_t (z := zof true v) (by unfold zof; simp only [if_true]; omega) (by unfold zof; simp only [if_true]; omega)
        obtain ⟨z, ez⟩ : ∃ z, zof true v = z := ⟨_, rfl⟩
        obtain ⟨u, eu⟩ : ∃ u, IntKind.i64.wrap ((v : Nat) : Int) = u := ⟨_, rfl⟩
        have g : IntKind.i64.wrap (-u) = z := by
          rw [← eu, ← ez, IntKind.wrap_i64, IntKind.wrap_i64]
          simp [zof]
          omega
        rw [i1, i2, ez]
        clear i1 i2 ez
        rcases Nat.lt_or_ge 9223372036854775807 v with hb2 | hb2
        all_goals
          go_enter Try.func12, Try.ntmps12
          go_wp2_with fail
          refine HT.out.mono ?_
          rintro e w' ⟨rfl, rfl⟩
          go_wp2_with fail
          refine HU2.out.mono ?_
          rintro e w' ⟨rfl, rfl⟩
          go_wp2
          go_ret2
          exact ⟨rfl, hb.out⟩
end Go.Proofs.Ytlnjnoingiohjaa

namespace Go.Proofs.Ytlnjnoingiohjaa
open Go.RowKit Go.Shelf

theorem Sm.i64 {v : Int} (h1 : -9223372036854775808 ≤ v) (h2 : v ≤ 9223372036854775807) : Sm 2 v := by
  unfold Sm
  rw [show b32 ^ 2 = 18446744073709551616 from by decide]
  omega
theorem cmpZ_lt {a b : Int} (h : a < b) : cmpZ a b = -1 := by simp [cmpZ, h]
theorem cmpZ_ge {a b : Int} (h : b ≤ a) : 0 ≤ cmpZ a b := by unfold cmpZ; rw [if_neg (by omega)]; split <;> omega
theorem cmpZ_gt {a b : Int} (h : b < a) : cmpZ a b = 1 := by unfold cmpZ; rw [if_neg (by omega), if_pos h]
theorem cmpZ_le {a b : Int} (h : a ≤ b) : cmpZ a b ≤ 0 := by unfold cmpZ; split <;> (try split) <;> omega
theorem u64_neg {v : Nat} (h : v ≤ 9223372036854775808) : IntKind.i64.wrap (IntKind.u64.wrap (-(v : Int))) = -(v : Int) := by
  rw [IntKind.wrap_i64, IntKind.wrap_u64]; omega

set_option maxRecDepth 100000 in
set_option maxHeartbeats 8000000 in
theorem rInt_any (n : Bool) {A : Option Addr} {c : Nat} {xs : List Nat} {w : World} (hx : Arg w A c xs) (sx : xs.length ≤ 10000) :
    Calls Try.prog 13 #[.agg #[.bool n, .slice A xs.length c]] w fun e w' => e = .returned (.tuple #[.int .i64 (i64v (zof n (val b32 xs))), .bool (inI (zof n (val b32 xs)))]) ∧ Below w.heap.size w w' := by
  obtain ⟨W0, hW0⟩ : ∃ W0, W0 = (w.alloc (.cells #[.bool n, .slice A xs.length c] 24)) := ⟨_, rfl⟩
  have hb : Below w.heap.size w W0 := by rw [hW0]; exact (Below.refl _ _).alloc (Nat.le_refl _) _
  have tX : Two W0 (w.heap.size) (.bool n) (.slice A xs.length c) := by
    have h := Two.new w (.bool n) (.slice A xs.length c) 24
    rw [hW0]; exact h
  have HW0 := Lib.hid hW0
  have HB0 := Lib.hid hb
  have HX := Lib.hid hx
  have hBW : w.heap.size + 1 ≤ W0.heap.size := by rw [hW0]; simp
  have Dsx : val b32 xs < b16 ^ (2 * xs.length) := by rw [← pow_2k]; exact val_lt hx.dg
  clear hW0 hb hx
  obtain ⟨z, ez⟩ : ∃ z, zof n (val b32 xs) = z := ⟨_, rfl⟩
  have HZ := Lib.hid fun (V : World) (h : Below w.heap.size w V) => (⟨n, A, c, xs, rfl, rfl, HX.out.to h, sx, ez⟩ : Zl V (.bool n) (.slice A xs.length c) z)
  rw [ez]
  by_cases h1 : z < -9223372036854775808
  · obtain ⟨i1, i2⟩ := inI_f (z := z) (by omega)
    rw [i1, i2]
    have ho := cmpZ_lt h1
    clear i1 i2 Dsx h1
    go_enter Try.func13, Try.ntmps13
    go_wp2_with fail
    rw [← HW0.out]
    refine wp_region_plan (S := fun w' => Below (w.heap.size + 1) W0 w') [(0, true), (1, false), (2, false), (3, true), (4, true), (5, true), (6, true), (7, true), (8, true), (9, true)] (by kernel_rfl) (by kernel_rfl) (Below.refl _ _).drew ?_
    have HB := (Below.refl W0.heap.size W0).drew
    repeat (refine plan_take (v := ?_) rfl (by rfl) ?_ ?_; rotate_left; (focus (intro w' hS; have k0 := (tX.toB hS (by omega)).c0; have k1 := (tX.toB hS (by omega)).c1; go_simp; try with_reducible rfl)); simp only [Act.put, List.setIfInBounds_toArray, List.set_cons_zero, List.set_cons_succ])
    refine plan_call rfl (by rfl) (fun K hK => ?_)
    go_simp
    refine (rfrom_z (-9223372036854775808) (by decide) (by decide) _).mono ?_
    rintro e V ⟨xr, yr, rfl, rz, bb⟩
    replace HB := HB.trans (bb.mono HB.size)
    clear bb
    refine hK.out _ _ (HB.mono hBW) ?_
    clear hK K
    refine plan_call rfl (by rfl) (fun K hK => ?_)
    go_simp
    refine (rcmp_z (HZ.out _ (HB0.out.trans (HB.mono HB0.out.size))) (rz.zl (Sm.i64 (by decide) (by decide)) (by decide))).mono ?_
    rintro e V ⟨rfl, bb⟩
    replace HB := HB.trans (bb.mono HB.size)
    clear bb rz
    refine hK.out _ _ (HB.mono hBW) ?_
    clear hK K
  
    repeat (refine plan_take (v := ?_) rfl (by rfl) ?_ ?_; rotate_left; (focus (intro w' hS; have k0 := (tX.toB hS (by omega)).c0; have k1 := (tX.toB hS (by omega)).c1; go_simp; try with_reducible rfl)); simp only [Act.put, List.setIfInBounds_toArray, List.set_cons_zero, List.set_cons_succ])
    iterate 4 (refine plan_skip rfl (by rfl) ?_; simp only [Act.put, List.setIfInBounds_toArray, List.set_cons_zero, List.set_cons_succ])
    repeat (refine plan_take (v := ?_) rfl (by rfl) ?_ ?_; rotate_left; (focus (intro w' hS; have k0 := (tX.toB hS (by omega)).c0; have k1 := (tX.toB hS (by omega)).c1; go_simp; try with_reducible rfl)); simp only [Act.put, List.setIfInBounds_toArray, List.set_cons_zero, List.set_cons_succ])
    refine plan_done ?_
    have HE := Lib.hid (HB0.out.trans (HB.mono HB0.out.size))
    clear HB tX
    go_wp2
    go_ret2
    exact ⟨rfl, HE.out⟩
  · by_cases h2 : 9223372036854775807 < z
    · obtain ⟨i1, i2⟩ := inI_f (z := z) (by omega)
      rw [i1, i2]
      have ho := cmpZ_ge (a := z) (b := -9223372036854775808) (by omega)
      have ho2 := cmpZ_gt h2
      obtain ⟨o1, eo1⟩ : ∃ o, cmpZ z (-9223372036854775808) = o := ⟨_, rfl⟩
      rw [eo1] at ho
      have hd1 : decide (o1 < 0) = false := decide_eq_false (by omega)
      clear i1 i2 Dsx h1 h2
      go_enter Try.func13, Try.ntmps13
      go_wp2_with fail
      rw [← HW0.out]
      refine wp_region_plan (S := fun w' => Below (w.heap.size + 1) W0 w') [(0, true), (1, false), (2, false), (3, true), (4, true), (5, true), (6, false), (7, false), (8, true), (9, true)] (by kernel_rfl) (by kernel_rfl) (Below.refl _ _).drew ?_
      have HB := (Below.refl W0.heap.size W0).drew
      repeat (refine plan_take (v := ?_) rfl (by rfl) ?_ ?_; rotate_left; (focus (intro w' hS; have k0 := (tX.toB hS (by omega)).c0; have k1 := (tX.toB hS (by omega)).c1; go_simp; try with_reducible rfl)); simp only [Act.put, List.setIfInBounds_toArray, List.set_cons_zero, List.set_cons_succ])
      refine plan_call rfl (by rfl) (fun K hK => ?_)
      go_simp
      refine (rfrom_z (-9223372036854775808) (by decide) (by decide) _).mono ?_
      rintro e V ⟨xr, yr, rfl, rz, bb⟩
      replace HB := HB.trans (bb.mono HB.size)
      clear bb
      refine hK.out _ _ (HB.mono hBW) ?_
      clear hK K
      refine plan_call rfl (by rfl) (fun K hK => ?_)
      go_simp
      refine (rcmp_z (HZ.out _ (HB0.out.trans (HB.mono HB0.out.size))) (rz.zl (Sm.i64 (by decide) (by decide)) (by decide))).mono ?_
      rintro e V ⟨rfl, bb⟩
      replace HB := HB.trans (bb.mono HB.size)
      clear bb rz
      refine hK.out _ _ (HB.mono hBW) ?_
      clear hK K
    
      repeat (refine plan_take (v := ?_) rfl (by rfl) ?_ ?_; rotate_left; (focus (intro w' hS; have k0 := (tX.toB hS (by omega)).c0; have k1 := (tX.toB hS (by omega)).c1; go_simp; try with_reducible rfl)); simp only [Act.put, List.setIfInBounds_toArray, List.set_cons_zero, List.set_cons_succ])
      refine plan_call rfl (by rfl) (fun K hK => ?_)
      go_simp
      refine (rfrom_z 9223372036854775807 (by decide) (by decide) _).mono ?_
      rintro e V ⟨xr, yr, rfl, rz, bb⟩
      replace HB := HB.trans (bb.mono HB.size)
      clear bb
      refine hK.out _ _ (HB.mono hBW) ?_
      clear hK K
      refine plan_call rfl (by rfl) (fun K hK => ?_)
      go_simp
      refine (rcmp_z (HZ.out _ (HB0.out.trans (HB.mono HB0.out.size))) (rz.zl (Sm.i64 (by decide) (by decide)) (by decide))).mono ?_
      rintro e V ⟨rfl, bb⟩
      replace HB := HB.trans (bb.mono HB.size)
      clear bb rz
      refine hK.out _ _ (HB.mono hBW) ?_
      clear hK K
      repeat (refine plan_take (v := ?_) rfl (by rfl) ?_ ?_; rotate_left; (focus (intro w' hS; have k0 := (tX.toB hS (by omega)).c0; have k1 := (tX.toB hS (by omega)).c1; go_simp; try with_reducible rfl)); simp only [Act.put, List.setIfInBounds_toArray, List.set_cons_zero, List.set_cons_succ])
      refine plan_done ?_
      have HE := Lib.hid (HB0.out.trans (HB.mono HB0.out.size))
      clear HB tX
      go_wp2
      go_ret2
      exact ⟨rfl, HE.out⟩
    · obtain ⟨i1, i2⟩ := inI_t (z := z) (by omega) (by omega)
      rw [i1, i2]
      have ho := cmpZ_ge (a := z) (b := -9223372036854775808) (by omega)
      have ho2 := cmpZ_le (a := z) (b := 9223372036854775807) (by omega)
      obtain ⟨o1, eo1⟩ : ∃ o, cmpZ z (-9223372036854775808) = o := ⟨_, rfl⟩
      obtain ⟨o2, eo2⟩ : ∃ o, cmpZ z 9223372036854775807 = o := ⟨_, rfl⟩
      rw [eo1] at ho
      rw [eo2] at ho2
      have hd1 : decide (o1 < 0) = false := decide_eq_false (by omega)
      have hd2 : decide (0 < o2) = false := decide_eq_false (by omega)
      obtain ⟨v, ev⟩ : ∃ v, val b32 xs = v := ⟨_, rfl⟩
      have HH := Lib.hid fun (V : World) (h : Below w.heap.size w V) => halves_r (HX.out.to h)
      rw [ev] at HH ez Dsx
      have hv : v ≤ 9223372036854775808 := by cases n <;> simp only [zof, Bool.false_eq_true, if_false, if_true] at ez <;> omega
      have hvn : n = false → v ≤ 9223372036854775807 := by rintro rfl; simp only [zof, Bool.false_eq_true, if_false] at ez; omega
      clear i1 i2 h1 h2
      go_enter Try.func13, Try.ntmps13
      go_wp2_with fail
      rw [← HW0.out]
      refine wp_region_plan (S := fun w' => Below (w.heap.size + 1) W0 w') [(0, true), (1, false), (2, false), (3, true), (4, true), (5, true), (6, false), (7, false), (8, true), (9, true)] (by kernel_rfl) (by kernel_rfl) (Below.refl _ _).drew ?_
      have HB := (Below.refl W0.heap.size W0).drew
      repeat (refine plan_take (v := ?_) rfl (by rfl) ?_ ?_; rotate_left; (focus (intro w' hS; have k0 := (tX.toB hS (by omega)).c0; have k1 := (tX.toB hS (by omega)).c1; go_simp; try with_reducible rfl)); simp only [Act.put, List.setIfInBounds_toArray, List.set_cons_zero, List.set_cons_succ])
      refine plan_call rfl (by rfl) (fun K hK => ?_)
      go_simp
      refine (rfrom_z (-9223372036854775808) (by decide) (by decide) _).mono ?_
      rintro e V ⟨xr, yr, rfl, rz, bb⟩
      replace HB := HB.trans (bb.mono HB.size)
      clear bb
      refine hK.out _ _ (HB.mono hBW) ?_
      clear hK K
      refine plan_call rfl (by rfl) (fun K hK => ?_)
      go_simp
      refine (rcmp_z (HZ.out _ (HB0.out.trans (HB.mono HB0.out.size))) (rz.zl (Sm.i64 (by decide) (by decide)) (by decide))).mono ?_
      rintro e V ⟨rfl, bb⟩
      replace HB := HB.trans (bb.mono HB.size)
      clear bb rz
      refine hK.out _ _ (HB.mono hBW) ?_
      clear hK K
    
      repeat (refine plan_take (v := ?_) rfl (by rfl) ?_ ?_; rotate_left; (focus (intro w' hS; have k0 := (tX.toB hS (by omega)).c0; have k1 := (tX.toB hS (by omega)).c1; go_simp; try with_reducible rfl)); simp only [Act.put, List.setIfInBounds_toArray, List.set_cons_zero, List.set_cons_succ])
      refine plan_call rfl (by rfl) (fun K hK => ?_)
      go_simp
      refine (rfrom_z 9223372036854775807 (by decide) (by decide) _).mono ?_
      rintro e V ⟨xr, yr, rfl, rz, bb⟩
      replace HB := HB.trans (bb.mono HB.size)
      clear bb
      refine hK.out _ _ (HB.mono hBW) ?_
      clear hK K
      refine plan_call rfl (by rfl) (fun K hK => ?_)
      go_simp
      refine (rcmp_z (HZ.out _ (HB0.out.trans (HB.mono HB0.out.size))) (rz.zl (Sm.i64 (by decide) (by decide)) (by decide))).mono ?_
      rintro e V ⟨rfl, bb⟩
      replace HB := HB.trans (bb.mono HB.size)
      clear bb rz
      refine hK.out _ _ (HB.mono hBW) ?_
      clear hK K
      repeat (refine plan_take (v := ?_) rfl (by rfl) ?_ ?_; rotate_left; (focus (intro w' hS; have k0 := (tX.toB hS (by omega)).c0; have k1 := (tX.toB hS (by omega)).c1; go_simp; try with_reducible rfl)); simp only [Act.put, List.setIfInBounds_toArray, List.set_cons_zero, List.set_cons_succ])
      refine plan_done ?_
      have k1 := (tX.to HB).c0
      have k2 := (tX.to HB).c1
      go_wp2_with fail
      refine (HH.out _ (HB0.out.trans (HB.mono HB0.out.size))).mono ?_
      rintro e V ⟨A1, c1, rfl, r1, l1, m1, bb⟩
      have H1 := Lib.hid (Hr.of_ret r1 l1 m1 Dsx (by omega))
      replace HB := HB.trans (bb.mono HB.size)
      have k3 := (tX.to HB).c0
      have HE := Lib.hid (HB0.out.trans (HB.mono HB0.out.size))
      have hdv := val_dig b16_one v
      obtain ⟨L, eL⟩ : ∃ L, Hid (dig b16 v = L) := ⟨_, rfl⟩
      rw [eL.out] at H1 hdv ⊢
      have hLs := H1.out.small
      clear k1 k2 r1 l1 m1 bb HB tX HH HZ Dsx eo1 eo2 ho ho2 hd1 hd2
      go_wp2
      go_loopw [4, 6] (fun u i wr => ∃ k : Nat, u = .int .u64 (val b16 (L.drop k) : Nat) ∧ i = .int .i64 ((k : Int) - 1) ∧ k ≤ L.length ∧ wr = V) (fun _ i _ => ((intOf i) + 1).toNat)
      case atStart => exact ⟨L.length, by simp [val], rfl, Nat.le_refl _, rfl⟩
      case round =>
        obtain ⟨k, hu, hik, hk, rfl⟩ := hrel
        rcases Nat.eq_zero_or_pos k with rfl | hk0
        · rw [List.drop_zero, hdv] at hu
          subst hu hik
          clear hk hdv hLs
          cases n with
          | false =>
            have g := wrap_nat v (by have := hvn rfl; omega)
            have hz : z = (v : Int) := by rw [← ez]; simp [zof]
            subst hz
            clear ez hvn HX
            go_wp2
            go_ret2
            exact ⟨rfl, HE.out⟩
          | true =>
            obtain ⟨u, eu⟩ : ∃ u, IntKind.u64.wrap (-((v : Nat) : Int)) = u := ⟨_, rfl⟩
            have g := u64_neg hv
            rw [eu, show -((v : Nat) : Int) = z from by rw [← ez]; simp [zof]] at g
            clear ez hvn HX
            go_wp2
            go_ret2
            exact ⟨rfl, HE.out⟩
        · obtain ⟨q, rfl⟩ : ∃ q, k = q + 1 := ⟨k - 1, by omega⟩
          rw [show (((q + 1 : Nat) : Int) - 1) = (q : Int) from by omega] at hik
          subst hu hik
          have hq : q < L.length := by omega
          obtain ⟨b, o, rfl, _, hc1⟩ := H1.out.rd.at_ hq
          have e1 := hc1 q hq
          have hd := H1.out.dg.at_ hq
          have hvd := val_drop (b := b16) hq
          obtain ⟨T1, hT1⟩ := val_take_drop (b := b16) L q
          obtain ⟨x, ex⟩ : ∃ x, Hid (L[q] = x) := ⟨L[q], rfl⟩
          obtain ⟨T, eT⟩ : ∃ T, Hid (val b16 (L.drop (q + 1)) = T) := ⟨_, rfl⟩
          have hle : val b16 (L.drop q) ≤ v := by
            have h1 : val b16 L = val b16 (L.take q) + b16 ^ (L.take q).length * val b16 (L.drop q) := by rw [← val_append, List.take_append_drop]
            rw [hdv] at h1
            have h2 : 1 * val b16 (L.drop q) ≤ b16 ^ (L.take q).length * val b16 (L.drop q) := Nat.mul_le_mul_right _ (Nat.pow_pos (by decide))
            omega
          rw [ex.out] at e1 hd hvd
          rw [eT.out] at hvd ⊢
          unfold b16 at hd
          have hvd2 : val b16 (L.drop q) = x + 65536 * T := hvd
          rw [hvd2] at hle
          have HV := Lib.hid hvd2
          have HDV := Lib.hid hdv
          have hki : (0 : Int) ≤ (q : Int) := by omega
          have hki' : (q : Int) < (L.length : Int) := by omega
          clear hc1 hvd hvd2 hT1 hdv
          go_wp2
          go_roundw
          case rel => exact ⟨q, by rw [HV.out]; congr 1; omega, by simp, by omega, trivial⟩
          case measure => simp [intOf]

theorem rint_z {w : World} {x y : Value} {a : Int} (ha : Zl w x y a) : Calls Try.prog 13 #[.agg #[x, y]] w fun e w' => e = .returned (.tuple #[.int .i64 (i64v a), .bool (inI a)]) ∧ Below w.heap.size w w' := by
  obtain ⟨n, A, c, xs, rfl, rfl, h3, h4, rfl⟩ := ha
  exact rInt_any n h3 h4
theorem int64_z {w : World} {x y : Value} {a : Int} (ha : Zi w x y a) : Calls Try.prog 12 #[.agg #[x, y]] w fun e w' => e = .returned (.tuple #[.int .i64 (i64v a), .bool (inI a)]) ∧ Below w.heap.size w w' := by
  obtain ⟨n, A, c, xs, rfl, rfl, h3, rfl⟩ := ha
  exact int64_any n h3
end Go.Proofs.Ytlnjnoingiohjaa
