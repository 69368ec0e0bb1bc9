/- Parts: 2. -/
import Derived.Test.YtcgdbdhhoomgiaaGreatVo22
import Derived.Test.YtcgdbdhhoomgiaaGreatVo23
import Derived.Deep.Slices
set_option linter.unusedVariables false
set_option linter.unusedSimpArgs false
set_option maxRecDepth 100000
set_option maxHeartbeats 40000000

namespace Go.Proofs.YtcgdbdhhoomgiaaGreat
open Go.RowKit Go.Shelf
theorem qlong1 {n1 n2 : Nat} {b1 b2 : Bool} {A1 A2 : Option Addr} {c1 c2 : Nat} {V : World} {g : Nat} (h1 : n1 <= 9223372036854775807) (h2 : n2 <= 9223372036854775807)
  (h : V.heap[g]? = some (.cells #[.bool b1, .slice A1 n1 c1, .bool b2, .slice A2 n2 c2] 26 (0, 0))) {r : Bool} (hr : ([(n1, n2)].any fun p => decide (6 < p.1) || decide (6 < p.2)) = r) :
  Calls Tryz.prog 10 #[.slice (some ⟨g, 0, none⟩) 1 1] V fun e w' => e = .returned (.bool r) /\ Below V.heap.size V w' := by
 have hg : g < V.heap.size := (Array.getElem?_eq_some_iff.1 h).1
 exact flong_o g 0 (some ⟨g, 0, none⟩) [(n1, n2)] 1 V (fun _ _ => ⟨rfl, hg⟩) (fun k hk => by
  match k, hk with
  | 0, _ => exact ⟨b1, A1, c1, b2, A2, c2, by simp [World.cell?, h], by simp [World.cell?, h], by simp [World.cell?, h], by simp [World.cell?, h]⟩) (fun k hk => by
  match k, hk with
  | 0, _ => exact ⟨h1, h2⟩) (by simp) hr
theorem vorder_long {A1 A2 A3 : Option Addr} {c1 c2 c3 : Nat} {es1 es2 es3 : List E4} {k1 k2 k3 k4 : Value} {w : World} (v1 : VIn w ⟨A1, c1, es1⟩) (v2 : VIn w ⟨A2, c2, es2⟩) (v3 : VIn w ⟨A3, c3, es3⟩) (hlng : ([⟨A1, c1, es1⟩, ⟨A2, c2, es2⟩, ⟨A3, c3, es3⟩] : List VA).any (fun v => lngV v.es) = true) :
  Calls Tryz.prog 8 #[.slice A1 es1.length c1, .slice A2 es2.length c2, .slice A3 es3.length c3, .agg #[k1, k2, k3, k4]] w fun e w' => e = .returned (.bool true) /\ Below w.heap.size w w' := by
 obtain ⟨W0, hW0⟩ : ∃ W0, W0 = (w.alloc (.cells #[k1, k2, k3, k4] 26)).alloc (.cells #[.slice A1 es1.length c1, .slice A2 es2.length c2, .slice A3 es3.length c3] 27) := ⟨_, rfl⟩
 have hbw : Below w.heap.size w W0 := by rw [hW0]; exact ((Below.refl _ _).alloc (Nat.le_refl _) _).alloc (by simp) _
 have tK : Four W0 w.heap.size k1 k2 k3 k4 := by rw [hW0]; exact (Four.new w _ _ _ _ _).alloc _
 have hp : Hp W0 (w.heap.size + 1) (.cells #[.slice A1 es1.length c1, .slice A2 es2.length c2, .slice A3 es3.length c3] 27 (0, 0)) := by
  have h := Hp.new (w.alloc (.cells #[k1, k2, k3, k4] 26)) #[.slice A1 es1.length c1, .slice A2 es2.length c2, .slice A3 es3.length c3] 27
  rw [World.size_alloc] at h
  rw [hW0]; exact h
 have HL := Hd (vlong_any (w.heap.size + 1) [⟨A1, c1, es1⟩, ⟨A2, c2, es2⟩, ⟨A3, c3, es3⟩] 3 W0 hp.lt (fun i hi => by
  match i, hi with
  | 0, _ => exact (hp.cellAt _).trans rfl
  | 1, _ => exact (hp.cellAt _).trans rfl
  | 2, _ => exact (hp.cellAt _).trans rfl) (fun v hv => by
  simp only [List.mem_cons, List.not_mem_nil, or_false] at hv
  rcases hv with rfl | rfl | rfl
  .exact v1.to hbw
  .exact v2.to hbw
  .exact v3.to hbw) (by simp) (r := true) (by simpa using hlng))
 have HW0 := Hd hW0
 have HB := Hd hbw
 clear hW0 hbw hp hlng v1 v2 v3
 go_enter Tryz.func8, Tryz.ntmps8
 go_wp2_with fail
 rw [<- HW0.out]
 refine HL.out.mono ?_
 rintro e W1 ⟨rfl, bb⟩
 replace tK := tK.to bb
 replace HB := Hd (HB.out.trans (bb.mono HB.out.size))
 clear bb tK
 go_wp2_with fail
 refine (valive_any _).mono ?_
 rintro e W4 ⟨rfl, bb⟩
 replace HB := Hd (HB.out.trans (bb.mono HB.out.size))
 clear bb
 go_wp2
 go_ret
 exact ⟨rfl, HB.out⟩
theorem vorder_longk {A1 A2 A3 : Option Addr} {c1 c2 c3 : Nat} {es1 es2 es3 : List E4} {k1 k2 k3 k4 : Value} {w : World} (v1 : VIn w ⟨A1, c1, es1⟩) (v2 : VIn w ⟨A2, c2, es2⟩) (v3 : VIn w ⟨A3, c3, es3⟩) (hlng : ([⟨A1, c1, es1⟩, ⟨A2, c2, es2⟩, ⟨A3, c3, es3⟩] : List VA).any (fun v => lngV v.es) = false) (hL : ∀ (V : World) (g : Nat), V.heap[g]? = some (.cells #[k1, k2, k3, k4] 26 (0, 0)) -> Calls Tryz.prog 10 #[.slice (some ⟨g, 0, none⟩) 1 1] V fun e w' => e = .returned (.bool true) /\ Below V.heap.size V w')  :
  Calls Tryz.prog 8 #[.slice A1 es1.length c1, .slice A2 es2.length c2, .slice A3 es3.length c3, .agg #[k1, k2, k3, k4]] w fun e w' => e = .returned (.bool true) /\ Below w.heap.size w w' := by
 obtain ⟨W0, hW0⟩ : ∃ W0, W0 = (w.alloc (.cells #[k1, k2, k3, k4] 26)).alloc (.cells #[.slice A1 es1.length c1, .slice A2 es2.length c2, .slice A3 es3.length c3] 27) := ⟨_, rfl⟩
 have hbw : Below w.heap.size w W0 := by rw [hW0]; exact ((Below.refl _ _).alloc (Nat.le_refl _) _).alloc (by simp) _
 have tK : Four W0 w.heap.size k1 k2 k3 k4 := by rw [hW0]; exact (Four.new w _ _ _ _ _).alloc _
 have hp : Hp W0 (w.heap.size + 1) (.cells #[.slice A1 es1.length c1, .slice A2 es2.length c2, .slice A3 es3.length c3] 27 (0, 0)) := by
  have h := Hp.new (w.alloc (.cells #[k1, k2, k3, k4] 26)) #[.slice A1 es1.length c1, .slice A2 es2.length c2, .slice A3 es3.length c3] 27
  rw [World.size_alloc] at h
  rw [hW0]; exact h
 have HL := Hd (vlong_any (w.heap.size + 1) [⟨A1, c1, es1⟩, ⟨A2, c2, es2⟩, ⟨A3, c3, es3⟩] 3 W0 hp.lt (fun i hi => by
  match i, hi with
  | 0, _ => exact (hp.cellAt _).trans rfl
  | 1, _ => exact (hp.cellAt _).trans rfl
  | 2, _ => exact (hp.cellAt _).trans rfl) (fun v hv => by
  simp only [List.mem_cons, List.not_mem_nil, or_false] at hv
  rcases hv with rfl | rfl | rfl
  .exact v1.to hbw
  .exact v2.to hbw
  .exact v3.to hbw) (by simp) (r := false) (by simpa using hlng))
 have HW0 := Hd hW0
 have HB := Hd hbw
 clear hW0 hbw hp hlng v1 v2 v3
 go_enter Tryz.func8, Tryz.ntmps8
 go_wp2_with fail
 rw [<- HW0.out]
 refine HL.out.mono ?_
 rintro e W1 ⟨rfl, bb⟩
 replace tK := tK.to bb
 replace HB := Hd (HB.out.trans (bb.mono HB.out.size))
 clear bb
 have q0 := tK.c0
 have q1 := tK.c1
 have q2 := tK.c2
 have q3 := tK.c3
 go_wp2_with fail
 obtain ⟨W2, hW2⟩ : ∃ W, W = W1.alloc (.cells #[k1, k2, k3, k4] 26) := ⟨_, rfl⟩
 have bb : Below W1.heap.size W1 W2 := by rw [hW2]; exact (Below.refl _ _).alloc (Nat.le_refl _) _
 have HM := Hd (hL W2 W1.heap.size (by rw [hW2]; exact World.alloc_heap_new W1 _))
 rw [<- hW2]
 clear hW2 hL q0 q1 q2 q3
 replace HB := Hd (HB.out.trans (bb.mono HB.out.size))
 clear bb tK
 refine HM.out.mono ?_
 rintro e W3 ⟨rfl, bb⟩
 replace HB := Hd (HB.out.trans (bb.mono HB.out.size))
 clear bb HM
 go_wp2_with fail
 refine (valive_any _).mono ?_
 rintro e W4 ⟨rfl, bb⟩
 replace HB := Hd (HB.out.trans (bb.mono HB.out.size))
 clear bb
 go_wp2
 go_ret
 exact ⟨rfl, HB.out⟩
theorem vorder_ll {A1 A2 A3 : Option Addr} {c1 c2 c3 : Nat} {es1 es2 es3 : List E4} {k1 k2 k3 k4 : Value} {a b c : List Rat} {k : Rat} {w : World} (v1 : VIn w ⟨A1, c1, es1⟩) (v2 : VIn w ⟨A2, c2, es2⟩) (v3 : VIn w ⟨A3, c3, es3⟩) (hlng : ([⟨A1, c1, es1⟩, ⟨A2, c2, es2⟩, ⟨A3, c3, es3⟩] : List VA).any (fun v => lngV v.es) = false) (w1 : Vi w A1 c1 es1 a 6) (w2 : Vi w A2 c2 es2 b 6) (w3 : Vi w A3 c3 es3 c 6) (l1 : a.length <= 20) (l2 : b.length <= 20) (l3 : c.length <= 20) (hK : Qi w k1 k2 k3 k4 k 6) (hx : lexQ a b <= 0) (hy : lexQ b c <= 0) (hL : ∀ (V : World) (g : Nat), V.heap[g]? = some (.cells #[k1, k2, k3, k4] 26 (0, 0)) -> Calls Tryz.prog 10 #[.slice (some ⟨g, 0, none⟩) 1 1] V fun e w' => e = .returned (.bool false) /\ Below V.heap.size V w')  :
  Calls Tryz.prog 8 #[.slice A1 es1.length c1, .slice A2 es2.length c2, .slice A3 es3.length c3, .agg #[k1, k2, k3, k4]] w fun e w' => e = .returned (.bool true) /\ Below w.heap.size w w' := by
 have e1 := Hd w1.len
 have e2 := Hd w2.len
 have e3 := Hd w3.len
 have mA : Vm 6 a := ⟨w1.qm (by decide), l1⟩
 have mB : Vm 6 b := ⟨w2.qm (by decide), l2⟩
 have mC : Vm 6 c := ⟨w3.qm (by decide), l3⟩
 have mK : Qm 6 k := hK.qm (by decide)
 obtain ⟨s, hs⟩ : ∃ s, sgnQ k = s := ⟨_, rfl⟩
 obtain ⟨x, ex⟩ : ∃ x, lexQ a b = x := ⟨_, rfl⟩
 obtain ⟨y, ey⟩ : ∃ y, lexQ b c = y := ⟨_, rfl⟩
 obtain ⟨x', ex'⟩ : ∃ x', lexQ b a = x' := ⟨_, rfl⟩
 obtain ⟨E, eE⟩ : ∃ E, decide (lexQ a b = 0) = E := ⟨_, rfl⟩
 obtain ⟨v, ev⟩ : ∃ v, lexQ (scaleQ k a) (scaleQ k b) = v := ⟨_, rfl⟩
 have S1 : IntKind.i64.wrap (-x') = x := by rw [<- ex', <- ex, lex_anti a b, Int.neg_neg]; rcases lex_range a b with h | h | h <;> rw [h] <;> decide
 have S2 : (x == 0) = E := by rw [<- eE, <- ex]; rfl
 have S3 : IntKind.i64.wrap (x * s) = v := by
  rw [<- ev, lex_scale, ex, hs]
  have h2 := sgn_num k
  change sgnQ k = _ at h2
  rw [hs] at h2
  have h1 := lex_range a b
  rw [ex] at h1
  have h3 : s = 0 ∨ s = -1 ∨ s = 1 := by rw [h2]; split <;> (try split) <;> simp
  rcases h1 with h1 | h1 | h1 <;> rcases h3 with h3 | h3 | h3 <;> rw [h1, h3] <;> decide
 have hxv : lexQ (ptw (fun r s => r + s) a c) (ptw (fun r s => r + s) b c) = x := by rw [lex_add, ex]
 have hsv : lexQ (ptw (fun r s => r - s) a b) [] = x := by rw [lex_sub, ex]
 have hz : lexQ a c = min x y := by rw [lex_trans hx hy, ex, ey]
 have HZ := Hd hz
 rw [ex] at hx
 rw [ey] at hy
 obtain ⟨z, hzz⟩ : ∃ z, min x y = z := ⟨_, rfl⟩
 rw [hzz] at HZ
 clear hz
 have EX := Hd ex
 have EY := Hd ey
 have EX' := Hd ex'
 have EE := Hd eE
 have EV := Hd ev
 have HXV := Hd hxv
 have HSV := Hd hsv
 have HS := Hd hs
 obtain ⟨W0, hW0⟩ : ∃ W0, W0 = (w.alloc (.cells #[k1, k2, k3, k4] 26)).alloc (.cells #[.slice A1 es1.length c1, .slice A2 es2.length c2, .slice A3 es3.length c3] 27) := ⟨_, rfl⟩
 have hbw : Below w.heap.size w W0 := by rw [hW0]; exact ((Below.refl _ _).alloc (Nat.le_refl _) _).alloc (by simp) _
 have tK : Four W0 w.heap.size k1 k2 k3 k4 := by rw [hW0]; exact (Four.new w _ _ _ _ _).alloc _
 have hp : Hp W0 (w.heap.size + 1) (.cells #[.slice A1 es1.length c1, .slice A2 es2.length c2, .slice A3 es3.length c3] 27 (0, 0)) := by
  have h := Hp.new (w.alloc (.cells #[k1, k2, k3, k4] 26)) #[.slice A1 es1.length c1, .slice A2 es2.length c2, .slice A3 es3.length c3] 27
  rw [World.size_alloc] at h
  rw [hW0]; exact h
 have HL := Hd (vlong_any (w.heap.size + 1) [⟨A1, c1, es1⟩, ⟨A2, c2, es2⟩, ⟨A3, c3, es3⟩] 3 W0 hp.lt (fun i hi => by
  match i, hi with
  | 0, _ => exact (hp.cellAt _).trans rfl
  | 1, _ => exact (hp.cellAt _).trans rfl
  | 2, _ => exact (hp.cellAt _).trans rfl) (fun v hv => by
  simp only [List.mem_cons, List.not_mem_nil, or_false] at hv
  rcases hv with rfl | rfl | rfl
  .exact v1.to hbw
  .exact v2.to hbw
  .exact v3.to hbw) (by simp) (r := false) (by simpa using hlng))
 have HW0 := Hd hW0
 have HB := Hd hbw
 have vA := w1.to hbw
 have vB := w2.to hbw
 have vC := w3.to hbw
 have vK := hK.to hbw
 clear hW0 hbw hp hlng v1 v2 v3 w1 w2 w3 hK l1 l2 l3 ex ey ex' eE ev hxv hsv hs
 go_enter Tryz.func8, Tryz.ntmps8
 go_wp2_with fail
 rw [<- HW0.out]
 refine HL.out.mono ?_
 rintro e W1 ⟨rfl, bb⟩
 replace tK := tK.to bb
 replace vA := vA.to bb
 replace vB := vB.to bb
 replace vC := vC.to bb
 replace vK := vK.to bb
 replace HB := Hd (HB.out.trans (bb.mono HB.out.size))
 clear bb
 have q0 := tK.c0
 have q1 := tK.c1
 have q2 := tK.c2
 have q3 := tK.c3
 go_wp2_with fail
 obtain ⟨W2, hW2⟩ : ∃ W, W = W1.alloc (.cells #[k1, k2, k3, k4] 26) := ⟨_, rfl⟩
 have bb : Below W1.heap.size W1 W2 := by rw [hW2]; exact (Below.refl _ _).alloc (Nat.le_refl _) _
 have HM := Hd (hL W2 W1.heap.size (by rw [hW2]; exact World.alloc_heap_new W1 _))
 rw [<- hW2]
 clear hW2 hL q0 q1 q2 q3
 replace tK := tK.to bb
 replace vA := vA.to bb
 replace vB := vB.to bb
 replace vC := vC.to bb
 replace vK := vK.to bb
 replace HB := Hd (HB.out.trans (bb.mono HB.out.size))
 clear bb
 refine HM.out.mono ?_
 rintro e W3 ⟨rfl, bb⟩
 replace tK := tK.to bb
 replace vA := vA.to bb
 replace vB := vB.to bb
 replace vC := vC.to bb
 replace vK := vK.to bb
 replace HB := Hd (HB.out.trans (bb.mono HB.out.size))
 clear bb HM HL HW0
 rw [e1.out, e2.out, e3.out]
 clear e1 e2 e3
 go_wp2_with fail
 refine (vcompare_v vA vB (by decide) (by decide) (by decide) mA.l mB.l EX.out).mono ?_
 rintro e V ⟨rfl, bb⟩
 replace tK := tK.to bb
 replace vA := vA.to bb
 replace vB := vB.to bb
 replace vC := vC.to bb
 replace vK := vK.to bb
 replace HB := Hd (HB.out.trans (bb.mono HB.out.size))
 clear bb
 go_wp2_with fail
 refine (vcompare_v vB vC (by decide) (by decide) (by decide) mB.l mC.l EY.out).mono ?_
 rintro e V ⟨rfl, bb⟩
 replace tK := tK.to bb
 replace vA := vA.to bb
 replace vB := vB.to bb
 replace vC := vC.to bb
 replace vK := vK.to bb
 replace HB := Hd (HB.out.trans (bb.mono HB.out.size))
 clear bb
 go_wp2_with fail
 refine (vcompare_v vB vA (by decide) (by decide) (by decide) mB.l mA.l EX'.out).mono ?_
 rintro e V ⟨rfl, bb⟩
 replace tK := tK.to bb
 replace vA := vA.to bb
 replace vB := vB.to bb
 replace vC := vC.to bb
 replace vK := vK.to bb
 replace HB := Hd (HB.out.trans (bb.mono HB.out.size))
 clear bb
 go_wp2_with fail
 refine (vequal_v vA vB (by decide) (by decide) (by decide) mA.l mB.l EE.out).mono ?_
 rintro e V ⟨rfl, bb⟩
 replace tK := tK.to bb
 replace vA := vA.to bb
 replace vB := vB.to bb
 replace vC := vC.to bb
 replace vK := vK.to bb
 replace HB := Hd (HB.out.trans (bb.mono HB.out.size))
 clear bb
 go_wp2_with fail
 refine (vcompare_v vA vC (by decide) (by decide) (by decide) mA.l mC.l HZ.out).mono ?_
 rintro e V ⟨rfl, bb⟩
 replace tK := tK.to bb
 replace vA := vA.to bb
 replace vB := vB.to bb
 replace vC := vC.to bb
 replace vK := vK.to bb
 replace HB := Hd (HB.out.trans (bb.mono HB.out.size))
 clear bb
 have ms1 : Vm 13 (ptw (fun r s => r - s) a b) := mA.sub mB
 go_wp2_with fail
 refine (vsub_v vA vB (by decide) (by decide) (by decide) mA.l mB.l).mono ?_
 rintro e V ⟨_, _, _, rfl, s1, bb⟩
 replace tK := tK.to bb
 replace vA := vA.to bb
 replace vB := vB.to bb
 replace vC := vC.to bb
 replace vK := vK.to bb
 replace HB := Hd (HB.out.trans (bb.mono HB.out.size))
 clear bb
 go_wp2_with fail
 refine (vsign_v (s1.vi ms1.qm (by decide)) (by decide) (by decide) ms1.l HSV.out).mono ?_
 rintro e V ⟨rfl, bb⟩
 replace tK := tK.to bb
 replace vA := vA.to bb
 replace vB := vB.to bb
 replace vC := vC.to bb
 replace vK := vK.to bb
 replace HB := Hd (HB.out.trans (bb.mono HB.out.size))
 clear bb s1
 go_wp2_with fail
 obtain ⟨W5, hW5⟩ : ∃ W, W = V := ⟨_, rfl⟩
 rw [<- hW5] at HB tK vA vB vC vK ⊢
 clear hW5
 have ms2 : Vm 13 (ptw (fun r s => r + s) a c) := mA.add mC
 have ms3 : Vm 13 (ptw (fun r s => r + s) b c) := mB.add mC
 have ms4 : Vm 12 (scaleQ k a) := Vm.scale mK mA
 have ms5 : Vm 12 (scaleQ k b) := Vm.scale mK mB
 refine wp_region_plan (S := fun w' => Below W5.heap.size W5 w') [(0, true), (1, true), (3, true), (4, true), (7, true), (2, false), (5, false), (6, false), (8, true), (9, true), (10, true), (11, true), (13, true), (14, true), (17, true), (18, true), (12, false), (15, false), (16, false), (19, false), (20, true), (21, true), (22, true), (23, true), (24, false), (25, true), (26, true)] (by kernel_rfl) (by kernel_rfl) (Below.refl _ _).drew ?_
 have hb := (Below.refl W5.heap.size W5).drew
 iterate 5 (refine plan_take (v := ?_) rfl (by rfl) ?_ ?_; rotate_left; (focus (intro w' _; go_simp; try with_reducible rfl)); simp only [Act.put, List.setIfInBounds_toArray, List.set_cons_zero, List.set_cons_succ])
 refine plan_call rfl (by rfl) (fun K hK => ?_)
 go_simp
 refine (vadd_v (vA.to hb) (vC.to hb) (by decide) (by decide) (by decide) mA.l mC.l).mono ?_
 rintro e V ⟨_, _, _, rfl, s2, bb⟩
 replace hb := bx hb bb
 refine hK.out _ _ hb ?_
 clear hK K bb
 refine plan_call rfl (by rfl) (fun K hK => ?_)
 go_simp
 refine (vadd_v (vB.to hb) (vC.to hb) (by decide) (by decide) (by decide) mB.l mC.l).mono ?_
 rintro e V ⟨_, _, _, rfl, s3, bb⟩
 replace hb := bx hb bb
 replace s2 := s2.to bb
 refine hK.out _ _ hb ?_
 clear hK K bb
 refine plan_call rfl (by rfl) (fun K hK => ?_)
 go_simp
 refine (vcompare_v (s2.vi ms2.qm (by decide)) (s3.vi ms3.qm (by decide)) (by decide) (by decide) (by decide) ms2.l ms3.l HXV.out).mono ?_
 rintro e V ⟨rfl, bb⟩
 replace hb := bx hb bb
 clear s2
 clear s3
 refine hK.out _ _ hb ?_
 clear hK K bb
 iterate 2 (refine plan_take (v := ?_) rfl (by rfl) ?_ ?_; rotate_left; (focus (intro w' _; go_simp; try with_reducible rfl)); simp only [Act.put, List.setIfInBounds_toArray, List.set_cons_zero, List.set_cons_succ])
 refine plan_take rfl (by rfl) (fun w' hS => load_four (by rfl) (tK.to hS)) ?_; simp only [Act.put, List.setIfInBounds_toArray, List.set_cons_zero, List.set_cons_succ]
 refine plan_take (v := ?_) rfl (by rfl) ?_ ?_; rotate_left; (focus (intro w' _; go_simp; try with_reducible rfl)); simp only [Act.put, List.setIfInBounds_toArray, List.set_cons_zero, List.set_cons_succ]
 refine plan_take rfl (by rfl) (fun w' hS => load_four (by rfl) (tK.to hS)) ?_; simp only [Act.put, List.setIfInBounds_toArray, List.set_cons_zero, List.set_cons_succ]
 iterate 2 (refine plan_take (v := ?_) rfl (by rfl) ?_ ?_; rotate_left; (focus (intro w' _; go_simp; try with_reducible rfl)); simp only [Act.put, List.setIfInBounds_toArray, List.set_cons_zero, List.set_cons_succ])
 refine plan_take rfl (by rfl) (fun w' hS => load_four (by rfl) (tK.to hS)) ?_; simp only [Act.put, List.setIfInBounds_toArray, List.set_cons_zero, List.set_cons_succ]
 refine plan_call rfl (by rfl) (fun K hK => ?_)
 go_simp
 refine (vscale_v (vK.to hb) (vA.to hb) (by decide) (by decide) (by decide) mA.l).mono ?_
 rintro e V ⟨_, _, _, rfl, s4, bb⟩
 replace hb := bx hb bb
 refine hK.out _ _ hb ?_
 clear hK K bb
 refine plan_call rfl (by rfl) (fun K hK => ?_)
 go_simp
 refine (vscale_v (vK.to hb) (vB.to hb) (by decide) (by decide) (by decide) mB.l).mono ?_
 rintro e V ⟨_, _, _, rfl, s5, bb⟩
 replace hb := bx hb bb
 replace s4 := s4.to bb
 refine hK.out _ _ hb ?_
 clear hK K bb
 refine plan_call rfl (by rfl) (fun K hK => ?_)
 go_simp
 refine (vcompare_v (s4.vi ms4.qm (by decide)) (s5.vi ms5.qm (by decide)) (by decide) (by decide) (by decide) ms4.l ms5.l EV.out).mono ?_
 rintro e V ⟨rfl, bb⟩
 replace hb := bx hb bb
 clear s4
 clear s5
 refine hK.out _ _ hb ?_
 clear hK K bb
 refine plan_call rfl (by rfl) (fun K hK => ?_)
 go_simp
 refine (sign_q (vK.to hb) HS.out).mono ?_
 rintro e V ⟨rfl, bb⟩
 replace hb := bx hb bb
 refine hK.out _ _ hb ?_
 clear hK K bb
 iterate 4 (refine plan_take (v := ?_) rfl (by rfl) ?_ ?_; rotate_left; (focus (intro w' _; go_simp; try with_reducible rfl)); simp only [Act.put, List.setIfInBounds_toArray, List.set_cons_zero, List.set_cons_succ])
 refine plan_call rfl (by rfl) (fun K hK => ?_)
 go_simp
 refine (valive_any _).mono ?_
 rintro e V ⟨rfl, bb⟩
 replace hb := bx hb bb
 refine hK.out _ _ hb ?_
 clear hK K bb
 iterate 2 (refine plan_take (v := ?_) rfl (by rfl) ?_ ?_; rotate_left; (focus (intro w' _; go_simp; try with_reducible rfl)); simp only [Act.put, List.setIfInBounds_toArray, List.set_cons_zero, List.set_cons_succ])
 refine plan_done ?_
 replace tK := tK.to hb
 replace vA := vA.to hb
 replace vB := vB.to hb
 replace vC := vC.to hb
 replace vK := vK.to hb
 replace HB := Hd (HB.out.trans (hb.mono HB.out.size))
 clear hb
 go_wp2
 go_ret
 exact ⟨rfl, HB.out⟩
theorem vorder_lg {A1 A2 A3 : Option Addr} {c1 c2 c3 : Nat} {es1 es2 es3 : List E4} {k1 k2 k3 k4 : Value} {a b c : List Rat} {k : Rat} {w : World} (v1 : VIn w ⟨A1, c1, es1⟩) (v2 : VIn w ⟨A2, c2, es2⟩) (v3 : VIn w ⟨A3, c3, es3⟩) (hlng : ([⟨A1, c1, es1⟩, ⟨A2, c2, es2⟩, ⟨A3, c3, es3⟩] : List VA).any (fun v => lngV v.es) = false) (w1 : Vi w A1 c1 es1 a 6) (w2 : Vi w A2 c2 es2 b 6) (w3 : Vi w A3 c3 es3 c 6) (l1 : a.length <= 20) (l2 : b.length <= 20) (l3 : c.length <= 20) (hK : Qi w k1 k2 k3 k4 k 6) (hx : lexQ a b <= 0) (hy : ¬ lexQ b c <= 0) (hL : ∀ (V : World) (g : Nat), V.heap[g]? = some (.cells #[k1, k2, k3, k4] 26 (0, 0)) -> Calls Tryz.prog 10 #[.slice (some ⟨g, 0, none⟩) 1 1] V fun e w' => e = .returned (.bool false) /\ Below V.heap.size V w')  :
  Calls Tryz.prog 8 #[.slice A1 es1.length c1, .slice A2 es2.length c2, .slice A3 es3.length c3, .agg #[k1, k2, k3, k4]] w fun e w' => e = .returned (.bool true) /\ Below w.heap.size w w' := by
 have e1 := Hd w1.len
 have e2 := Hd w2.len
 have e3 := Hd w3.len
 have mA : Vm 6 a := ⟨w1.qm (by decide), l1⟩
 have mB : Vm 6 b := ⟨w2.qm (by decide), l2⟩
 have mC : Vm 6 c := ⟨w3.qm (by decide), l3⟩
 have mK : Qm 6 k := hK.qm (by decide)
 obtain ⟨s, hs⟩ : ∃ s, sgnQ k = s := ⟨_, rfl⟩
 obtain ⟨x, ex⟩ : ∃ x, lexQ a b = x := ⟨_, rfl⟩
 obtain ⟨y, ey⟩ : ∃ y, lexQ b c = y := ⟨_, rfl⟩
 obtain ⟨x', ex'⟩ : ∃ x', lexQ b a = x' := ⟨_, rfl⟩
 obtain ⟨E, eE⟩ : ∃ E, decide (lexQ a b = 0) = E := ⟨_, rfl⟩
 obtain ⟨v, ev⟩ : ∃ v, lexQ (scaleQ k a) (scaleQ k b) = v := ⟨_, rfl⟩
 have S1 : IntKind.i64.wrap (-x') = x := by rw [<- ex', <- ex, lex_anti a b, Int.neg_neg]; rcases lex_range a b with h | h | h <;> rw [h] <;> decide
 have S2 : (x == 0) = E := by rw [<- eE, <- ex]; rfl
 have S3 : IntKind.i64.wrap (x * s) = v := by
  rw [<- ev, lex_scale, ex, hs]
  have h2 := sgn_num k
  change sgnQ k = _ at h2
  rw [hs] at h2
  have h1 := lex_range a b
  rw [ex] at h1
  have h3 : s = 0 ∨ s = -1 ∨ s = 1 := by rw [h2]; split <;> (try split) <;> simp
  rcases h1 with h1 | h1 | h1 <;> rcases h3 with h3 | h3 | h3 <;> rw [h1, h3] <;> decide
 have hxv : lexQ (ptw (fun r s => r + s) a c) (ptw (fun r s => r + s) b c) = x := by rw [lex_add, ex]
 have hsv : lexQ (ptw (fun r s => r - s) a b) [] = x := by rw [lex_sub, ex]
 rw [ex] at hx
 rw [ey] at hy
 have EX := Hd ex
 have EY := Hd ey
 have EX' := Hd ex'
 have EE := Hd eE
 have EV := Hd ev
 have HXV := Hd hxv
 have HSV := Hd hsv
 have HS := Hd hs
 obtain ⟨W0, hW0⟩ : ∃ W0, W0 = (w.alloc (.cells #[k1, k2, k3, k4] 26)).alloc (.cells #[.slice A1 es1.length c1, .slice A2 es2.length c2, .slice A3 es3.length c3] 27) := ⟨_, rfl⟩
 have hbw : Below w.heap.size w W0 := by rw [hW0]; exact ((Below.refl _ _).alloc (Nat.le_refl _) _).alloc (by simp) _
 have tK : Four W0 w.heap.size k1 k2 k3 k4 := by rw [hW0]; exact (Four.new w _ _ _ _ _).alloc _
 have hp : Hp W0 (w.heap.size + 1) (.cells #[.slice A1 es1.length c1, .slice A2 es2.length c2, .slice A3 es3.length c3] 27 (0, 0)) := by
  have h := Hp.new (w.alloc (.cells #[k1, k2, k3, k4] 26)) #[.slice A1 es1.length c1, .slice A2 es2.length c2, .slice A3 es3.length c3] 27
  rw [World.size_alloc] at h
  rw [hW0]; exact h
 have HL := Hd (vlong_any (w.heap.size + 1) [⟨A1, c1, es1⟩, ⟨A2, c2, es2⟩, ⟨A3, c3, es3⟩] 3 W0 hp.lt (fun i hi => by
  match i, hi with
  | 0, _ => exact (hp.cellAt _).trans rfl
  | 1, _ => exact (hp.cellAt _).trans rfl
  | 2, _ => exact (hp.cellAt _).trans rfl) (fun v hv => by
  simp only [List.mem_cons, List.not_mem_nil, or_false] at hv
  rcases hv with rfl | rfl | rfl
  .exact v1.to hbw
  .exact v2.to hbw
  .exact v3.to hbw) (by simp) (r := false) (by simpa using hlng))
 have HW0 := Hd hW0
 have HB := Hd hbw
 have vA := w1.to hbw
 have vB := w2.to hbw
 have vC := w3.to hbw
 have vK := hK.to hbw
 clear hW0 hbw hp hlng v1 v2 v3 w1 w2 w3 hK l1 l2 l3 ex ey ex' eE ev hxv hsv hs
 go_enter Tryz.func8, Tryz.ntmps8
 go_wp2_with fail
 rw [<- HW0.out]
 refine HL.out.mono ?_
 rintro e W1 ⟨rfl, bb⟩
 replace tK := tK.to bb
 replace vA := vA.to bb
 replace vB := vB.to bb
 replace vC := vC.to bb
 replace vK := vK.to bb
 replace HB := Hd (HB.out.trans (bb.mono HB.out.size))
 clear bb
 have q0 := tK.c0
 have q1 := tK.c1
 have q2 := tK.c2
 have q3 := tK.c3
 go_wp2_with fail
 obtain ⟨W2, hW2⟩ : ∃ W, W = W1.alloc (.cells #[k1, k2, k3, k4] 26) := ⟨_, rfl⟩
 have bb : Below W1.heap.size W1 W2 := by rw [hW2]; exact (Below.refl _ _).alloc (Nat.le_refl _) _
 have HM := Hd (hL W2 W1.heap.size (by rw [hW2]; exact World.alloc_heap_new W1 _))
 rw [<- hW2]
 clear hW2 hL q0 q1 q2 q3
 replace tK := tK.to bb
 replace vA := vA.to bb
 replace vB := vB.to bb
 replace vC := vC.to bb
 replace vK := vK.to bb
 replace HB := Hd (HB.out.trans (bb.mono HB.out.size))
 clear bb
 refine HM.out.mono ?_
 rintro e W3 ⟨rfl, bb⟩
 replace tK := tK.to bb
 replace vA := vA.to bb
 replace vB := vB.to bb
 replace vC := vC.to bb
 replace vK := vK.to bb
 replace HB := Hd (HB.out.trans (bb.mono HB.out.size))
 clear bb HM HL HW0
 rw [e1.out, e2.out, e3.out]
 clear e1 e2 e3
 go_wp2_with fail
 refine (vcompare_v vA vB (by decide) (by decide) (by decide) mA.l mB.l EX.out).mono ?_
 rintro e V ⟨rfl, bb⟩
 replace tK := tK.to bb
 replace vA := vA.to bb
 replace vB := vB.to bb
 replace vC := vC.to bb
 replace vK := vK.to bb
 replace HB := Hd (HB.out.trans (bb.mono HB.out.size))
 clear bb
 go_wp2_with fail
 refine (vcompare_v vB vC (by decide) (by decide) (by decide) mB.l mC.l EY.out).mono ?_
 rintro e V ⟨rfl, bb⟩
 replace tK := tK.to bb
 replace vA := vA.to bb
 replace vB := vB.to bb
 replace vC := vC.to bb
 replace vK := vK.to bb
 replace HB := Hd (HB.out.trans (bb.mono HB.out.size))
 clear bb
 go_wp2_with fail
 refine (vcompare_v vB vA (by decide) (by decide) (by decide) mB.l mA.l EX'.out).mono ?_
 rintro e V ⟨rfl, bb⟩
 replace tK := tK.to bb
 replace vA := vA.to bb
 replace vB := vB.to bb
 replace vC := vC.to bb
 replace vK := vK.to bb
 replace HB := Hd (HB.out.trans (bb.mono HB.out.size))
 clear bb
 go_wp2_with fail
 refine (vequal_v vA vB (by decide) (by decide) (by decide) mA.l mB.l EE.out).mono ?_
 rintro e V ⟨rfl, bb⟩
 replace tK := tK.to bb
 replace vA := vA.to bb
 replace vB := vB.to bb
 replace vC := vC.to bb
 replace vK := vK.to bb
 replace HB := Hd (HB.out.trans (bb.mono HB.out.size))
 clear bb
 have ms6 : Vm 13 (ptw (fun r s => r - s) a b) := mA.sub mB
 go_wp2_with fail
 refine (vsub_v vA vB (by decide) (by decide) (by decide) mA.l mB.l).mono ?_
 rintro e V ⟨_, _, _, rfl, s6, bb⟩
 replace tK := tK.to bb
 replace vA := vA.to bb
 replace vB := vB.to bb
 replace vC := vC.to bb
 replace vK := vK.to bb
 replace HB := Hd (HB.out.trans (bb.mono HB.out.size))
 clear bb
 go_wp2_with fail
 refine (vsign_v (s6.vi ms6.qm (by decide)) (by decide) (by decide) ms6.l HSV.out).mono ?_
 rintro e V ⟨rfl, bb⟩
 replace tK := tK.to bb
 replace vA := vA.to bb
 replace vB := vB.to bb
 replace vC := vC.to bb
 replace vK := vK.to bb
 replace HB := Hd (HB.out.trans (bb.mono HB.out.size))
 clear bb s6
 go_wp2_with fail
 obtain ⟨W5, hW5⟩ : ∃ W, W = V := ⟨_, rfl⟩
 rw [<- hW5] at HB tK vA vB vC vK ⊢
 clear hW5
 have ms7 : Vm 13 (ptw (fun r s => r + s) a c) := mA.add mC
 have ms8 : Vm 13 (ptw (fun r s => r + s) b c) := mB.add mC
 have ms9 : Vm 12 (scaleQ k a) := Vm.scale mK mA
 have ms10 : Vm 12 (scaleQ k b) := Vm.scale mK mB
 refine wp_region_plan (S := fun w' => Below W5.heap.size W5 w') [(0, true), (1, true), (3, true), (4, true), (7, true), (2, false), (5, false), (6, false), (8, true), (9, true), (10, true), (11, true), (13, true), (14, true), (17, true), (18, true), (12, false), (15, false), (16, false), (19, false), (20, true), (21, true), (22, true), (23, true), (24, false), (25, true), (26, true)] (by kernel_rfl) (by kernel_rfl) (Below.refl _ _).drew ?_
 have hb := (Below.refl W5.heap.size W5).drew
 iterate 5 (refine plan_take (v := ?_) rfl (by rfl) ?_ ?_; rotate_left; (focus (intro w' _; go_simp; try with_reducible rfl)); simp only [Act.put, List.setIfInBounds_toArray, List.set_cons_zero, List.set_cons_succ])
 refine plan_call rfl (by rfl) (fun K hK => ?_)
 go_simp
 refine (vadd_v (vA.to hb) (vC.to hb) (by decide) (by decide) (by decide) mA.l mC.l).mono ?_
 rintro e V ⟨_, _, _, rfl, s7, bb⟩
 replace hb := bx hb bb
 refine hK.out _ _ hb ?_
 clear hK K bb
 refine plan_call rfl (by rfl) (fun K hK => ?_)
 go_simp
 refine (vadd_v (vB.to hb) (vC.to hb) (by decide) (by decide) (by decide) mB.l mC.l).mono ?_
 rintro e V ⟨_, _, _, rfl, s8, bb⟩
 replace hb := bx hb bb
 replace s7 := s7.to bb
 refine hK.out _ _ hb ?_
 clear hK K bb
 refine plan_call rfl (by rfl) (fun K hK => ?_)
 go_simp
 refine (vcompare_v (s7.vi ms7.qm (by decide)) (s8.vi ms8.qm (by decide)) (by decide) (by decide) (by decide) ms7.l ms8.l HXV.out).mono ?_
 rintro e V ⟨rfl, bb⟩
 replace hb := bx hb bb
 clear s7
 clear s8
 refine hK.out _ _ hb ?_
 clear hK K bb
 iterate 2 (refine plan_take (v := ?_) rfl (by rfl) ?_ ?_; rotate_left; (focus (intro w' _; go_simp; try with_reducible rfl)); simp only [Act.put, List.setIfInBounds_toArray, List.set_cons_zero, List.set_cons_succ])
 refine plan_take rfl (by rfl) (fun w' hS => load_four (by rfl) (tK.to hS)) ?_; simp only [Act.put, List.setIfInBounds_toArray, List.set_cons_zero, List.set_cons_succ]
 refine plan_take (v := ?_) rfl (by rfl) ?_ ?_; rotate_left; (focus (intro w' _; go_simp; try with_reducible rfl)); simp only [Act.put, List.setIfInBounds_toArray, List.set_cons_zero, List.set_cons_succ]
 refine plan_take rfl (by rfl) (fun w' hS => load_four (by rfl) (tK.to hS)) ?_; simp only [Act.put, List.setIfInBounds_toArray, List.set_cons_zero, List.set_cons_succ]
 iterate 2 (refine plan_take (v := ?_) rfl (by rfl) ?_ ?_; rotate_left; (focus (intro w' _; go_simp; try with_reducible rfl)); simp only [Act.put, List.setIfInBounds_toArray, List.set_cons_zero, List.set_cons_succ])
 refine plan_take rfl (by rfl) (fun w' hS => load_four (by rfl) (tK.to hS)) ?_; simp only [Act.put, List.setIfInBounds_toArray, List.set_cons_zero, List.set_cons_succ]
 refine plan_call rfl (by rfl) (fun K hK => ?_)
 go_simp
 refine (vscale_v (vK.to hb) (vA.to hb) (by decide) (by decide) (by decide) mA.l).mono ?_
 rintro e V ⟨_, _, _, rfl, s9, bb⟩
 replace hb := bx hb bb
 refine hK.out _ _ hb ?_
 clear hK K bb
 refine plan_call rfl (by rfl) (fun K hK => ?_)
 go_simp
 refine (vscale_v (vK.to hb) (vB.to hb) (by decide) (by decide) (by decide) mB.l).mono ?_
 rintro e V ⟨_, _, _, rfl, s10, bb⟩
 replace hb := bx hb bb
 replace s9 := s9.to bb
 refine hK.out _ _ hb ?_
 clear hK K bb
 refine plan_call rfl (by rfl) (fun K hK => ?_)
 go_simp
 refine (vcompare_v (s9.vi ms9.qm (by decide)) (s10.vi ms10.qm (by decide)) (by decide) (by decide) (by decide) ms9.l ms10.l EV.out).mono ?_
 rintro e V ⟨rfl, bb⟩
 replace hb := bx hb bb
 clear s9
 clear s10
 refine hK.out _ _ hb ?_
 clear hK K bb
 refine plan_call rfl (by rfl) (fun K hK => ?_)
 go_simp
 refine (sign_q (vK.to hb) HS.out).mono ?_
 rintro e V ⟨rfl, bb⟩
 replace hb := bx hb bb
 refine hK.out _ _ hb ?_
 clear hK K bb
 iterate 4 (refine plan_take (v := ?_) rfl (by rfl) ?_ ?_; rotate_left; (focus (intro w' _; go_simp; try with_reducible rfl)); simp only [Act.put, List.setIfInBounds_toArray, List.set_cons_zero, List.set_cons_succ])
 refine plan_call rfl (by rfl) (fun K hK => ?_)
 go_simp
 refine (valive_any _).mono ?_
 rintro e V ⟨rfl, bb⟩
 replace hb := bx hb bb
 refine hK.out _ _ hb ?_
 clear hK K bb
 iterate 2 (refine plan_take (v := ?_) rfl (by rfl) ?_ ?_; rotate_left; (focus (intro w' _; go_simp; try with_reducible rfl)); simp only [Act.put, List.setIfInBounds_toArray, List.set_cons_zero, List.set_cons_succ])
 refine plan_done ?_
 replace tK := tK.to hb
 replace vA := vA.to hb
 replace vB := vB.to hb
 replace vC := vC.to hb
 replace vK := vK.to hb
 replace HB := Hd (HB.out.trans (hb.mono HB.out.size))
 clear hb
 go_wp2
 go_ret
 exact ⟨rfl, HB.out⟩
theorem vorder_g {A1 A2 A3 : Option Addr} {c1 c2 c3 : Nat} {es1 es2 es3 : List E4} {k1 k2 k3 k4 : Value} {a b c : List Rat} {k : Rat} {w : World} (v1 : VIn w ⟨A1, c1, es1⟩) (v2 : VIn w ⟨A2, c2, es2⟩) (v3 : VIn w ⟨A3, c3, es3⟩) (hlng : ([⟨A1, c1, es1⟩, ⟨A2, c2, es2⟩, ⟨A3, c3, es3⟩] : List VA).any (fun v => lngV v.es) = false) (w1 : Vi w A1 c1 es1 a 6) (w2 : Vi w A2 c2 es2 b 6) (w3 : Vi w A3 c3 es3 c 6) (l1 : a.length <= 20) (l2 : b.length <= 20) (l3 : c.length <= 20) (hK : Qi w k1 k2 k3 k4 k 6) (hx : ¬ lexQ a b <= 0) (hL : ∀ (V : World) (g : Nat), V.heap[g]? = some (.cells #[k1, k2, k3, k4] 26 (0, 0)) -> Calls Tryz.prog 10 #[.slice (some ⟨g, 0, none⟩) 1 1] V fun e w' => e = .returned (.bool false) /\ Below V.heap.size V w')  :
  Calls Tryz.prog 8 #[.slice A1 es1.length c1, .slice A2 es2.length c2, .slice A3 es3.length c3, .agg #[k1, k2, k3, k4]] w fun e w' => e = .returned (.bool true) /\ Below w.heap.size w w' := by
 have e1 := Hd w1.len
 have e2 := Hd w2.len
 have e3 := Hd w3.len
 have mA : Vm 6 a := ⟨w1.qm (by decide), l1⟩
 have mB : Vm 6 b := ⟨w2.qm (by decide), l2⟩
 have mC : Vm 6 c := ⟨w3.qm (by decide), l3⟩
 have mK : Qm 6 k := hK.qm (by decide)
 obtain ⟨s, hs⟩ : ∃ s, sgnQ k = s := ⟨_, rfl⟩
 obtain ⟨x, ex⟩ : ∃ x, lexQ a b = x := ⟨_, rfl⟩
 obtain ⟨y, ey⟩ : ∃ y, lexQ b c = y := ⟨_, rfl⟩
 obtain ⟨x', ex'⟩ : ∃ x', lexQ b a = x' := ⟨_, rfl⟩
 obtain ⟨E, eE⟩ : ∃ E, decide (lexQ a b = 0) = E := ⟨_, rfl⟩
 obtain ⟨v, ev⟩ : ∃ v, lexQ (scaleQ k a) (scaleQ k b) = v := ⟨_, rfl⟩
 have S1 : IntKind.i64.wrap (-x') = x := by rw [<- ex', <- ex, lex_anti a b, Int.neg_neg]; rcases lex_range a b with h | h | h <;> rw [h] <;> decide
 have S2 : (x == 0) = E := by rw [<- eE, <- ex]; rfl
 have S3 : IntKind.i64.wrap (x * s) = v := by
  rw [<- ev, lex_scale, ex, hs]
  have h2 := sgn_num k
  change sgnQ k = _ at h2
  rw [hs] at h2
  have h1 := lex_range a b
  rw [ex] at h1
  have h3 : s = 0 ∨ s = -1 ∨ s = 1 := by rw [h2]; split <;> (try split) <;> simp
  rcases h1 with h1 | h1 | h1 <;> rcases h3 with h3 | h3 | h3 <;> rw [h1, h3] <;> decide
 have hxv : lexQ (ptw (fun r s => r + s) a c) (ptw (fun r s => r + s) b c) = x := by rw [lex_add, ex]
 have hsv : lexQ (ptw (fun r s => r - s) a b) [] = x := by rw [lex_sub, ex]
 rw [ex] at hx
 have EX := Hd ex
 have EY := Hd ey
 have EX' := Hd ex'
 have EE := Hd eE
 have EV := Hd ev
 have HXV := Hd hxv
 have HSV := Hd hsv
 have HS := Hd hs
 obtain ⟨W0, hW0⟩ : ∃ W0, W0 = (w.alloc (.cells #[k1, k2, k3, k4] 26)).alloc (.cells #[.slice A1 es1.length c1, .slice A2 es2.length c2, .slice A3 es3.length c3] 27) := ⟨_, rfl⟩
 have hbw : Below w.heap.size w W0 := by rw [hW0]; exact ((Below.refl _ _).alloc (Nat.le_refl _) _).alloc (by simp) _
 have tK : Four W0 w.heap.size k1 k2 k3 k4 := by rw [hW0]; exact (Four.new w _ _ _ _ _).alloc _
 have hp : Hp W0 (w.heap.size + 1) (.cells #[.slice A1 es1.length c1, .slice A2 es2.length c2, .slice A3 es3.length c3] 27 (0, 0)) := by
  have h := Hp.new (w.alloc (.cells #[k1, k2, k3, k4] 26)) #[.slice A1 es1.length c1, .slice A2 es2.length c2, .slice A3 es3.length c3] 27
  rw [World.size_alloc] at h
  rw [hW0]; exact h
 have HL := Hd (vlong_any (w.heap.size + 1) [⟨A1, c1, es1⟩, ⟨A2, c2, es2⟩, ⟨A3, c3, es3⟩] 3 W0 hp.lt (fun i hi => by
  match i, hi with
  | 0, _ => exact (hp.cellAt _).trans rfl
  | 1, _ => exact (hp.cellAt _).trans rfl
  | 2, _ => exact (hp.cellAt _).trans rfl) (fun v hv => by
  simp only [List.mem_cons, List.not_mem_nil, or_false] at hv
  rcases hv with rfl | rfl | rfl
  .exact v1.to hbw
  .exact v2.to hbw
  .exact v3.to hbw) (by simp) (r := false) (by simpa using hlng))
 have HW0 := Hd hW0
 have HB := Hd hbw
 have vA := w1.to hbw
 have vB := w2.to hbw
 have vC := w3.to hbw
 have vK := hK.to hbw
 clear hW0 hbw hp hlng v1 v2 v3 w1 w2 w3 hK l1 l2 l3 ex ey ex' eE ev hxv hsv hs
 go_enter Tryz.func8, Tryz.ntmps8
 go_wp2_with fail
 rw [<- HW0.out]
 refine HL.out.mono ?_
 rintro e W1 ⟨rfl, bb⟩
 replace tK := tK.to bb
 replace vA := vA.to bb
 replace vB := vB.to bb
 replace vC := vC.to bb
 replace vK := vK.to bb
 replace HB := Hd (HB.out.trans (bb.mono HB.out.size))
 clear bb
 have q0 := tK.c0
 have q1 := tK.c1
 have q2 := tK.c2
 have q3 := tK.c3
 go_wp2_with fail
 obtain ⟨W2, hW2⟩ : ∃ W, W = W1.alloc (.cells #[k1, k2, k3, k4] 26) := ⟨_, rfl⟩
 have bb : Below W1.heap.size W1 W2 := by rw [hW2]; exact (Below.refl _ _).alloc (Nat.le_refl _) _
 have HM := Hd (hL W2 W1.heap.size (by rw [hW2]; exact World.alloc_heap_new W1 _))
 rw [<- hW2]
 clear hW2 hL q0 q1 q2 q3
 replace tK := tK.to bb
 replace vA := vA.to bb
 replace vB := vB.to bb
 replace vC := vC.to bb
 replace vK := vK.to bb
 replace HB := Hd (HB.out.trans (bb.mono HB.out.size))
 clear bb
 refine HM.out.mono ?_
 rintro e W3 ⟨rfl, bb⟩
 replace tK := tK.to bb
 replace vA := vA.to bb
 replace vB := vB.to bb
 replace vC := vC.to bb
 replace vK := vK.to bb
 replace HB := Hd (HB.out.trans (bb.mono HB.out.size))
 clear bb HM HL HW0
 rw [e1.out, e2.out, e3.out]
 clear e1 e2 e3
 go_wp2_with fail
 refine (vcompare_v vA vB (by decide) (by decide) (by decide) mA.l mB.l EX.out).mono ?_
 rintro e V ⟨rfl, bb⟩
 replace tK := tK.to bb
 replace vA := vA.to bb
 replace vB := vB.to bb
 replace vC := vC.to bb
 replace vK := vK.to bb
 replace HB := Hd (HB.out.trans (bb.mono HB.out.size))
 clear bb
 go_wp2_with fail
 refine (vcompare_v vB vC (by decide) (by decide) (by decide) mB.l mC.l EY.out).mono ?_
 rintro e V ⟨rfl, bb⟩
 replace tK := tK.to bb
 replace vA := vA.to bb
 replace vB := vB.to bb
 replace vC := vC.to bb
 replace vK := vK.to bb
 replace HB := Hd (HB.out.trans (bb.mono HB.out.size))
 clear bb
 go_wp2_with fail
 refine (vcompare_v vB vA (by decide) (by decide) (by decide) mB.l mA.l EX'.out).mono ?_
 rintro e V ⟨rfl, bb⟩
 replace tK := tK.to bb
 replace vA := vA.to bb
 replace vB := vB.to bb
 replace vC := vC.to bb
 replace vK := vK.to bb
 replace HB := Hd (HB.out.trans (bb.mono HB.out.size))
 clear bb
 go_wp2_with fail
 refine (vequal_v vA vB (by decide) (by decide) (by decide) mA.l mB.l EE.out).mono ?_
 rintro e V ⟨rfl, bb⟩
 replace tK := tK.to bb
 replace vA := vA.to bb
 replace vB := vB.to bb
 replace vC := vC.to bb
 replace vK := vK.to bb
 replace HB := Hd (HB.out.trans (bb.mono HB.out.size))
 clear bb
 have ms11 : Vm 13 (ptw (fun r s => r - s) a b) := mA.sub mB
 go_wp2_with fail
 refine (vsub_v vA vB (by decide) (by decide) (by decide) mA.l mB.l).mono ?_
 rintro e V ⟨_, _, _, rfl, s11, bb⟩
 replace tK := tK.to bb
 replace vA := vA.to bb
 replace vB := vB.to bb
 replace vC := vC.to bb
 replace vK := vK.to bb
 replace HB := Hd (HB.out.trans (bb.mono HB.out.size))
 clear bb
 go_wp2_with fail
 refine (vsign_v (s11.vi ms11.qm (by decide)) (by decide) (by decide) ms11.l HSV.out).mono ?_
 rintro e V ⟨rfl, bb⟩
 replace tK := tK.to bb
 replace vA := vA.to bb
 replace vB := vB.to bb
 replace vC := vC.to bb
 replace vK := vK.to bb
 replace HB := Hd (HB.out.trans (bb.mono HB.out.size))
 clear bb s11
 go_wp2_with fail
 obtain ⟨W5, hW5⟩ : ∃ W, W = V := ⟨_, rfl⟩
 rw [<- hW5] at HB tK vA vB vC vK ⊢
 clear hW5
 have ms12 : Vm 13 (ptw (fun r s => r + s) a c) := mA.add mC
 have ms13 : Vm 13 (ptw (fun r s => r + s) b c) := mB.add mC
 have ms14 : Vm 12 (scaleQ k a) := Vm.scale mK mA
 have ms15 : Vm 12 (scaleQ k b) := Vm.scale mK mB
 refine wp_region_plan (S := fun w' => Below W5.heap.size W5 w') [(0, true), (1, true), (3, true), (4, true), (7, true), (2, false), (5, false), (6, false), (8, true), (9, true), (10, true), (11, true), (13, true), (14, true), (17, true), (18, true), (12, false), (15, false), (16, false), (19, false), (20, true), (21, true), (22, true), (23, true), (24, false), (25, true), (26, true)] (by kernel_rfl) (by kernel_rfl) (Below.refl _ _).drew ?_
 have hb := (Below.refl W5.heap.size W5).drew
 iterate 5 (refine plan_take (v := ?_) rfl (by rfl) ?_ ?_; rotate_left; (focus (intro w' _; go_simp; try with_reducible rfl)); simp only [Act.put, List.setIfInBounds_toArray, List.set_cons_zero, List.set_cons_succ])
 refine plan_call rfl (by rfl) (fun K hK => ?_)
 go_simp
 refine (vadd_v (vA.to hb) (vC.to hb) (by decide) (by decide) (by decide) mA.l mC.l).mono ?_
 rintro e V ⟨_, _, _, rfl, s12, bb⟩
 replace hb := bx hb bb
 refine hK.out _ _ hb ?_
 clear hK K bb
 refine plan_call rfl (by rfl) (fun K hK => ?_)
 go_simp
 refine (vadd_v (vB.to hb) (vC.to hb) (by decide) (by decide) (by decide) mB.l mC.l).mono ?_
 rintro e V ⟨_, _, _, rfl, s13, bb⟩
 replace hb := bx hb bb
 replace s12 := s12.to bb
 refine hK.out _ _ hb ?_
 clear hK K bb
 refine plan_call rfl (by rfl) (fun K hK => ?_)
 go_simp
 refine (vcompare_v (s12.vi ms12.qm (by decide)) (s13.vi ms13.qm (by decide)) (by decide) (by decide) (by decide) ms12.l ms13.l HXV.out).mono ?_
 rintro e V ⟨rfl, bb⟩
 replace hb := bx hb bb
 clear s12
 clear s13
 refine hK.out _ _ hb ?_
 clear hK K bb
 iterate 2 (refine plan_take (v := ?_) rfl (by rfl) ?_ ?_; rotate_left; (focus (intro w' _; go_simp; try with_reducible rfl)); simp only [Act.put, List.setIfInBounds_toArray, List.set_cons_zero, List.set_cons_succ])
 refine plan_take rfl (by rfl) (fun w' hS => load_four (by rfl) (tK.to hS)) ?_; simp only [Act.put, List.setIfInBounds_toArray, List.set_cons_zero, List.set_cons_succ]
 refine plan_take (v := ?_) rfl (by rfl) ?_ ?_; rotate_left; (focus (intro w' _; go_simp; try with_reducible rfl)); simp only [Act.put, List.setIfInBounds_toArray, List.set_cons_zero, List.set_cons_succ]
 refine plan_take rfl (by rfl) (fun w' hS => load_four (by rfl) (tK.to hS)) ?_; simp only [Act.put, List.setIfInBounds_toArray, List.set_cons_zero, List.set_cons_succ]
 iterate 2 (refine plan_take (v := ?_) rfl (by rfl) ?_ ?_; rotate_left; (focus (intro w' _; go_simp; try with_reducible rfl)); simp only [Act.put, List.setIfInBounds_toArray, List.set_cons_zero, List.set_cons_succ])
 refine plan_take rfl (by rfl) (fun w' hS => load_four (by rfl) (tK.to hS)) ?_; simp only [Act.put, List.setIfInBounds_toArray, List.set_cons_zero, List.set_cons_succ]
 refine plan_call rfl (by rfl) (fun K hK => ?_)
 go_simp
 refine (vscale_v (vK.to hb) (vA.to hb) (by decide) (by decide) (by decide) mA.l).mono ?_
 rintro e V ⟨_, _, _, rfl, s14, bb⟩
 replace hb := bx hb bb
 refine hK.out _ _ hb ?_
 clear hK K bb
 refine plan_call rfl (by rfl) (fun K hK => ?_)
 go_simp
 refine (vscale_v (vK.to hb) (vB.to hb) (by decide) (by decide) (by decide) mB.l).mono ?_
 rintro e V ⟨_, _, _, rfl, s15, bb⟩
 replace hb := bx hb bb
 replace s14 := s14.to bb
 refine hK.out _ _ hb ?_
 clear hK K bb
 refine plan_call rfl (by rfl) (fun K hK => ?_)
 go_simp
 refine (vcompare_v (s14.vi ms14.qm (by decide)) (s15.vi ms15.qm (by decide)) (by decide) (by decide) (by decide) ms14.l ms15.l EV.out).mono ?_
 rintro e V ⟨rfl, bb⟩
 replace hb := bx hb bb
 clear s14
 clear s15
 refine hK.out _ _ hb ?_
 clear hK K bb
 refine plan_call rfl (by rfl) (fun K hK => ?_)
 go_simp
 refine (sign_q (vK.to hb) HS.out).mono ?_
 rintro e V ⟨rfl, bb⟩
 replace hb := bx hb bb
 refine hK.out _ _ hb ?_
 clear hK K bb
 iterate 4 (refine plan_take (v := ?_) rfl (by rfl) ?_ ?_; rotate_left; (focus (intro w' _; go_simp; try with_reducible rfl)); simp only [Act.put, List.setIfInBounds_toArray, List.set_cons_zero, List.set_cons_succ])
 refine plan_call rfl (by rfl) (fun K hK => ?_)
 go_simp
 refine (valive_any _).mono ?_
 rintro e V ⟨rfl, bb⟩
 replace hb := bx hb bb
 refine hK.out _ _ hb ?_
 clear hK K bb
 iterate 2 (refine plan_take (v := ?_) rfl (by rfl) ?_ ?_; rotate_left; (focus (intro w' _; go_simp; try with_reducible rfl)); simp only [Act.put, List.setIfInBounds_toArray, List.set_cons_zero, List.set_cons_succ])
 refine plan_done ?_
 replace tK := tK.to hb
 replace vA := vA.to hb
 replace vB := vB.to hb
 replace vC := vC.to hb
 replace vK := vK.to hb
 replace HB := Hd (HB.out.trans (hb.mono HB.out.size))
 clear hb
 go_wp2
 go_ret
 exact ⟨rfl, HB.out⟩
theorem vorder_any {A1 A2 A3 : Option Addr} {c1 c2 c3 : Nat} {es1 es2 es3 : List E4} {k1 k2 k3 k4 : Value} {w : World} (v1 : VIn w ⟨A1, c1, es1⟩) (v2 : VIn w ⟨A2, c2, es2⟩) (v3 : VIn w ⟨A3, c3, es3⟩) (z1 : Zx2 w k1 k2) (z2 : Zx2 w k3 k4) :
  Calls Tryz.prog 8 #[.slice A1 es1.length c1, .slice A2 es2.length c2, .slice A3 es3.length c3, .agg #[k1, k2, k3, k4]] w fun e w' => e = .returned (.bool true) /\ Below w.heap.size w w' := by
 obtain ⟨n1, B1, d1, xs1, rfl, rfl, r1, f1, m1, o1⟩ := z1
 obtain ⟨n2, B2, d2, xs2, rfl, rfl, r2, f2, m2, o2⟩ := z2
 have hl1 : ∀ {r : Bool}, ([(xs1.length, xs2.length)].any fun p => decide (6 < p.1) || decide (6 < p.2)) = r -> ∀ (V : World) (g : Nat), V.heap[g]? = some (.cells #[.bool n1, .slice B1 xs1.length d1, .bool n2, .slice B2 xs2.length d2] 26 (0, 0)) -> Calls Tryz.prog 10 #[.slice (some ⟨g, 0, none⟩) 1 1] V fun e w' => e = .returned (.bool r) /\ Below V.heap.size V w' := fun hr V g h => qlong1 (by omega) (by omega) h hr
 cases hl : ([⟨A1, c1, es1⟩, ⟨A2, c2, es2⟩, ⟨A3, c3, es3⟩] : List VA).any (fun v => lngV v.es) with
 | true => exact vorder_long v1 v2 v3 hl
 | false =>
  by_cases hk : xs1.length <= 6 /\ xs2.length <= 6
  .have hl' := hl
   simp only [List.any_cons, List.any_nil, Bool.or_false, Bool.or_eq_false_iff] at hl'
   obtain ⟨a, w1, l1⟩ := v1.vi hl'.1
   obtain ⟨b, w2, l2⟩ := v2.vi hl'.2.1
   obtain ⟨c, w3, l3⟩ := v3.vi hl'.2.2
   have hK : Qi w (.bool n1) (.slice B1 xs1.length d1) (.bool n2) (.slice B2 xs2.length d2) (rv (zof n1 (val b32 xs1)) (zof n2 (val b32 xs2))) 6 := ⟨_, _, ⟨n1, B1, d1, xs1, rfl, rfl, ⟨r1, f1, m1, o1, by omega⟩, by omega, rfl⟩, ⟨n2, B2, d2, xs2, rfl, rfl, ⟨r2, f2, m2, o2, by omega⟩, by omega, rfl⟩, rfl, Sm.zof f1 hk.1, Sm.zof f2 hk.2⟩
   by_cases hx : lexQ a b <= 0
   .by_cases hy : lexQ b c <= 0
    .exact vorder_ll v1 v2 v3 hl w1 w2 w3 l1 l2 l3 hK hx hy (hl1 (by simp; omega))
    .exact vorder_lg v1 v2 v3 hl w1 w2 w3 l1 l2 l3 hK hx hy (hl1 (by simp; omega))
   .exact vorder_g v1 v2 v3 hl w1 w2 w3 l1 l2 l3 hK hx (hl1 (by simp; omega))
  .exact vorder_longk v1 v2 v3 hl (hl1 (by simp; omega))
end Go.Proofs.YtcgdbdhhoomgiaaGreat

namespace Go.Proofs.YtcgdbdhhoomgiaaGreat
open Go.ChangeShapes Go.WideShapes Go.ChangeAt Go.RowKit Go.Joins
instance : Inhabited E4 := ⟨E4.z⟩
theorem spot_none {W : World} {a : Addr} {v : Value} (h : W.cell? a = some v) : a.spot = none := by
 unfold World.cell? at h
 split at h
 .split at h
  .cases h
  .rename_i hs
   simpa using hs
 .cases h
theorem open_v {H : Type} {enc : TypeId × Value -> H} {W : World} {base : Nat} {spare : Nat -> Bool} {held : Bool} {r : Reach} {b0 : Nat} {v : Value} {d : DataW H} {p : List MemPlace}
  (hs : ∀ b, spare b = true) (hv : Value.okWide Tryz.prog W r b0 27 v) (h : DataW.Trod enc Tryz.prog W base spare held 27 v d p) :
  ∃ A c es, v = .slice A es.length c /\ VIn W ⟨A, c, es⟩ := by
 obtain ⟨a, len, cap, rfl⟩ := okWide_slice Tryz.underlying27 hv
 obtain ⟨fuel, hf⟩ := h
 replace hf : DataW.trod enc Tryz.prog W base spare held fuel 27 [.slice a len cap] = some (d, p) := hf
 rcases Go.Deep.open_slice Tryz.underlying27 hf with ⟨e1, _⟩ | ⟨ad, l, cp, m, n, D, Pl, e1, hb, hl, hm, hmm, _, hx⟩
 .simp only [List.cons.injEq, Value.slice.injEq, and_true] at e1
  obtain ⟨rfl, rfl, rfl⟩ := e1
  exact ⟨none, 0, [], rfl, ⟨Rq.nil, fun e he => (by cases he), Nat.le_refl _, by decide⟩⟩
 .simp only [List.cons.injEq, Value.slice.injEq, and_true] at e1
  obtain ⟨rfl, rfl, rfl⟩ := e1
  have hlm : len <= m := by rw [hmm]; split <;> omega
  have each : ∀ i, i < len -> ∃ E : E4, (W.cell? (ad.add (i * 4)) = some E.a /\ W.cell? (ad.add (i * 4 + 1)) = some E.b /\ W.cell? (ad.add (i * 4 + 2)) = some E.c /\ W.cell? (ad.add (i * 4 + 3)) = some E.d) /\ ZxE W E := by
   intro i hi
   obtain ⟨cs', h1, h2⟩ := hx i (by omega)
   rw [cellsQ] at h1
   obtain ⟨_, hlen, hcell⟩ := World.cells?_some h1
   match cs', hlen with
   | [c0, c1, c2, c3], _ =>
    have f0 := hcell 0 (by omega)
    have f1 := hcell 1 (by omega)
    have f2 := hcell 2 (by omega)
    have f3 := hcell 3 (by omega)
    rw [Go.Deep.add_add] at f0 f1 f2 f3
    exact ⟨⟨c0, c1, c2, c3⟩, ⟨by simpa using f0, by simpa using f1, by simpa using f2, by simpa using f3⟩, trod_q hs h2⟩
  obtain ⟨E, hE⟩ := Go.Deep.choose_lt each
  have hlen : ((List.range len).map E).length = len := by simp
  refine ⟨some ad, cap, (List.range len).map E, by rw [hlen], ⟨?_, ?_, by show ((List.range len).map E).length <= cap; rw [hlen]; exact hl, by have := hm; unfold maxLen at this; show cap <= _; omega⟩⟩
  .intro k hk
   have hk' : k < len := by rw [<- hlen]; exact hk
   obtain ⟨⟨c0, c1, c2, c3⟩, _⟩ := hE k hk'
   have hsp := spot_none (hE 0 (by omega)).1.1
   obtain ⟨b, o, sp⟩ := ad
   have h0 : (⟨b, o, sp⟩ : Addr).add (0 * 4) = ⟨b, o, sp⟩ := by simp [Addr.add]
   rw [h0] at hsp
   dsimp only at hsp
   subst hsp
   have hadd : ∀ j, (⟨b, o, none⟩ : Addr).add j = ⟨b, o + j, none⟩ := fun j => by
    unfold Addr.add
    by_cases hj : j = 0
    .simp [hj]
    .simp [hj]
   rw [hadd] at c0 c1 c2 c3
   refine ⟨b, o, rfl, World.block_lt_of_cell? W _ c0, ?_⟩
   have he : ((List.range len).map E)[k] = E k := by simp
   show W.cell? ⟨b, o + k * 4, none⟩ = some (((List.range len).map E)[k]).a /\ W.cell? ⟨b, o + k * 4 + 1, none⟩ = some (((List.range len).map E)[k]).b /\ W.cell? ⟨b, o + k * 4 + 2, none⟩ = some (((List.range len).map E)[k]).c /\ W.cell? ⟨b, o + k * 4 + 3, none⟩ = some (((List.range len).map E)[k]).d
   rw [he]
   exact ⟨c0, by rw [<- Nat.add_assoc] at c1; exact c1, by rw [<- Nat.add_assoc] at c2; exact c2, by rw [<- Nat.add_assoc] at c3; exact c3⟩
  .intro e he
   obtain ⟨i, hi, rfl⟩ := List.mem_map.1 he
   exact (hE i (List.mem_range.1 hi)).2
end Go.Proofs.YtcgdbdhhoomgiaaGreat
