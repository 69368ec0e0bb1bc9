/- Parts: 9. -/
import Derived.Test.YtcgdbdhhoomgiaaGreatVm5
import Derived.Test.YtcgdbdhhoomgiaaGreatVm15
import Derived.Test.YtcgdbdhhoomgiaaGreatVm17
import Derived.Test.YtcgdbdhhoomgiaaGreatVm19
import Derived.Test.YtcgdbdhhoomgiaaGreatVm22
import Derived.Below
import Derived.ChangeOld
import Derived.Deep.Slices
import Derived.Lib.SmallJoins
import Derived.OpenShut
import Derived.ProofKit
import Derived.ShutString
import Derived.WalkKit
set_option linter.unusedVariables false
set_option linter.unusedSimpArgs false
set_option maxRecDepth 100000
set_option maxHeartbeats 40000000

namespace Go.Proofs.YtcgdbdhhoomgiaaGreat
open Go.RowKit Go.Shelf
theorem Hp.cellAt {W : World} {g : Nat} {cs : Array Value} {t : TypeId} (h : Hp W g (.cells cs t (0, 0))) (j : Nat) : W.cell? ⟨g, j, none⟩ = cs[j]? := by simp [World.cell?, show W.heap[g]? = _ from h]
set_option maxRecDepth 100000 in
theorem half_q {w : World} :
  Calls Tryz.prog 45 #[] w (QR w (rv 1 2)) := by
 obtain ⟨W0, hW0⟩ : ∃ W0, W0 = w.alloc (.cells #[.bool false, .slice none 0 0, .bool false, .slice none 0 0] 26) := ⟨_, rfl⟩
 have hbw : Below w.heap.size w W0 := by rw [hW0]; exact ((Below.refl _ _).alloc (Nat.le_refl _) _)
 have tR : Four W0 (w.heap.size) (.bool false) (.slice none 0 0) (.bool false) (.slice none 0 0) := by
  have h := Four.new w (.bool false) (.slice none 0 0) (.bool false) (.slice none 0 0) 26
  rw [hW0]; exact h
 have HW0 := Hd hW0
 have HB := Hd hbw
 clear hW0 hbw
 go_enter Tryz.func45, Tryz.ntmps45
 go_wp2_with fail
 rw [<- HW0.out]
 clear HW0
 go_wp2_with fail
 refine (rof_q 1 2 (by decide) (by decide) (by decide) (by decide) _).mono ?_
 rintro e V1 ⟨x1, y1, u1, v1, rfl, q1, bb⟩
 replace tR := tR.to bb
 replace HB := hx HB bb
 clear bb
 have RZ := Hd q1
 obtain ⟨V99, eV, u, kp⟩ := pack4 tR Fq.nil x1 y1 u1 v1
 obtain ⟨⟨n1, A1, j1, m1, rfl, rfl⟩, ⟨n2, A2, j2, m2, rfl, rfl⟩⟩ := q1.fq
 obtain ⟨v0, v1, v2, v3, v4, v5, v6, v7, _⟩ := tR
 have EV := Hd eV
 have KP := Hd kp
 have U := Hd u
 clear eV kp u q1
 go_wp2
 rw [EV.out]
 refine bodyPost_ret (v := .agg #[.bool n1, .slice A1 j1 m1, .bool n2, .slice A2 j2 m2]) (by simp [results, Tryz.f45, go_sem, U.out.c0, U.out.c1, U.out.c2, U.out.c3]) rfl ?_
 exact ⟨_, _, _, _, rfl, RZ.out.k4 KP.out, KP.out.bel _ _ HB.out (by omega)⟩
theorem lits1 {w : World} (a0 : Int) (ha0 : -9223372036854775808 <= a0 /\ a0 <= 9223372036854775807) :
  Calls Tryz.prog 35 #[.slice (some ⟨w.heap.size, 0, none⟩) 1 1] (w.alloc (.cells #[.int .i64 a0] 2)) fun e w' => ∃ A c es, e = .returned (.slice A 1 c) /\ Vc w' A c es (ratsOf [a0]) /\ Below w.heap.size w w' := by
 have hb : Below w.heap.size w (w.alloc (.cells #[.int .i64 a0] 2)) := (Below.refl _ _).alloc (Nat.le_refl _) _
 have h1 := Hp.new w #[.int .i64 a0] 2
 refine (ints_v (ns := [a0]) (c := 1) (A := some ⟨w.heap.size, 0, none⟩) (fun k hk => ⟨w.heap.size, 0, rfl, ?_⟩) (fun n hn => ?_) (by simp)).mono ?_
 .match k, hk with
  | 0, _ => exact (h1.cellAt _).trans rfl
 .simp only [List.mem_cons, List.not_mem_nil, or_false] at hn
  subst hn
  assumption
 .rintro e w' ⟨A, c, es, rfl, hv, bb⟩
  exact ⟨A, c, es, rfl, hv, bx hb bb⟩
theorem lits2 {w : World} (a0 a1 : Int) (ha0 : -9223372036854775808 <= a0 /\ a0 <= 9223372036854775807) (ha1 : -9223372036854775808 <= a1 /\ a1 <= 9223372036854775807) :
  Calls Tryz.prog 35 #[.slice (some ⟨w.heap.size, 0, none⟩) 2 2] (w.alloc (.cells #[.int .i64 a0, .int .i64 a1] 2)) fun e w' => ∃ A c es, e = .returned (.slice A 2 c) /\ Vc w' A c es (ratsOf [a0, a1]) /\ Below w.heap.size w w' := by
 have hb : Below w.heap.size w (w.alloc (.cells #[.int .i64 a0, .int .i64 a1] 2)) := (Below.refl _ _).alloc (Nat.le_refl _) _
 have h1 := Hp.new w #[.int .i64 a0, .int .i64 a1] 2
 refine (ints_v (ns := [a0, a1]) (c := 2) (A := some ⟨w.heap.size, 0, none⟩) (fun k hk => ⟨w.heap.size, 0, rfl, ?_⟩) (fun n hn => ?_) (by simp)).mono ?_
 .match k, hk with
  | 0, _ => exact (h1.cellAt _).trans rfl
  | 1, _ => exact (h1.cellAt _).trans rfl
 .simp only [List.mem_cons, List.not_mem_nil, or_false] at hn
  rcases hn with rfl | rfl
  all_goals assumption
 .rintro e w' ⟨A, c, es, rfl, hv, bb⟩
  exact ⟨A, c, es, rfl, hv, bx hb bb⟩
theorem lits3 {w : World} (a0 a1 a2 : Int) (ha0 : -9223372036854775808 <= a0 /\ a0 <= 9223372036854775807) (ha1 : -9223372036854775808 <= a1 /\ a1 <= 9223372036854775807) (ha2 : -9223372036854775808 <= a2 /\ a2 <= 9223372036854775807) :
  Calls Tryz.prog 35 #[.slice (some ⟨w.heap.size, 0, none⟩) 3 3] (w.alloc (.cells #[.int .i64 a0, .int .i64 a1, .int .i64 a2] 2)) fun e w' => ∃ A c es, e = .returned (.slice A 3 c) /\ Vc w' A c es (ratsOf [a0, a1, a2]) /\ Below w.heap.size w w' := by
 have hb : Below w.heap.size w (w.alloc (.cells #[.int .i64 a0, .int .i64 a1, .int .i64 a2] 2)) := (Below.refl _ _).alloc (Nat.le_refl _) _
 have h1 := Hp.new w #[.int .i64 a0, .int .i64 a1, .int .i64 a2] 2
 refine (ints_v (ns := [a0, a1, a2]) (c := 3) (A := some ⟨w.heap.size, 0, none⟩) (fun k hk => ⟨w.heap.size, 0, rfl, ?_⟩) (fun n hn => ?_) (by simp)).mono ?_
 .match k, hk with
  | 0, _ => exact (h1.cellAt _).trans rfl
  | 1, _ => exact (h1.cellAt _).trans rfl
  | 2, _ => exact (h1.cellAt _).trans rfl
 .simp only [List.mem_cons, List.not_mem_nil, or_false] at hn
  rcases hn with rfl | rfl | rfl
  all_goals assumption
 .rintro e w' ⟨A, c, es, rfl, hv, bb⟩
  exact ⟨A, c, es, rfl, hv, bx hb bb⟩
theorem sm2_of {z : Int} (h : z.natAbs < 18446744073709551616) : Sm 2 z := h
theorem rats_qm {ns : List Int} (h : ns.all (fun n => decide (n.natAbs < 18446744073709551616)) = true) (i : Nat) : Qm 2 ((ratsOf ns).getD i 0) := by
 by_cases hi : i < ns.length
 .rw [ratsOf_getD hi, getD_lt hi]
  exact Qm.int (sm2_of (by simpa using (List.all_eq_true.1 h) _ (List.getElem_mem hi))) (by decide)
 .rw [getD_ge (by rw [ratsOf_length]; omega)]
  exact Qm.zero (by decide)
theorem format_q {w : World} {x1 y1 x2 y2 : Value} {r : Rat} {k : Nat} (h : Qc w x1 y1 x2 y2 r) (hm : Qm k r) (hk : k <= 10000) (hd : r.den = 1) {s : ByteArray} (hs : decZ r.num = s) :
  Calls Tryz.prog 47 #[.agg #[x1, y1, x2, y2]] w fun e w' => e = .returned (.string s) /\ Below w.heap.size w w' := by
 subst hs
 have s1 := hm.1.sg hk
 have s2 := hm.2.sg hk
 obtain ⟨p, q, z1, z2, rfl, h1, h2⟩ := h.qi hm hk
 exact format_int z1 z2 (h1.sg hk) (h2.sg hk) s1 s2 hd
theorem Vc.one {W : World} {x1 x2 x3 x4 : Value} {r : Rat} (q : Qc W x1 x2 x3 x4 r) : Vc (W.alloc (.cells #[x1, x2, x3, x4] 26)) (some ⟨W.heap.size, 0, none⟩) 1 [⟨x1, x2, x3, x4⟩] [r] := by
 have h := Row.one (Hp.new W #[x1, x2, x3, x4] 26) q.fq
 exact h.vc rfl rfl (by decide) fun i hi => by
  obtain rfl : i = 0 := by omega
  exact q.to ((Below.refl _ _).alloc (Nat.le_refl _) _)
theorem Vc.two {W : World} {x1 x2 x3 x4 y1 y2 y3 y4 : Value} {r s : Rat} (q : Qc W x1 x2 x3 x4 r) (q' : Qc W y1 y2 y3 y4 s) : Vc (W.alloc (.cells #[x1, x2, x3, x4, y1, y2, y3, y4] 26)) (some ⟨W.heap.size, 0, none⟩) 2 [⟨x1, x2, x3, x4⟩, ⟨y1, y2, y3, y4⟩] [r, s] := by
 have hp : Row (W.alloc (.cells #[x1, x2, x3, x4, y1, y2, y3, y4] 26)) W.heap.size [⟨x1, x2, x3, x4⟩, ⟨y1, y2, y3, y4⟩] := ⟨Hp.new W #[x1, x2, x3, x4, y1, y2, y3, y4] 26, fun e he => by
  simp only [List.mem_cons, List.not_mem_nil, or_false] at he
  rcases he with rfl | rfl
  .exact q.fq
  .exact q'.fq⟩
 have bb : Below W.heap.size W (W.alloc (.cells #[x1, x2, x3, x4, y1, y2, y3, y4] 26)) := (Below.refl _ _).alloc (Nat.le_refl _) _
 exact hp.vc rfl rfl (by decide) fun i hi => by
  match i, hi with
  | 0, _ => exact q.to bb
  | 1, _ => exact q'.to bb
theorem half_qm : Qm 2 (rv 1 2) := ⟨sm2_of (by decide +kernel), sm2_of (by decide +kernel)⟩
theorem valive_any (w : World) : Calls Tryz.prog 11 #[] w fun e w' => e = .returned (.bool true) /\ Below w.heap.size w w' := by
 have HB := Hd (Below.refl w.heap.size w)
 have S1 : ((({ data := #[49, 52] } : ByteArray)).toList == [49, 52]) = true := by decide +kernel
 go_enter Tryz.func11, Tryz.ntmps11
 go_wp2_with fail
 refine (lits2 1 5 (by decide) (by decide)).mono ?_
 rintro e V1 ⟨A1, c1, es1, rfl, v1, bb⟩
 replace HB := hx HB bb
 clear bb
 go_wp2_with fail
 refine (lits2 2 4 (by decide) (by decide)).mono ?_
 rintro e V2 ⟨A2, c2, es2, rfl, v2, bb⟩
 replace v1 := v1.to bb
 replace HB := hx HB bb
 clear bb
 go_wp2_with fail
 refine (vfirst_v (v1.vi (rats_qm (ns := [1, 5]) (by decide +kernel)) (by decide)) (v2.vi (rats_qm (ns := [2, 4]) (by decide +kernel)) (by decide)) (by decide) (by decide) (by decide) (by decide) (by decide) (o := some 1) (by decide +kernel)).mono ?_
 rintro e V3 ⟨rfl, bb⟩
 replace HB := hx HB bb
 clear bb v1 v2
 go_wp2_with fail
 refine (lits3 1 0 5 (by decide) (by decide) (by decide)).mono ?_
 rintro e V4 ⟨A4, c4, es4, rfl, v4, bb⟩
 replace HB := hx HB bb
 clear bb
 go_wp2_with fail
 refine (lits1 1 (by decide)).mono ?_
 rintro e V5 ⟨A5, c5, es5, rfl, v5, bb⟩
 replace v4 := v4.to bb
 replace HB := hx HB bb
 clear bb
 go_wp2_with fail
 refine (vcompare_v (v4.vi (rats_qm (ns := [1, 0, 5]) (by decide +kernel)) (by decide)) (v5.vi (rats_qm (ns := [1]) (by decide +kernel)) (by decide)) (by decide) (by decide) (by decide) (by decide) (by decide) (v := 1) (by decide +kernel)).mono ?_
 rintro e V6 ⟨rfl, bb⟩
 replace HB := hx HB bb
 clear bb v4 v5
 go_wp2_with fail
 refine (lits2 0 (-1) (by decide) (by decide)).mono ?_
 rintro e V7 ⟨A7, c7, es7, rfl, v7, bb⟩
 replace HB := hx HB bb
 clear bb
 go_wp2_with fail
 refine (lits1 0 (by decide)).mono ?_
 rintro e V8 ⟨A8, c8, es8, rfl, v8, bb⟩
 replace v7 := v7.to bb
 replace HB := hx HB bb
 clear bb
 go_wp2_with fail
 refine (vcompare_v (v7.vi (rats_qm (ns := [0, -1]) (by decide +kernel)) (by decide)) (v8.vi (rats_qm (ns := [0]) (by decide +kernel)) (by decide)) (by decide) (by decide) (by decide) (by decide) (by decide) (v := -1) (by decide +kernel)).mono ?_
 rintro e V9 ⟨rfl, bb⟩
 replace HB := hx HB bb
 clear bb v7 v8
 go_wp2_with fail
 refine (lits2 1 2 (by decide) (by decide)).mono ?_
 rintro e V10 ⟨A10, c10, es10, rfl, v10, bb⟩
 replace HB := hx HB bb
 clear bb
 go_wp2_with fail
 refine (half_q).mono ?_
 rintro e V11 ⟨x11, y11, u11, t11, rfl, q11, bb⟩
 replace v10 := v10.to bb
 replace HB := hx HB bb
 clear bb
 have o11 := Vc.one q11
 have bb := (Below.refl V11.heap.size V11).alloc (Nat.le_refl _) (.cells #[x11, y11, u11, t11] 26)
 replace v10 := v10.to bb
 replace HB := hx HB bb
 clear bb q11
 go_wp2_with fail
 refine (vadd_v (v10.vi (rats_qm (ns := [1, 2]) (by decide +kernel)) (by decide)) (o11.vi (k := 2) (fun i => by match i with | 0 => exact half_qm | i + 1 => exact Qm.zero (by decide)) (by decide)) (by decide) (by decide) (by decide) (by decide) (by decide)).mono ?_
 rintro e V12 ⟨A12, c12, es12, rfl, s12, bb⟩
 replace HB := hx HB bb
 clear bb v10 o11
 go_wp2_with fail
 refine (rof_q 3 2 (by decide) (by decide) (by decide) (by decide) _).mono ?_
 rintro e V13 ⟨x13, y13, u13, t13, rfl, q13, bb⟩
 replace s12 := s12.to bb
 replace HB := hx HB bb
 clear bb
 go_wp2_with fail
 refine (rint_q 2 (by decide) (by decide) _).mono ?_
 rintro e V14 ⟨x14, y14, u14, t14, rfl, q14, bb⟩
 replace s12 := s12.to bb
 replace q13 := q13.to bb
 replace HB := hx HB bb
 clear bb
 have o14 := Vc.two q13 q14
 have bb := (Below.refl V14.heap.size V14).alloc (Nat.le_refl _) (.cells #[x13, y13, u13, t13, x14, y14, u14, t14] 26)
 replace s12 := s12.to bb
 replace HB := hx HB bb
 clear bb q13 q14
 go_wp2_with fail
 refine (vis_v s12 o14 (by decide) (v := true) (by decide +kernel)).mono ?_
 rintro e V15 ⟨rfl, bb⟩
 replace HB := hx HB bb
 clear bb s12 o14
 go_wp2_with fail
 refine (lits3 1 2 3 (by decide) (by decide) (by decide)).mono ?_
 rintro e V16 ⟨A16, c16, es16, rfl, v16, bb⟩
 replace HB := hx HB bb
 clear bb
 go_wp2_with fail
 refine (lits2 4 5 (by decide) (by decide)).mono ?_
 rintro e V17 ⟨A17, c17, es17, rfl, v17, bb⟩
 replace v16 := v16.to bb
 replace HB := hx HB bb
 clear bb
 go_wp2_with fail
 refine (vdot_v (v16.vi (rats_qm (ns := [1, 2, 3]) (by decide +kernel)) (by decide)) (v17.vi (rats_qm (ns := [4, 5]) (by decide +kernel)) (by decide)) (by decide) (by decide) (by decide) (by decide) (by decide)).mono ?_
 rintro e V18 ⟨x18, y18, u18, t18, rfl, q18, bb⟩
 replace HB := hx HB bb
 clear bb v16 v17
 go_wp2_with fail
 refine (format_q q18 (k := 2) ⟨sm2_of (by decide +kernel), sm2_of (by decide +kernel)⟩ (by decide) (by decide +kernel) (s := ⟨#[49, 52]⟩) (by decide +kernel)).mono ?_
 rintro e V19 ⟨rfl, bb⟩
 replace HB := hx HB bb
 clear bb q18
 go_wp2_with fail
 refine (lits3 1 2 3 (by decide) (by decide) (by decide)).mono ?_
 rintro e V20 ⟨A20, c20, es20, rfl, v20, bb⟩
 replace HB := hx HB bb
 clear bb
 go_wp2_with fail
 refine (vresize_v (v20.vi (rats_qm (ns := [1, 2, 3]) (by decide +kernel)) (by decide)) (by decide) (by decide) (n := 2) (by decide)).mono ?_
 rintro e V21 ⟨A21, c21, es21, rfl, s21, bb⟩
 replace HB := hx HB bb
 clear bb v20
 go_wp2_with fail
 refine (lits2 1 2 (by decide) (by decide)).mono ?_
 rintro e V22 ⟨A22, c22, es22, rfl, v22, bb⟩
 replace s21 := s21.to bb
 replace HB := hx HB bb
 clear bb
 go_wp2_with fail
 refine (vis_v s21 v22 (by decide) (v := true) (by decide +kernel)).mono ?_
 rintro e V23 ⟨rfl, bb⟩
 replace HB := hx HB bb
 clear bb s21 v22
 go_wp2_with fail
 refine (vunit_v (n := 3) (k := 1) (by decide)).mono ?_
 rintro e V24 ⟨A24, c24, es24, rfl, s24, bb⟩
 replace HB := hx HB bb
 clear bb
 go_wp2_with fail
 refine (lits3 0 1 0 (by decide) (by decide) (by decide)).mono ?_
 rintro e V25 ⟨A25, c25, es25, rfl, v25, bb⟩
 replace s24 := s24.to bb
 replace HB := hx HB bb
 clear bb
 go_wp2_with fail
 refine (vis_v s24 v25 (by decide) (v := true) (by decide +kernel)).mono ?_
 rintro e V26 ⟨rfl, bb⟩
 replace HB := hx HB bb
 clear bb s24 v25
 go_wp2
 go_ret
 exact ⟨rfl, HB.out⟩
end Go.Proofs.YtcgdbdhhoomgiaaGreat

namespace Go.Proofs.YtcgdbdhhoomgiaaGreat
open Go.ChangeShapes Go.WideShapes Go.ChangeAt Go.RowKit Go.Joins
theorem cellsZ : Tryz.prog.cellsOf 24 = 2 := by kernel_rfl
theorem cellsU : Tryz.prog.cellsOf 81 = 1 := by kernel_rfl
theorem laidOut : laidOutB Tryz.prog = true := by kernel_rfl
theorem own : ownKnob Tryz.prog.godebug = none := by kernel_rfl
theorem nats_of {zs : List Int} (h : ∀ n ∈ zs, (Lit.int .u32 n).wf = true) : ∃ xs : List Nat, zs = xs.map (fun n : Nat => (n : Int)) /\ Dg b32 xs := by
 induction zs with
 | nil => exact ⟨[], rfl, fun d hd => by cases hd⟩
 | cons z zs ih =>
  obtain ⟨xs, rfl, hx⟩ := ih (fun n hn => h n (List.mem_cons_of_mem _ hn))
  have hz := h z List.mem_cons_self
  have hz' := bounds_u32 hz
  exact ⟨z.toNat :: xs, by simp; omega, Dg.cons (by unfold b32; omega) hx⟩
theorem cellsB : Tryz.prog.cellsOf 4 = 1 := by kernel_rfl
theorem cellsS : Tryz.prog.cellsOf 22 = 1 := by kernel_rfl
theorem cellsQ : Tryz.prog.cellsOf 26 = 4 := by kernel_rfl
def Zx2 (W : World) (x y : Value) : Prop := ∃ n A c xs, x = .bool n /\ y = .slice A xs.length c /\ Rd .u32 W W.heap.size A xs /\ Dg b32 xs /\ xs.length <= c /\ c <= 9223372036854775807
theorem trod_z {H : Type} {enc : TypeId × Value -> H} {W : World} {base : Nat} {spare : Nat -> Bool} {held : Bool} {fuel : Nat} {c0 c1 : Value} {x : DataW H × List MemPlace}
  (hs : ∀ b, spare b = true) (h : DataW.trod enc Tryz.prog W base spare held fuel 24 [c0, c1] = some x) : Zx2 W c0 c1 := by
 obtain ⟨y0, y1, m, hx, _, h0, h1⟩ := trod_struct2 (f0 := _) (f1 := _) (show Tryz.prog.underlying 24 = _ from Tryz.underlying24) h
 replace h0 : DataW.trod enc Tryz.prog W base spare held m 4 [c0] = some y0 := by
  rw [show Tryz.prog.cellsOf _ = 1 from cellsB] at h0
  simpa using h0
 replace h1 : DataW.trod enc Tryz.prog W base spare held m 22 [c1] = some y1 := by
  rw [show Tryz.prog.cellsOf _ = 1 from cellsS] at h1
  simpa using h1
 obtain ⟨n, hc0, _⟩ := DataW.trod_bool Tryz.underlying4 h0
 obtain rfl : c0 = .bool n := by simpa using hc0
 rcases open_ints Tryz.underlying22 Tryz.underlying81 cellsU h1 with ⟨hcs, _⟩ | ⟨x, l, c, zs, hcs, _, hl, hm, hz, _, hcell, hwz⟩
 .obtain rfl : c1 = .slice none 0 0 := by simpa using hcs
  exact ⟨n, none, 0, [], rfl, rfl, Rd.nil, Dg.nil, Nat.le_refl _, by decide⟩
 .obtain rfl : c1 = .slice (some x) l c := by simpa using hcs
  rw [hs, if_pos rfl] at hz
  obtain ⟨xs, rfl, hx⟩ := nats_of hwz
  rw [List.length_map] at hz
  have hlen : (xs.take l).length = l := by rw [List.length_take]; omega
  refine ⟨n, some x, c, xs.take l, rfl, by rw [hlen], ?_, hx.take l, by rw [hlen]; exact hl, Nat.le_trans hm (by decide)⟩
  intro k hk
  rw [hlen] at hk
  obtain ⟨b, off, rfl, hc⟩ := Go.ints_at hcell (by rw [List.length_map]; omega)
  have hck := hc k (by rw [List.length_map]; omega)
  refine ⟨b, off, rfl, World.block_lt_of_cell? W _ hck, ?_⟩
  rw [hck]
  have hk' : k < xs.length := by omega
  simp [hk']
theorem trod_q {H : Type} {enc : TypeId × Value -> H} {W : World} {base : Nat} {spare : Nat -> Bool} {held : Bool} {fuel : Nat} {c0 c1 c2 c3 : Value} {x : DataW H × List MemPlace}
  (hs : ∀ b, spare b = true) (h : DataW.trod enc Tryz.prog W base spare held fuel 26 [c0, c1, c2, c3] = some x) : Zx2 W c0 c1 /\ Zx2 W c2 c3 := by
 obtain ⟨y0, y1, m, hx, _, h0, h1⟩ := trod_struct2 (f0 := _) (f1 := _) (show Tryz.prog.underlying 26 = _ from Tryz.underlying26) h
 replace h0 : DataW.trod enc Tryz.prog W base spare held m 24 [c0, c1] = some y0 := by
  rw [show Tryz.prog.cellsOf _ = 2 from cellsZ] at h0
  simpa using h0
 replace h1 : DataW.trod enc Tryz.prog W base spare held m 24 [c2, c3] = some y1 := by
  rw [show Tryz.prog.cellsOf _ = 2 from cellsZ] at h1
  simpa using h1
 exact ⟨trod_z hs h0, trod_z hs h1⟩
end Go.Proofs.YtcgdbdhhoomgiaaGreat

namespace Go.Proofs.YtcgdbdhhoomgiaaGreat
open Go.RowKit Go.Shelf
theorem flong_o (g o : Nat) (A : Option Addr) (ls : List (Nat × Nat)) (cap : Nat) (w : World) (hA : ∀ (k : Nat), k < ls.length -> A = some ⟨g, o, none⟩ /\ g < w.heap.size)
  (h : ∀ (k : Nat) (hk : k < ls.length), ∃ n1 A1 c1 n2 A2 c2, w.cell? ⟨g, o + k * 4, none⟩ = some (.bool n1) /\ w.cell? ⟨g, o + k * 4 + 1, none⟩ = some (.slice A1 ls[k].1 c1) /\ w.cell? ⟨g, o + k * 4 + 2, none⟩ = some (.bool n2) /\ w.cell? ⟨g, o + k * 4 + 3, none⟩ = some (.slice A2 ls[k].2 c2))
  (hs : ∀ (k : Nat) (hk : k < ls.length), ls[k].1 <= 9223372036854775807 /\ ls[k].2 <= 9223372036854775807) (hl : ls.length <= 1000) {r : Bool} (hr : (ls.any fun p => decide (6 < p.1) || decide (6 < p.2)) = r) :
  Calls Tryz.prog 10 #[.slice A ls.length cap] w fun e w' => e = .returned (.bool r) /\ Below w.heap.size w w' := by
 have H := Hd h
 have HS := Hd hs
 have HA := Hd hA
 have HR := Hd hr
 clear h hs hA hr
 go_enter Tryz.func10, Tryz.ntmps10
 go_wp2
 go_loopw [3] (fun i wr => ∃ k : Nat, i = .int .i64 k /\ k <= ls.length /\ (∀ j (hj : j < ls.length), j < k -> ls[j].1 <= 6 /\ ls[j].2 <= 6) /\ Below w.heap.size w wr) (fun i _ => ls.length - (intOf i).toNat)
 case atStart => exact ⟨0, rfl, Nat.zero_le _, (fun j _ hj => by omega), Below.refl _ _⟩
 case round =>
  obtain ⟨k, rfl, hk, ht, hb⟩ := hrel
  have HT := Hd ht
  have HB := Hd hb
  clear ht hb
  by_cases hlt : k < ls.length
  .obtain ⟨rfl, hg⟩ := HA.out k hlt
   have HG := Hd hg
   clear hg
   have hc := H.out k hlt
   have hm := HS.out k hlt
   have hki : (0 : Int) <= (k : Int) := by omega
   have hki' : (k : Int) < (ls.length : Int) := by omega
   have HN : Hid (ls[k] = ls[k]) := rfl
   obtain ⟨⟨m1, m2⟩, hn⟩ : ∃ m, ls[k] = m := ⟨_, rfl⟩
   rw [hn] at hc hm
   have HN2 := Hd hn
   obtain ⟨n1, A1, c1, n2, A2, c2, hc⟩ := hc
   have HF : Hid (∀ w', Below w.heap.size w w' -> w'.cell? ⟨g, o + k * 4, none⟩ = some (.bool n1) /\ w'.cell? ⟨g, o + k * 4 + 1, none⟩ = some (.slice A1 m1 c1) /\ w'.cell? ⟨g, o + k * 4 + 2, none⟩ = some (.bool n2) /\ w'.cell? ⟨g, o + k * 4 + 3, none⟩ = some (.slice A2 m2 c2)) := fun w' hS =>
    ⟨(hS.cell (p := ⟨g, o + k * 4, none⟩) HG.out).trans hc.1, (hS.cell (p := ⟨g, o + k * 4 + 1, none⟩) HG.out).trans hc.2.1, (hS.cell (p := ⟨g, o + k * 4 + 2, none⟩) HG.out).trans hc.2.2.1, (hS.cell (p := ⟨g, o + k * 4 + 3, none⟩) HG.out).trans hc.2.2.2⟩
   have M1 := Hd hm.1
   have M2 := Hd hm.2
   clear hc hm hn HN
   by_cases ha : 12 < m1 ∨ 12 < m2
   .have HL : Hid ([m1, m2].any (fun n => decide (12 < n)) = true) := by show _ = _; simpa using ha
    have hany : Hid ((ls.any fun p => decide (6 < p.1) || decide (6 < p.2)) = true) := by
     show _ = _
     rw [List.any_eq_true]
     exact ⟨ls[k], List.getElem_mem hlt, by rw [HN2.out]; simp; omega⟩
    clear ha
    go_wp2_with fail
    refine wp_region_plan (S := fun w' => Below w.heap.size w w') [(0, true), (1, true), (2, true), (3, true), (4, true), (5, true), (6, true), (7, true), (8, true), (9, true), (10, false), (11, false), (12, true), (13, true), (14, true), (15, true), (16, true), (17, true), (18, true), (19, true), (20, true), (21, true), (22, true), (23, true), (24, true), (25, true), (26, true), (27, true), (28, true), (29, true), (30, true), (31, true)] (by kernel_rfl) (by kernel_rfl) HB.out.drew ?_
    have hb := HB.out.drew
    iterate 10 (refine plan_take (v := ?_) rfl (by rfl) ?_ ?_; rotate_left; (focus (intro w' hS; obtain ⟨f0, f1, f2, f3⟩ := HF.out w' hS; go_simp; try with_reducible rfl)); simp only [Act.put, List.setIfInBounds_toArray, List.set_cons_zero, List.set_cons_succ])
    refine plan_call rfl (by rfl) (fun K hK => ?_)
    go_simp
    have hnew := (Four.new wr (.bool n1) (.slice A1 m1 c1) (.bool n2) (.slice A2 m2 c2) 24).to (Below.refl _ _).drew
    replace hb := hb.alloc hb.size (.cells #[.bool n1, .slice A1 m1 c1, .bool n2, .slice A2 m2 c2] 24)
    refine hK.out _ _ hb ?_
    clear hK K
    refine plan_call rfl (by rfl) (fun K hK => ?_)
    go_simp
    refine (long_2 M1.out M2.out hnew.c1 hnew.c3 HL.out).mono ?_
    rintro e V ⟨rfl, rfl⟩
    refine hK.out _ _ hb ?_
    clear hK K hnew
    refine plan_take (v := ?_) rfl (by rfl) ?_ ?_; rotate_left; (focus (intro w' hS; go_simp; try with_reducible rfl)); simp only [Act.put, List.setIfInBounds_toArray, List.set_cons_zero, List.set_cons_succ]
    iterate 8 (refine plan_skip rfl (by rfl) ?_; simp only [Act.put, List.setIfInBounds_toArray, List.set_cons_zero, List.set_cons_succ])
    iterate 2 (refine plan_take (v := ?_) rfl (by rfl) ?_ ?_; rotate_left; (focus (intro w' hS; go_simp; try with_reducible rfl)); simp only [Act.put, List.setIfInBounds_toArray, List.set_cons_zero, List.set_cons_succ])
    iterate 8 (refine plan_skip rfl (by rfl) ?_; simp only [Act.put, List.setIfInBounds_toArray, List.set_cons_zero, List.set_cons_succ])
    refine plan_take (v := ?_) rfl (by rfl) ?_ ?_; rotate_left; (focus (intro w' hS; go_simp; try with_reducible rfl)); simp only [Act.put, List.setIfInBounds_toArray, List.set_cons_zero, List.set_cons_succ]
    refine plan_done ?_
    have HE := Hd hb
    clear hb HB
    go_wp2
    go_ret
    exact ⟨by rw [<- HR.out, hany.out]; rfl, HE.out⟩
   .have HL : Hid ([m1, m2].any (fun n => decide (12 < n)) = false) := by show _ = _; simpa using ha
    by_cases hb6 : 6 < m1
    .have hany : Hid ((ls.any fun p => decide (6 < p.1) || decide (6 < p.2)) = true) := by
      show _ = _
      rw [List.any_eq_true]
      exact ⟨ls[k], List.getElem_mem hlt, by rw [HN2.out]; simp; omega⟩
     clear ha
     have d1 : decide ((6 : Int) < (m1 : Int)) = true := by simp; omega
     clear hb6
     go_wp2_with fail
     refine wp_region_plan (S := fun w' => Below w.heap.size w w') [(0, true), (1, true), (2, true), (3, true), (4, true), (5, true), (6, true), (7, true), (8, true), (9, true), (10, false), (11, false), (12, true), (13, true), (14, true), (15, true), (16, true), (17, true), (18, true), (19, true), (20, true), (21, true), (22, true), (23, true), (24, true), (25, true), (26, true), (27, true), (28, true), (29, true), (30, true), (31, true)] (by kernel_rfl) (by kernel_rfl) HB.out.drew ?_
     have hb := HB.out.drew
     iterate 10 (refine plan_take (v := ?_) rfl (by rfl) ?_ ?_; rotate_left; (focus (intro w' hS; obtain ⟨f0, f1, f2, f3⟩ := HF.out w' hS; go_simp; try with_reducible rfl)); simp only [Act.put, List.setIfInBounds_toArray, List.set_cons_zero, List.set_cons_succ])
     refine plan_call rfl (by rfl) (fun K hK => ?_)
     go_simp
     have hnew := (Four.new wr (.bool n1) (.slice A1 m1 c1) (.bool n2) (.slice A2 m2 c2) 24).to (Below.refl _ _).drew
     replace hb := hb.alloc hb.size (.cells #[.bool n1, .slice A1 m1 c1, .bool n2, .slice A2 m2 c2] 24)
     refine hK.out _ _ hb ?_
     clear hK K
     refine plan_call rfl (by rfl) (fun K hK => ?_)
     go_simp
     refine (long_2 M1.out M2.out hnew.c1 hnew.c3 HL.out).mono ?_
     rintro e V ⟨rfl, rfl⟩
     refine hK.out _ _ hb ?_
     clear hK K hnew
     iterate 3 (refine plan_take (v := ?_) rfl (by rfl) ?_ ?_; rotate_left; (focus (intro w' hS; go_simp; try with_reducible rfl)); simp only [Act.put, List.setIfInBounds_toArray, List.set_cons_zero, List.set_cons_succ])
     iterate 4 (refine plan_take (v := ?_) rfl (by rfl) ?_ ?_; rotate_left; (focus (intro w' hS; obtain ⟨f0, f1, f2, f3⟩ := HF.out w' hS; go_simp; try with_reducible rfl)); simp only [Act.put, List.setIfInBounds_toArray, List.set_cons_zero, List.set_cons_succ])
     iterate 4 (refine plan_take (v := ?_) rfl (by rfl) ?_ ?_; rotate_left; (focus (intro w' hS; go_simp; try with_reducible rfl)); simp only [Act.put, List.setIfInBounds_toArray, List.set_cons_zero, List.set_cons_succ])
     iterate 8 (refine plan_skip rfl (by rfl) ?_; simp only [Act.put, List.setIfInBounds_toArray, List.set_cons_zero, List.set_cons_succ])
     refine plan_take (v := ?_) rfl (by rfl) ?_ ?_; rotate_left; (focus (intro w' hS; go_simp; try with_reducible rfl)); simp only [Act.put, List.setIfInBounds_toArray, List.set_cons_zero, List.set_cons_succ]
     refine plan_done ?_
     have HE := Hd hb
     clear hb HB
     go_wp2
     go_ret
     exact ⟨by rw [<- HR.out, hany.out]; rfl, HE.out⟩
    .by_cases hc6 : 6 < m2
     .have hany : Hid ((ls.any fun p => decide (6 < p.1) || decide (6 < p.2)) = true) := by
       show _ = _
       rw [List.any_eq_true]
       exact ⟨ls[k], List.getElem_mem hlt, by rw [HN2.out]; simp; omega⟩
      clear ha
      have d1 : decide ((6 : Int) < (m1 : Int)) = false := by simp; omega
      have d2 : decide ((6 : Int) < (m2 : Int)) = true := by simp; omega
      clear hb6 hc6
      go_wp2_with fail
      refine wp_region_plan (S := fun w' => Below w.heap.size w w') [(0, true), (1, true), (2, true), (3, true), (4, true), (5, true), (6, true), (7, true), (8, true), (9, true), (10, false), (11, false), (12, true), (13, true), (14, true), (15, true), (16, true), (17, true), (18, true), (19, true), (20, true), (21, true), (22, true), (23, true), (24, true), (25, true), (26, true), (27, true), (28, true), (29, true), (30, true), (31, true)] (by kernel_rfl) (by kernel_rfl) HB.out.drew ?_
      have hb := HB.out.drew
      iterate 10 (refine plan_take (v := ?_) rfl (by rfl) ?_ ?_; rotate_left; (focus (intro w' hS; obtain ⟨f0, f1, f2, f3⟩ := HF.out w' hS; go_simp; try with_reducible rfl)); simp only [Act.put, List.setIfInBounds_toArray, List.set_cons_zero, List.set_cons_succ])
      refine plan_call rfl (by rfl) (fun K hK => ?_)
      go_simp
      have hnew := (Four.new wr (.bool n1) (.slice A1 m1 c1) (.bool n2) (.slice A2 m2 c2) 24).to (Below.refl _ _).drew
      replace hb := hb.alloc hb.size (.cells #[.bool n1, .slice A1 m1 c1, .bool n2, .slice A2 m2 c2] 24)
      refine hK.out _ _ hb ?_
      clear hK K
      refine plan_call rfl (by rfl) (fun K hK => ?_)
      go_simp
      refine (long_2 M1.out M2.out hnew.c1 hnew.c3 HL.out).mono ?_
      rintro e V ⟨rfl, rfl⟩
      refine hK.out _ _ hb ?_
      clear hK K hnew
      iterate 3 (refine plan_take (v := ?_) rfl (by rfl) ?_ ?_; rotate_left; (focus (intro w' hS; go_simp; try with_reducible rfl)); simp only [Act.put, List.setIfInBounds_toArray, List.set_cons_zero, List.set_cons_succ])
      iterate 4 (refine plan_take (v := ?_) rfl (by rfl) ?_ ?_; rotate_left; (focus (intro w' hS; obtain ⟨f0, f1, f2, f3⟩ := HF.out w' hS; go_simp; try with_reducible rfl)); simp only [Act.put, List.setIfInBounds_toArray, List.set_cons_zero, List.set_cons_succ])
      iterate 6 (refine plan_take (v := ?_) rfl (by rfl) ?_ ?_; rotate_left; (focus (intro w' hS; go_simp; try with_reducible rfl)); simp only [Act.put, List.setIfInBounds_toArray, List.set_cons_zero, List.set_cons_succ])
      iterate 4 (refine plan_take (v := ?_) rfl (by rfl) ?_ ?_; rotate_left; (focus (intro w' hS; obtain ⟨f0, f1, f2, f3⟩ := HF.out w' hS; go_simp; try with_reducible rfl)); simp only [Act.put, List.setIfInBounds_toArray, List.set_cons_zero, List.set_cons_succ])
      iterate 3 (refine plan_take (v := ?_) rfl (by rfl) ?_ ?_; rotate_left; (focus (intro w' hS; go_simp; try with_reducible rfl)); simp only [Act.put, List.setIfInBounds_toArray, List.set_cons_zero, List.set_cons_succ])
      refine plan_done ?_
      have HE := Hd hb
      clear hb HB
      go_wp2
      go_ret
      exact ⟨by rw [<- HR.out, hany.out]; rfl, HE.out⟩
     .have hok : Hid (m1 <= 6 /\ m2 <= 6) := by show _ /\ _; omega
      clear ha
      have d1 : decide ((6 : Int) < (m1 : Int)) = false := by simp; omega
      have d2 : decide ((6 : Int) < (m2 : Int)) = false := by simp; omega
      clear hb6 hc6
      go_wp2_with fail
      refine wp_region_plan (S := fun w' => Below w.heap.size w w') [(0, true), (1, true), (2, true), (3, true), (4, true), (5, true), (6, true), (7, true), (8, true), (9, true), (10, false), (11, false), (12, true), (13, true), (14, true), (15, true), (16, true), (17, true), (18, true), (19, true), (20, true), (21, true), (22, true), (23, true), (24, true), (25, true), (26, true), (27, true), (28, true), (29, true), (30, true), (31, true)] (by kernel_rfl) (by kernel_rfl) HB.out.drew ?_
      have hb := HB.out.drew
      iterate 10 (refine plan_take (v := ?_) rfl (by rfl) ?_ ?_; rotate_left; (focus (intro w' hS; obtain ⟨f0, f1, f2, f3⟩ := HF.out w' hS; go_simp; try with_reducible rfl)); simp only [Act.put, List.setIfInBounds_toArray, List.set_cons_zero, List.set_cons_succ])
      refine plan_call rfl (by rfl) (fun K hK => ?_)
      go_simp
      have hnew := (Four.new wr (.bool n1) (.slice A1 m1 c1) (.bool n2) (.slice A2 m2 c2) 24).to (Below.refl _ _).drew
      replace hb := hb.alloc hb.size (.cells #[.bool n1, .slice A1 m1 c1, .bool n2, .slice A2 m2 c2] 24)
      refine hK.out _ _ hb ?_
      clear hK K
      refine plan_call rfl (by rfl) (fun K hK => ?_)
      go_simp
      refine (long_2 M1.out M2.out hnew.c1 hnew.c3 HL.out).mono ?_
      rintro e V ⟨rfl, rfl⟩
      refine hK.out _ _ hb ?_
      clear hK K hnew
      iterate 3 (refine plan_take (v := ?_) rfl (by rfl) ?_ ?_; rotate_left; (focus (intro w' hS; go_simp; try with_reducible rfl)); simp only [Act.put, List.setIfInBounds_toArray, List.set_cons_zero, List.set_cons_succ])
      iterate 4 (refine plan_take (v := ?_) rfl (by rfl) ?_ ?_; rotate_left; (focus (intro w' hS; obtain ⟨f0, f1, f2, f3⟩ := HF.out w' hS; go_simp; try with_reducible rfl)); simp only [Act.put, List.setIfInBounds_toArray, List.set_cons_zero, List.set_cons_succ])
      iterate 6 (refine plan_take (v := ?_) rfl (by rfl) ?_ ?_; rotate_left; (focus (intro w' hS; go_simp; try with_reducible rfl)); simp only [Act.put, List.setIfInBounds_toArray, List.set_cons_zero, List.set_cons_succ])
      iterate 4 (refine plan_take (v := ?_) rfl (by rfl) ?_ ?_; rotate_left; (focus (intro w' hS; obtain ⟨f0, f1, f2, f3⟩ := HF.out w' hS; go_simp; try with_reducible rfl)); simp only [Act.put, List.setIfInBounds_toArray, List.set_cons_zero, List.set_cons_succ])
      iterate 3 (refine plan_take (v := ?_) rfl (by rfl) ?_ ?_; rotate_left; (focus (intro w' hS; go_simp; try with_reducible rfl)); simp only [Act.put, List.setIfInBounds_toArray, List.set_cons_zero, List.set_cons_succ])
      refine plan_done ?_
      have HE := Hd hb
      clear hb HB
      go_wp2
      go_roundw
      case rel => exact ⟨k + 1, by simp, by omega, (fun j hj hjk => by
       rcases Nat.lt_or_ge j k with h1 | h1
       .exact HT.out j hj h1
       .obtain rfl : j = k := by omega
        rw [HN2.out]; exact hok.out), HE.out⟩
      case measure => simp [intOf]; omega
  .obtain rfl : k = ls.length := by omega
   clear hlt
   go_wp2
   go_ret
   refine ⟨?_, HB.out⟩
   have : (ls.any fun p => decide (6 < p.1) || decide (6 < p.2)) = false := by
    rw [List.any_eq_false]
    intro x hx
    obtain ⟨j, hj, rfl⟩ := List.getElem_of_mem hx
    have := HT.out j hj hj
    simp; omega
   rw [<- HR.out, this]
   rfl
def ZxE (W : World) (e : E4) : Prop := Zx2 W e.a e.b /\ Zx2 W e.c e.d
theorem Zx2.to {W V : World} {x y : Value} (h : Zx2 W x y) (hb : Below W.heap.size W V) : Zx2 V x y := by
 obtain ⟨n, A, c, xs, h1, h2, h3, h4⟩ := h
 exact ⟨n, A, c, xs, h1, h2, h3.to hb, h4⟩
theorem ZxE.to {W V : World} {e : E4} (h : ZxE W e) (hb : Below W.heap.size W V) : ZxE V e := ⟨h.1.to hb, h.2.to hb⟩
theorem ZxE.fq {W : World} {e : E4} (h : ZxE W e) : e.fq := by
 obtain ⟨⟨n, A, c, xs, h1, h2, _⟩, ⟨m, B, d, ys, h3, h4, _⟩⟩ := h
 exact ⟨⟨n, A, xs.length, c, h1, h2⟩, ⟨m, B, ys.length, d, h3, h4⟩⟩
def vlen : Value -> Nat
 | .slice _ n _ => n
 | _ => 0
def lngE (e : E4) : Bool := decide (6 < vlen e.b) || decide (6 < vlen e.d)
def lngV (es : List E4) : Bool := decide (20 < es.length) || es.any lngE
structure VA where
 A : Option Addr
 c : Nat
 es : List E4
structure VIn (W : World) (v : VA) : Prop where
 row : Rq W W.heap.size v.A v.es
 el : ∀ e ∈ v.es, ZxE W e
 cap : v.es.length <= v.c
 c63 : v.c <= 9223372036854775807
theorem VIn.to {W V : World} {v : VA} (h : VIn W v) (hb : Below W.heap.size W V) : VIn V v := ⟨h.row.to hb, fun e he => (h.el e he).to hb, h.cap, h.c63⟩
theorem flong_v {w : World} {v : VA} (h : VIn w v) (hl : v.es.length <= 1000) {r : Bool} (hr : v.es.any lngE = r) :
  Calls Tryz.prog 10 #[.slice v.A v.es.length v.c] w fun e w' => e = .returned (.bool r) /\ Below w.heap.size w w' := by
 obtain ⟨A, c, es⟩ := v
 obtain ⟨hrow, hel, hcap, hc63⟩ := h
 dsimp only at hrow hel hcap hc63 hl hr ⊢
 have key : ∃ g o, ∀ k, k < es.length -> A = some ⟨g, o, none⟩ /\ g < w.heap.size := by
  by_cases h0 : 0 < es.length
  .obtain ⟨b, o, rfl, hb, _⟩ := hrow 0 h0
   exact ⟨b, o, fun k _ => ⟨rfl, hb⟩⟩
  .exact ⟨0, 0, fun k hk => by omega⟩
 obtain ⟨g, o, key⟩ := key
 have h1 := flong_o g o A (es.map fun e => (vlen e.b, vlen e.d)) c w (fun k hk => key k (by simpa using hk)) (fun k hk => by
  have hk' : k < es.length := by simpa using hk
  obtain ⟨b, o', e1, hb, c0, c1, c2, c3⟩ := hrow k hk'
  obtain ⟨e2, _⟩ := key k hk'
  rw [e1] at e2
  simp only [Option.some.injEq, Addr.mk.injEq, and_true] at e2
  obtain ⟨rfl, rfl⟩ := e2
  obtain ⟨⟨n, A1, d1, xs, f1, f2, _⟩, ⟨m, A2, d2, ys, f3, f4, _⟩⟩ := hel _ (List.getElem_mem hk')
  rw [f1] at c0
  rw [f2] at c1
  rw [f3] at c2
  rw [f4] at c3
  refine ⟨n, A1, d1, m, A2, d2, c0, ?_, c2, ?_⟩
  .rw [c1]; simp [f2, vlen]
  .rw [c3]; simp [f4, vlen]) (fun k hk => by
  have hk' : k < es.length := by simpa using hk
  obtain ⟨⟨n, A1, d1, xs, f1, f2, _, _, g1, g2⟩, ⟨m, A2, d2, ys, f3, f4, _, _, g3, g4⟩⟩ := hel _ (List.getElem_mem hk')
  simp only [List.getElem_map, f2, f4, vlen]
  exact ⟨by omega, by omega⟩) (by simpa using hl) (r := r) (by rw [<- hr, List.any_map]; rfl)
 rw [List.length_map] at h1
 exact h1
theorem vlong_any (g : Nat) (vs : List VA) (cap : Nat) (w : World) (hg : g < w.heap.size) (hc : ∀ i (h : i < vs.length), w.cell? ⟨g, i, none⟩ = some (.slice vs[i].A vs[i].es.length vs[i].c)) (hv : ∀ v ∈ vs, VIn w v) (hl : vs.length <= 1000) {r : Bool} (hr : vs.any (fun v => lngV v.es) = r) :
  Calls Tryz.prog 9 #[.slice (some ⟨g, 0, none⟩) vs.length cap] w fun e w' => e = .returned (.bool r) /\ Below w.heap.size w w' := by
 have HG := Hd hg
 have HC := Hd hc
 have HV := Hd hv
 have HR := Hd hr
 clear hg hc hv hr
 go_enter Tryz.func9, Tryz.ntmps9
 go_wp2
 go_loopw [3] (fun i wr => ∃ k : Nat, i = .int .i64 k /\ k <= vs.length /\ (∀ j (hj : j < vs.length), j < k -> lngV vs[j].es = false) /\ Below w.heap.size w wr) (fun i _ => vs.length - (intOf i).toNat)
 case atStart => exact ⟨0, rfl, Nat.zero_le _, (fun j _ hj => by omega), Below.refl _ _⟩
 case round =>
  obtain ⟨k, rfl, hk, ht, hb⟩ := hrel
  have HT := Hd ht
  have HB := Hd hb
  clear ht hb
  by_cases hlt : k < vs.length
  .have hki : (0 : Int) <= (k : Int) := by omega
   have hki' : (k : Int) < (vs.length : Int) := by omega
   have hcell := (HB.out.cell (p := ⟨g, k, none⟩) HG.out).trans (HC.out k hlt)
   have hvk := (HV.out _ (List.getElem_mem hlt)).to HB.out
   have HN : Hid (∀ b, lngV vs[k].es = b -> lngV vs[k].es = b) := fun _ h => h
   obtain ⟨v, hve⟩ : ∃ v, vs[k] = v := ⟨_, rfl⟩
   have HVE := Hd hve
   rw [hve] at hcell hvk
   have hsz := Nat.le_trans hvk.cap hvk.c63
   have HVK := Hd hvk
   have HLT := Hd hlt
   clear hvk HN hve
   by_cases h20 : 20 < v.es.length
   .have hd : decide ((20 : Int) < (v.es.length : Int)) = true := decide_eq_true (by omega)
    have hany : Hid (vs.any (fun v => lngV v.es) = true) := by
     show _ = _
     rw [List.any_eq_true]
     exact ⟨vs[k]'HLT.out, List.getElem_mem _, by rw [HVE.out]; unfold lngV; rw [decide_eq_true h20]; rfl⟩
    clear h20
    go_wp2
    go_ret
    exact ⟨by rw [<- HR.out, hany.out]; rfl, HB.out⟩
   .have hd : decide ((20 : Int) < (v.es.length : Int)) = false := decide_eq_false (by omega)
    have hd2 : ¬ (20 : Int) < (v.es.length : Int) := by omega
    have H20 := Hd h20
    obtain ⟨r1, hr1⟩ : ∃ r1, v.es.any lngE = r1 := ⟨_, rfl⟩
    have HR1 := Hd hr1
    clear h20 hr1
    go_wp2_with fail
    refine (flong_v HVK.out (by have := H20.out; omega) HR1.out).mono ?_
    rintro e V ⟨rfl, bb⟩
    have HB2 := hx HB bb
    clear bb
    cases r1 with
    | true =>
     have hany : Hid (vs.any (fun v => lngV v.es) = true) := by
      show _ = _
      rw [List.any_eq_true]
      exact ⟨vs[k]'HLT.out, List.getElem_mem _, by rw [HVE.out]; unfold lngV; rw [HR1.out, Bool.or_true]⟩
     go_wp2
     go_ret
     exact ⟨by rw [<- HR.out, hany.out]; rfl, HB2.out⟩
    | false =>
     go_wp2
     go_roundw
     case rel =>
      refine ⟨k + 1, by simp, HLT.out, fun j hj hjk => ?_, HB2.out⟩
      by_cases hjk' : j = k
      .subst hjk'
       rw [HVE.out]
       unfold lngV
       rw [HR1.out, decide_eq_false H20.out]
       rfl
      .exact HT.out j hj (by omega)
     case measure => have := HLT.out; simp [intOf]; omega
  .obtain rfl : k = vs.length := by omega
   go_wp2
   go_ret
   refine ⟨?_, HB.out⟩
   rw [<- HR.out, show vs.any (fun v => lngV v.es) = false from by
    rw [List.any_eq_false]
    intro x hx
    obtain ⟨j, hj, rfl⟩ := List.mem_iff_getElem.1 hx
    simpa using HT.out j hj hj]
   rfl
theorem VIn.vi {w : World} {v : VA} (h : VIn w v) (hl : lngV v.es = false) : ∃ rs, Vi w v.A v.c v.es rs 6 /\ rs.length <= 20 := by
 obtain ⟨A, c, es⟩ := v
 obtain ⟨hrow, hel, hcap, hc63⟩ := h
 dsimp only at hrow hel hcap hc63 hl ⊢
 unfold lngV at hl
 simp only [Bool.or_eq_false_iff, decide_eq_false_iff_not, List.any_eq_false] at hl
 have key : ∀ e ∈ es, ∃ r : Rat, Qi w e.a e.b e.c e.d r 6 := fun e he => by
  have h1 := hl.2 e he
  obtain ⟨⟨n, A1, d1, xs, f1, f2, r1, g1, l1, m1⟩, ⟨m, A2, d2, ys, f3, f4, r2, g2, l2, m2⟩⟩ := hel e he
  unfold lngE at h1
  simp only [f2, f4, vlen, Bool.or_eq_true, decide_eq_true_eq, not_or] at h1
  refine ⟨_, _, _, ⟨n, A1, d1, xs, f1, f2, ⟨r1, g1, l1, m1, by omega⟩, by omega, rfl⟩, ⟨m, A2, d2, ys, f3, f4, ⟨r2, g2, l2, m2, by omega⟩, by omega, rfl⟩, rfl, Sm.zof g1 (by omega), Sm.zof g2 (by omega)⟩
 obtain ⟨rs, h1, h2⟩ : ∃ rs : List Rat, es.length = rs.length /\ ∀ i, Qi w (es.getD i E4.z).a (es.getD i E4.z).b (es.getD i E4.z).c (es.getD i E4.z).d (rs.getD i 0) 6 := by
  clear hrow hcap hl hel
  induction es with
  | nil => exact ⟨[], rfl, fun i => by simpa [E4.z] using Qi.zero w⟩
  | cons e r ih =>
   obtain ⟨q, hq⟩ := key e (by simp)
   obtain ⟨rs, h1, h2⟩ := ih (fun e he => key e (by simp [he]))
   refine ⟨q :: rs, by simp [h1], fun i => ?_⟩
   cases i with
   | zero => simpa using hq
   | succ i => simpa using h2 i
 exact ⟨rs, ⟨hrow, h1, h2, fun e he => (hel e he).fq, hcap, hc63⟩, by rw [<- h1]; omega⟩
def scaleQ (t : Rat) (rs : List Rat) : List Rat := ptw (fun r s => t * r + s) rs []
structure Vm (k : Nat) (rs : List Rat) : Prop where
 qm : ∀ i, Qm k (rs.getD i 0)
 len : rs.length <= 20
theorem Vm.l {k : Nat} {rs : List Rat} (h : Vm k rs) : rs.length <= 4398046511104 := Nat.le_trans h.len (by decide)
theorem Vm.nil : Vm 1 [] := ⟨fun i => ⟨Nat.pow_pos (by decide), Sm.one (by decide)⟩, by decide⟩
theorem Vm.add {k l : Nat} {rs ss : List Rat} (h : Vm k rs) (h' : Vm l ss) : Vm (k + l + 1) (ptw (fun r s => r + s) rs ss) :=
 ⟨fun i => by rw [ptw_getD (by decide +kernel)]; exact (h.qm i).add (h'.qm i), by have := h.len; have := h'.len; rw [ptw_length]; omega⟩
theorem Vm.sub {k l : Nat} {rs ss : List Rat} (h : Vm k rs) (h' : Vm l ss) : Vm (k + l + 1) (ptw (fun r s => r - s) rs ss) :=
 ⟨fun i => by rw [ptw_getD (by decide +kernel)]; exact (h.qm i).sub (h'.qm i), by have := h.len; have := h'.len; rw [ptw_length]; omega⟩
theorem Vi.qm {W : World} {A : Option Addr} {c : Nat} {es : List E4} {rs : List Rat} {k : Nat} (h : Vi W A c es rs k) (hk : 0 < k) (i : Nat) : Qm k (rs.getD i 0) := (h.el i).qm hk
theorem rat_in {w : World} {b o n c k : Nat} {n1 n2 : Bool} {A1 A2 : Option Addr} {j1 m1 j2 m2 : Nat} (hk : k < n) (hn : n <= 9223372036854775807) (hb : b < w.heap.size)
  (h0 : w.cell? ⟨b, o + k * 4, none⟩ = some (.bool n1)) (h1 : w.cell? ⟨b, o + k * 4 + 1, none⟩ = some (.slice A1 j1 m1)) (h2 : w.cell? ⟨b, o + k * 4 + 2, none⟩ = some (.bool n2)) (h3 : w.cell? ⟨b, o + k * 4 + 3, none⟩ = some (.slice A2 j2 m2)) :
  Calls Tryz.prog 56 #[.slice (some ⟨b, o, none⟩) n c, .int .i64 k] w fun e w' => e = .returned (.agg #[.bool n1, .slice A1 j1 m1, .bool n2, .slice A2 j2 m2]) /\ Below w.heap.size w w' := by
 have hbw : Below w.heap.size w (w.alloc (.cells #[.bool false, .slice none 0 0, .bool false, .slice none 0 0] 26)) := (Below.refl _ _).alloc (Nat.le_refl _) _
 have f0 := (hbw.cell (p := ⟨b, o + k * 4, none⟩) hb).trans h0
 have f1 := (hbw.cell (p := ⟨b, o + k * 4 + 1, none⟩) hb).trans h1
 have f2 := (hbw.cell (p := ⟨b, o + k * 4 + 2, none⟩) hb).trans h2
 have f3 := (hbw.cell (p := ⟨b, o + k * 4 + 3, none⟩) hb).trans h3
 have hk0 : (k : Int) < (n : Int) := by omega
 have hk1 : (0 : Int) <= (k : Int) := by omega
 clear hbw h0 h1 h2 h3 hb
 go_enter Tryz.func56, Tryz.ntmps56
 go_wp2
 refine bodyPost_ret (v := .agg #[.bool n1, .slice A1 j1 m1, .bool n2, .slice A2 j2 m2]) (by simp [results, Tryz.f56, go_sem]) rfl ?_
 exact ⟨rfl, (Below.refl _ _).alloc (Nat.le_refl _) _⟩
theorem rat_out {w : World} {A : Option Addr} {n c k : Nat} (hk : ¬ k < n) :
  Calls Tryz.prog 56 #[.slice A n c, .int .i64 k] w fun e w' => e = .returned (.agg #[.bool false, .slice none 0 0, .bool false, .slice none 0 0]) /\ Below w.heap.size w w' := by
 have hk0 : ¬ (k : Int) < (n : Int) := by omega
 have hk1 : (0 : Int) <= (k : Int) := by omega
 clear hk
 go_enter Tryz.func56, Tryz.ntmps56
 go_wp2
 refine bodyPost_ret (v := .agg #[.bool false, .slice none 0 0, .bool false, .slice none 0 0]) (by simp [results, Tryz.f56, go_sem]) rfl ?_
 exact ⟨rfl, (Below.refl _ _).alloc (Nat.le_refl _) _⟩
theorem rat_v {w : World} {B : Nat} {A : Option Addr} {c k : Nat} {es : List E4} (h : Rq w B A es) (hq : ∀ e ∈ es, e.fq) (hl : es.length <= 9223372036854775807) :
  Calls Tryz.prog 56 #[.slice A es.length c, .int .i64 k] w fun e w' => e = .returned (.agg #[(es.getD k E4.z).a, (es.getD k E4.z).b, (es.getD k E4.z).c, (es.getD k E4.z).d]) /\ Below w.heap.size w w' := by
 by_cases hk : k < es.length
 .obtain ⟨b, o, rfl, hb, h0, h1, h2, h3⟩ := h k hk
  rw [getD_at' hk]
  have hf := hq _ (List.getElem_mem hk)
  generalize es[k] = e at h0 h1 h2 h3 hf
  obtain ⟨e1, e2, e3, e4⟩ := e
  obtain ⟨⟨n1, A1, k1, c1, g1, g2⟩, ⟨n2, A2, k2, c2, g3, g4⟩⟩ := hf
  dsimp only at g1 g2 g3 g4 h0 h1 h2 h3
  subst g1 g2 g3 g4
  exact rat_in hk hl (World.block_lt_of_cell? w _ h0) h0 h1 h2 h3
 .rw [getD_out hk]
  exact rat_out hk
theorem rlex_f {f : Nat -> Int} {w : World} {A A' : Option Addr} {c c' L M : Nat} {es fs : List E4} {rs ss : List Rat} {k l : Nat} (hA : Vi w A c es rs k) (hB : Vi w A' c' fs ss l) (hk : 0 < k) (hl : 0 < l) (hkl : k + l + 1 <= 10000) (hL : es.length = L) (hM : fs.length = M) (h1 : L <= 4398046511104) (h2 : M <= 4398046511104) (hf : ∀ i, cmpQ (rs.getD i 0) (ss.getD i 0) = f i) :
  Calls Tryz.prog 28 #[.slice A L c, .slice A' M c'] w fun e w' => e = .returned (.int .i64 (lexF f 0 (max L M))) /\ Below w.heap.size w w' := by
 have HA := Hd hA
 have HB := Hd hB
 have HL := Hd hL
 have HM := Hd hM
 have HC := Hd (fun (V : World) (i : Nat) (hV : Below w.heap.size w V) => rcmp_q ((hA.el i).to hV) ((hB.el i).to hV) hk hl hkl (hf i))
 have HX := Hd (fun (V : World) (i : Nat) (hV : Below w.heap.size w V) => rat_v (c := c) (k := i) (hA.row.grow hV) hA.fq (by omega))
 have HY := Hd (fun (V : World) (i : Nat) (hV : Below w.heap.size w V) => rat_v (c := c') (k := i) (hB.row.grow hV) hB.fq (by omega))
 rw [hL] at HX
 rw [hM] at HY
 clear hA hB hL hM hf hkl
 go_enter Tryz.func28, Tryz.ntmps28
 go_wp2
 go_loopw [5] (fun i wr => ∃ k : Nat, i = .int .i64 k /\ k <= max L M /\ (∀ j, j < k -> f j = 0) /\ Below w.heap.size w wr) (fun i _ => max L M - (intOf i).toNat)
 case atStart => exact ⟨0, rfl, Nat.zero_le _, (fun j hj => by omega), Below.refl _ _⟩
 case round =>
  obtain ⟨k, rfl, hk', ht, hb⟩ := hrel
  have HT := Hd ht
  have HBB := Hd hb
  clear ht hb
  have hki : (0 : Int) <= (k : Int) := by omega
  have hk63 : (k : Int) + 1 <= 9223372036854775807 := by omega
  by_cases hx : k < L
  .have hx1 : (k : Int) < (L : Int) := by omega
   go_wp2_with fail
   refine (HX.out wr k HBB.out).mono ?_
   rintro e V1 ⟨rfl, b1⟩
   have B1 := Hd (HBB.out.trans (b1.mono HBB.out.size))
   clear b1
   go_wp2_with fail
   refine (HY.out V1 k B1.out).mono ?_
   rintro e V2 ⟨rfl, b2⟩
   have B2 := Hd (B1.out.trans (b2.mono B1.out.size))
   clear b2 B1
   obtain ⟨v, hv⟩ : ∃ v, f k = v := ⟨_, rfl⟩
   have HC2 := Hd (HC.out V2 k B2.out)
   rw [hv] at HC2
   have HV := Hd hv
   have HLT : Hid (k < max L M) := by show _ < _; omega
   clear hv
   go_wp2_with fail
   refine HC2.out.mono ?_
   rintro e V3 ⟨rfl, b3⟩
   have B3 := Hd (B2.out.trans (b3.mono B2.out.size))
   clear b3 B2 HC2
   by_cases h0 : v = 0
   .have ht : (v != 0) = false := by rw [h0]; rfl
    have H0 := Hd h0
    clear h0
    go_wp2
    go_roundw
    case rel =>
     refine ⟨k + 1, by simp, HLT.out, fun j hj => ?_, B3.out⟩
     by_cases hjk : j = k
     .subst hjk; rw [HV.out]; exact H0.out
     .exact HT.out j (by omega)
    case measure => have := HLT.out; simp [intOf]; omega
   .have ht : (v != 0) = true := by rw [bne_iff_ne]; exact h0
    have H0 := Hd h0
    clear h0
    go_wp2
    go_ret
    refine ⟨?_, B3.out⟩
    rw [lexF_stop f (max L M) 0 k (fun j _ hj => HT.out j hj) (Nat.zero_le _) (by have := HLT.out; omega) (by rw [HV.out]; exact H0.out), HV.out]
    rfl
  .have hx1 : ¬ (k : Int) < (L : Int) := by omega
   by_cases hy : k < M
   .have hy1 : (k : Int) < (M : Int) := by omega
    go_wp2_with fail
    refine (HX.out wr k HBB.out).mono ?_
    rintro e V1 ⟨rfl, b1⟩
    have B1 := Hd (HBB.out.trans (b1.mono HBB.out.size))
    clear b1
    go_wp2_with fail
    refine (HY.out V1 k B1.out).mono ?_
    rintro e V2 ⟨rfl, b2⟩
    have B2 := Hd (B1.out.trans (b2.mono B1.out.size))
    clear b2 B1
    obtain ⟨v, hv⟩ : ∃ v, f k = v := ⟨_, rfl⟩
    have HC2 := Hd (HC.out V2 k B2.out)
    rw [hv] at HC2
    have HV := Hd hv
    have HLT : Hid (k < max L M) := by show _ < _; omega
    clear hv
    go_wp2_with fail
    refine HC2.out.mono ?_
    rintro e V3 ⟨rfl, b3⟩
    have B3 := Hd (B2.out.trans (b3.mono B2.out.size))
    clear b3 B2 HC2
    by_cases h0 : v = 0
    .have ht : (v != 0) = false := by rw [h0]; rfl
     have H0 := Hd h0
     clear h0
     go_wp2
     go_roundw
     case rel =>
      refine ⟨k + 1, by simp, HLT.out, fun j hj => ?_, B3.out⟩
      by_cases hjk : j = k
      .subst hjk; rw [HV.out]; exact H0.out
      .exact HT.out j (by omega)
     case measure => have := HLT.out; simp [intOf]; omega
    .have ht : (v != 0) = true := by rw [bne_iff_ne]; exact h0
     have H0 := Hd h0
     clear h0
     go_wp2
     go_ret
     refine ⟨?_, B3.out⟩
     rw [lexF_stop f (max L M) 0 k (fun j _ hj => HT.out j hj) (Nat.zero_le _) (by have := HLT.out; omega) (by rw [HV.out]; exact H0.out), HV.out]
     rfl
   .have hy1 : ¬ (k : Int) < (M : Int) := by omega
    go_wp2
    go_ret
    refine ⟨?_, HBB.out⟩
    rw [lexF_zero f (max L M) 0 fun j _ hj => by have := HT.out j (by omega); omega]
    rfl
theorem rabove_f {f : Nat -> Int} {w : World} {A A' : Option Addr} {c c' L M : Nat} {es fs : List E4} {rs ss : List Rat} {k l : Nat} (hA : Vi w A c es rs k) (hB : Vi w A' c' fs ss l) (hk : 0 < k) (hl : 0 < l) (hkl : k + l + 1 <= 10000) (hL : es.length = L) (hM : fs.length = M) (h1 : L <= 4398046511104) (h2 : M <= 4398046511104) (hf : ∀ i, cmpQ (rs.getD i 0) (ss.getD i 0) = f i) :
  Calls Tryz.prog 26 #[.slice A L c, .slice A' M c'] w fun e w' => e = .returned (.tuple #[.int .i64 (((posF f 0 (max L M)).getD 0 : Nat) : Int), .bool (posF f 0 (max L M)).isSome]) /\ Below w.heap.size w w' := by
 have HA := Hd hA
 have HB := Hd hB
 have HL := Hd hL
 have HM := Hd hM
 have HC := Hd (fun (V : World) (i : Nat) (hV : Below w.heap.size w V) => rcmp_q ((hA.el i).to hV) ((hB.el i).to hV) hk hl hkl (hf i))
 have HX := Hd (fun (V : World) (i : Nat) (hV : Below w.heap.size w V) => rat_v (c := c) (k := i) (hA.row.grow hV) hA.fq (by omega))
 have HY := Hd (fun (V : World) (i : Nat) (hV : Below w.heap.size w V) => rat_v (c := c') (k := i) (hB.row.grow hV) hB.fq (by omega))
 rw [hL] at HX
 rw [hM] at HY
 clear hA hB hL hM hf hkl
 go_enter Tryz.func26, Tryz.ntmps26
 go_wp2
 go_loopw [6] (fun i wr => ∃ k : Nat, i = .int .i64 k /\ k <= max L M /\ (∀ j, j < k -> ¬ 0 < f j) /\ Below w.heap.size w wr) (fun i _ => max L M - (intOf i).toNat)
 case atStart => exact ⟨0, rfl, Nat.zero_le _, (fun j hj => by omega), Below.refl _ _⟩
 case round =>
  obtain ⟨k, rfl, hk', ht, hb⟩ := hrel
  have HT := Hd ht
  have HBB := Hd hb
  clear ht hb
  have hki : (0 : Int) <= (k : Int) := by omega
  have hk63 : (k : Int) + 1 <= 9223372036854775807 := by omega
  by_cases hx : k < L
  .have hx1 : (k : Int) < (L : Int) := by omega
   go_wp2_with fail
   refine (HX.out wr k HBB.out).mono ?_
   rintro e V1 ⟨rfl, b1⟩
   have B1 := Hd (HBB.out.trans (b1.mono HBB.out.size))
   clear b1
   go_wp2_with fail
   refine (HY.out V1 k B1.out).mono ?_
   rintro e V2 ⟨rfl, b2⟩
   have B2 := Hd (B1.out.trans (b2.mono B1.out.size))
   clear b2 B1
   obtain ⟨v, hv⟩ : ∃ v, f k = v := ⟨_, rfl⟩
   have HC2 := Hd (HC.out V2 k B2.out)
   rw [hv] at HC2
   have HV := Hd hv
   have HLT : Hid (k < max L M) := by show _ < _; omega
   clear hv
   go_wp2_with fail
   refine HC2.out.mono ?_
   rintro e V3 ⟨rfl, b3⟩
   have B3 := Hd (B2.out.trans (b3.mono B2.out.size))
   clear b3 B2 HC2
   by_cases h0 : 0 < v
   .have H0 := Hd h0
    have hd : decide (0 < v) = true := decide_eq_true h0
    clear h0
    go_wp2
    refine bodyPost_ret (v := .tuple #[.int .i64 (k : Int), .bool true]) (by simp [results, Tryz.f26, go_sem]) rfl ?_
    refine ⟨?_, B3.out⟩
    rw [posF_some f (max L M) 0 k (fun j _ hj => by have := HT.out j hj; omega) (Nat.zero_le _) (by have := HLT.out; omega) (by rw [HV.out]; exact H0.out)]
    rfl
   .have H0 := Hd h0
    have hd : decide (0 < v) = false := decide_eq_false h0
    clear h0
    go_wp2
    go_roundw
    case rel =>
     refine ⟨k + 1, by simp, HLT.out, fun j hj => ?_, B3.out⟩
     by_cases hjk : j = k
     .subst hjk; have h1 := HV.out; have h2 := H0.out; omega
     .have h1 := HT.out j (by omega); omega
    case measure => have := HLT.out; simp [intOf]; omega
  .have hx1 : ¬ (k : Int) < (L : Int) := by omega
   by_cases hy : k < M
   .have hy1 : (k : Int) < (M : Int) := by omega
    go_wp2_with fail
    refine (HX.out wr k HBB.out).mono ?_
    rintro e V1 ⟨rfl, b1⟩
    have B1 := Hd (HBB.out.trans (b1.mono HBB.out.size))
    clear b1
    go_wp2_with fail
    refine (HY.out V1 k B1.out).mono ?_
    rintro e V2 ⟨rfl, b2⟩
    have B2 := Hd (B1.out.trans (b2.mono B1.out.size))
    clear b2 B1
    obtain ⟨v, hv⟩ : ∃ v, f k = v := ⟨_, rfl⟩
    have HC2 := Hd (HC.out V2 k B2.out)
    rw [hv] at HC2
    have HV := Hd hv
    have HLT : Hid (k < max L M) := by show _ < _; omega
    clear hv
    go_wp2_with fail
    refine HC2.out.mono ?_
    rintro e V3 ⟨rfl, b3⟩
    have B3 := Hd (B2.out.trans (b3.mono B2.out.size))
    clear b3 B2 HC2
    by_cases h0 : 0 < v
    .have H0 := Hd h0
     have hd : decide (0 < v) = true := decide_eq_true h0
     clear h0
     go_wp2
     refine bodyPost_ret (v := .tuple #[.int .i64 (k : Int), .bool true]) (by simp [results, Tryz.f26, go_sem]) rfl ?_
     refine ⟨?_, B3.out⟩
     rw [posF_some f (max L M) 0 k (fun j _ hj => by have := HT.out j hj; omega) (Nat.zero_le _) (by have := HLT.out; omega) (by rw [HV.out]; exact H0.out)]
     rfl
    .have H0 := Hd h0
     have hd : decide (0 < v) = false := decide_eq_false h0
     clear h0
     go_wp2
     go_roundw
     case rel =>
      refine ⟨k + 1, by simp, HLT.out, fun j hj => ?_, B3.out⟩
      by_cases hjk : j = k
      .subst hjk; have h1 := HV.out; have h2 := H0.out; omega
      .have h1 := HT.out j (by omega); omega
     case measure => have := HLT.out; simp [intOf]; omega
   .have hy1 : ¬ (k : Int) < (M : Int) := by omega
    go_wp2
    refine bodyPost_ret (v := .tuple #[.int .i64 0, .bool false]) (by simp [results, Tryz.f26, go_sem]) rfl ?_
    refine ⟨?_, HBB.out⟩
    rw [posF_none f (max L M) 0 fun j _ hj => by have := HT.out j (by omega); omega]
    rfl
theorem rlex_v {w : World} {A A' : Option Addr} {c c' : Nat} {es fs : List E4} {rs ss : List Rat} {k l : Nat} (hA : Vi w A c es rs k) (hB : Vi w A' c' fs ss l) (hk : 0 < k) (hl : 0 < l) (hkl : k + l + 1 <= 10000) (h1 : rs.length <= 4398046511104) (h2 : ss.length <= 4398046511104) {v : Int} (hv : lexQ rs ss = v) :
  Calls Tryz.prog 28 #[.slice A rs.length c, .slice A' ss.length c'] w fun e w' => e = .returned (.int .i64 v) /\ Below w.heap.size w w' := by
 subst hv
 exact rlex_f hA hB hk hl hkl hA.len hB.len h1 h2 (fun i => rfl)
theorem rabove_v {w : World} {A A' : Option Addr} {c c' : Nat} {es fs : List E4} {rs ss : List Rat} {k l : Nat} (hA : Vi w A c es rs k) (hB : Vi w A' c' fs ss l) (hk : 0 < k) (hl : 0 < l) (hkl : k + l + 1 <= 10000) (h1 : rs.length <= 4398046511104) (h2 : ss.length <= 4398046511104) {o : Option Nat} (ho : aboveQ rs ss = o) :
  Calls Tryz.prog 26 #[.slice A rs.length c, .slice A' ss.length c'] w fun e w' => e = .returned (.tuple #[.int .i64 ((o.getD 0 : Nat) : Int), .bool o.isSome]) /\ Below w.heap.size w w' := by
 subst ho
 exact rabove_f hA hB hk hl hkl hA.len hB.len h1 h2 (fun i => rfl)
theorem vcm_long {A1 A2 : Option Addr} {c1 c2 : Nat} {es1 es2 : List E4} {w : World} (v1 : VIn w ⟨A1, c1, es1⟩) (v2 : VIn w ⟨A2, c2, es2⟩) (hlng : ([⟨A1, c1, es1⟩, ⟨A2, c2, es2⟩] : List VA).any (fun v => lngV v.es) = true) :
  Calls Tryz.prog 4 #[.slice A1 es1.length c1, .slice A2 es2.length c2] w fun e w' => e = .returned (.bool true) /\ Below w.heap.size w w' := by
 obtain ⟨W0, hW0⟩ : ∃ W0, W0 = w.alloc (.cells #[.slice A1 es1.length c1, .slice A2 es2.length c2] 27) := ⟨_, rfl⟩
 have hbw : Below w.heap.size w W0 := by rw [hW0]; exact (Below.refl _ _).alloc (Nat.le_refl _) _
 have hp : Hp W0 w.heap.size (.cells #[.slice A1 es1.length c1, .slice A2 es2.length c2] 27 (0, 0)) := by rw [hW0]; exact Hp.new _ _ _
 have HL := Hd (vlong_any w.heap.size [⟨A1, c1, es1⟩, ⟨A2, c2, es2⟩] 2 W0 hp.lt (fun i hi => by
  match i, hi with
  | 0, _ => exact (hp.cellAt _).trans rfl
  | 1, _ => exact (hp.cellAt _).trans rfl) (fun v hv => by
  simp only [List.mem_cons, List.not_mem_nil, or_false] at hv
  rcases hv with rfl | rfl
  .exact v1.to hbw
  .exact v2.to hbw) (by simp) (r := true) (by simpa using hlng))
 have HW0 := Hd hW0
 have HB := Hd hbw
 clear hW0 hbw hp hlng v1 v2
 go_enter Tryz.func4, Tryz.ntmps4
 go_wp2_with fail
 rw [<- HW0.out]
 refine HL.out.mono ?_
 rintro e W1 ⟨rfl, bb⟩
 replace HB := hx HB bb
 clear bb
 go_wp2_with fail
 refine (valive_any _).mono ?_
 rintro e W4 ⟨rfl, bb⟩
 replace HB := hx HB bb
 clear bb
 go_wp2
 go_ret
 exact ⟨rfl, HB.out⟩
theorem vcm_core {A1 A2 : Option Addr} {c1 c2 : Nat} {es1 es2 : List E4} {a b : List Rat} {w : World} (v1 : VIn w ⟨A1, c1, es1⟩) (v2 : VIn w ⟨A2, c2, es2⟩) (hlng : ([⟨A1, c1, es1⟩, ⟨A2, c2, es2⟩] : List VA).any (fun v => lngV v.es) = false) (w1 : Vi w A1 c1 es1 a 6) (w2 : Vi w A2 c2 es2 b 6) (l1 : a.length <= 20) (l2 : b.length <= 20) :
  Calls Tryz.prog 4 #[.slice A1 es1.length c1, .slice A2 es2.length c2] w fun e w' => e = .returned (.bool true) /\ Below w.heap.size w w' := by
 have e1 := Hd w1.len
 have e2 := Hd w2.len
 have L1 : Hid (a.length <= 4398046511104) := Nat.le_trans l1 (by decide)
 have L2 : Hid (b.length <= 4398046511104) := Nat.le_trans l2 (by decide)
 obtain ⟨x, ex⟩ : ∃ x, lexQ a b = x := ⟨_, rfl⟩
 obtain ⟨y, ey⟩ : ∃ y, lexQ a [] = y := ⟨_, rfl⟩
 obtain ⟨o, eo⟩ : ∃ o, aboveQ a b = o := ⟨_, rfl⟩
 obtain ⟨E, eE⟩ : ∃ E, decide (lexQ a b = 0) = E := ⟨_, rfl⟩
 have S2 : (x == 0) = E := by rw [<- eE, <- ex]; rfl
 have EX := Hd ex
 have EY := Hd ey
 have EO := Hd eo
 have EE := Hd eE
 obtain ⟨m, em⟩ : ∃ m : Int, ((o.getD 0 : Nat) : Int) = m := ⟨_, rfl⟩
 obtain ⟨t, et⟩ : ∃ t, o.isSome = t := ⟨_, rfl⟩
 have EM := Hd em
 have ET := Hd et
 obtain ⟨W0, hW0⟩ : ∃ W0, W0 = w.alloc (.cells #[.slice A1 es1.length c1, .slice A2 es2.length c2] 27) := ⟨_, rfl⟩
 have hbw : Below w.heap.size w W0 := by rw [hW0]; exact (Below.refl _ _).alloc (Nat.le_refl _) _
 have hp : Hp W0 w.heap.size (.cells #[.slice A1 es1.length c1, .slice A2 es2.length c2] 27 (0, 0)) := by rw [hW0]; exact Hp.new _ _ _
 have HL := Hd (vlong_any w.heap.size [⟨A1, c1, es1⟩, ⟨A2, c2, es2⟩] 2 W0 hp.lt (fun i hi => by
  match i, hi with
  | 0, _ => exact (hp.cellAt _).trans rfl
  | 1, _ => exact (hp.cellAt _).trans rfl) (fun v hv => by
  simp only [List.mem_cons, List.not_mem_nil, or_false] at hv
  rcases hv with rfl | rfl
  .exact v1.to hbw
  .exact v2.to hbw) (by simp) (r := false) (by simpa using hlng))
 have HW0 := Hd hW0
 have HB := Hd hbw
 have vA := w1.to hbw
 have vB := w2.to hbw
 clear hW0 hbw hp hlng v1 v2 w1 w2 l1 l2 ex ey eo eE em et
 go_enter Tryz.func4, Tryz.ntmps4
 go_wp2_with fail
 rw [<- HW0.out]
 refine HL.out.mono ?_
 rintro e W1 ⟨rfl, bb⟩
 replace vA := vA.to bb
 replace vB := vB.to bb
 replace HB := hx HB bb
 clear bb
 clear HL HW0
 rw [e1.out, e2.out]
 clear e1 e2
 go_wp2_with fail
 have hc := vfirst_v vA vB (by decide) (by decide) (by decide) L1.out L2.out EO.out
 rw [EM.out, ET.out] at hc
 refine hc.mono ?_
 rintro e V1 ⟨rfl, bb⟩
 replace vA := vA.to bb
 replace vB := vB.to bb
 replace HB := hx HB bb
 clear bb
 clear hc
 go_wp2_with fail
 have hc := rabove_v vA vB (by decide) (by decide) (by decide) L1.out L2.out EO.out
 rw [EM.out, ET.out] at hc
 refine hc.mono ?_
 rintro e V2 ⟨rfl, bb⟩
 replace vA := vA.to bb
 replace vB := vB.to bb
 replace HB := hx HB bb
 clear bb
 clear hc
 go_wp2_with fail
 refine (vcompare_v vA vB (by decide) (by decide) (by decide) L1.out L2.out EX.out).mono ?_
 rintro e V3 ⟨rfl, bb⟩
 replace vA := vA.to bb
 replace vB := vB.to bb
 replace HB := hx HB bb
 clear bb
 go_wp2_with fail
 refine (rlex_v vA vB (by decide) (by decide) (by decide) L1.out L2.out EX.out).mono ?_
 rintro e V4 ⟨rfl, bb⟩
 replace vA := vA.to bb
 replace vB := vB.to bb
 replace HB := hx HB bb
 clear bb
 go_wp2_with fail
 refine (vsign_v vA (by decide) (by decide) L1.out EY.out).mono ?_
 rintro e V5 ⟨rfl, bb⟩
 replace vA := vA.to bb
 replace vB := vB.to bb
 replace HB := hx HB bb
 clear bb
 go_wp2_with fail
 refine (rlex_v (A' := none) (c' := 0) vA (Vi.nil _ (k := 1) (by decide)) (by decide) (by decide) (by decide) L1.out (by decide) EY.out).mono ?_
 rintro e V6 ⟨rfl, bb⟩
 replace vA := vA.to bb
 replace vB := vB.to bb
 replace HB := hx HB bb
 clear bb
 go_wp2_with fail
 refine (vequal_v vA vB (by decide) (by decide) (by decide) L1.out L2.out EE.out).mono ?_
 rintro e V7 ⟨rfl, bb⟩
 replace vA := vA.to bb
 replace vB := vB.to bb
 replace HB := hx HB bb
 clear bb
 go_wp2_with fail
 refine (rlex_v vA vB (by decide) (by decide) (by decide) L1.out L2.out EX.out).mono ?_
 rintro e V8 ⟨rfl, bb⟩
 replace vA := vA.to bb
 replace vB := vB.to bb
 replace HB := hx HB bb
 clear bb
 go_wp2_with fail
 refine (valive_any _).mono ?_
 rintro e V9 ⟨rfl, bb⟩
 replace vA := vA.to bb
 replace vB := vB.to bb
 replace HB := hx HB bb
 clear bb
 go_wp2
 go_ret
 exact ⟨rfl, HB.out⟩
theorem vcm_any {A1 A2 : Option Addr} {c1 c2 : Nat} {es1 es2 : List E4} {w : World} (v1 : VIn w ⟨A1, c1, es1⟩) (v2 : VIn w ⟨A2, c2, es2⟩) :
  Calls Tryz.prog 4 #[.slice A1 es1.length c1, .slice A2 es2.length c2] w fun e w' => e = .returned (.bool true) /\ Below w.heap.size w w' := by
 cases hl : ([⟨A1, c1, es1⟩, ⟨A2, c2, es2⟩] : List VA).any (fun v => lngV v.es) with
 | true => exact vcm_long v1 v2 hl
 | false =>
  have hl' := hl
  simp only [List.any_cons, List.any_nil, Bool.or_false, Bool.or_eq_false_iff] at hl'
  obtain ⟨a, w1, l1⟩ := v1.vi hl'.1
  obtain ⟨b, w2, l2⟩ := v2.vi hl'.2
  exact vcm_core v1 v2 hl w1 w2 l1 l2
end Go.Proofs.YtcgdbdhhoomgiaaGreat

namespace Go.Proofs.YtcgdbdhhoomgiaaGreat
open Go.ChangeShapes Go.WideShapes Go.ChangeAt Go.RowKit Go.Joins
instance : Inhabited E4 := ⟨E4.z⟩
theorem spot_none {W : World} {a : Addr} {v : Value} (h : W.cell? a = some v) : a.spot = none := by
 unfold World.cell? at h
 split at h
 .split at h
  .cases h
  .rename_i hs
   simpa using hs
 .cases h
theorem open_v {H : Type} {enc : TypeId × Value -> H} {W : World} {base : Nat} {spare : Nat -> Bool} {held : Bool} {r : Reach} {b0 : Nat} {v : Value} {d : DataW H} {p : List MemPlace}
  (hs : ∀ b, spare b = true) (hv : Value.okWide Tryz.prog W r b0 27 v) (h : DataW.Trod enc Tryz.prog W base spare held 27 v d p) :
  ∃ A c es, v = .slice A es.length c /\ VIn W ⟨A, c, es⟩ := by
 obtain ⟨a, len, cap, rfl⟩ := okWide_slice Tryz.underlying27 hv
 obtain ⟨fuel, hf⟩ := h
 replace hf : DataW.trod enc Tryz.prog W base spare held fuel 27 [.slice a len cap] = some (d, p) := hf
 rcases Go.Deep.open_slice Tryz.underlying27 hf with ⟨e1, _⟩ | ⟨ad, l, cp, m, n, D, Pl, e1, hb, hl, hm, hmm, _, hx⟩
 .simp only [List.cons.injEq, Value.slice.injEq, and_true] at e1
  obtain ⟨rfl, rfl, rfl⟩ := e1
  exact ⟨none, 0, [], rfl, ⟨Rq.nil, fun e he => (by cases he), Nat.le_refl _, by decide⟩⟩
 .simp only [List.cons.injEq, Value.slice.injEq, and_true] at e1
  obtain ⟨rfl, rfl, rfl⟩ := e1
  have hlm : len <= m := by rw [hmm]; split <;> omega
  have each : ∀ i, i < len -> ∃ E : E4, (W.cell? (ad.add (i * 4)) = some E.a /\ W.cell? (ad.add (i * 4 + 1)) = some E.b /\ W.cell? (ad.add (i * 4 + 2)) = some E.c /\ W.cell? (ad.add (i * 4 + 3)) = some E.d) /\ ZxE W E := by
   intro i hi
   obtain ⟨cs', h1, h2⟩ := hx i (by omega)
   rw [cellsQ] at h1
   obtain ⟨_, hlen, hcell⟩ := World.cells?_some h1
   match cs', hlen with
   | [c0, c1, c2, c3], _ =>
    have f0 := hcell 0 (by omega)
    have f1 := hcell 1 (by omega)
    have f2 := hcell 2 (by omega)
    have f3 := hcell 3 (by omega)
    rw [Go.Deep.add_add] at f0 f1 f2 f3
    exact ⟨⟨c0, c1, c2, c3⟩, ⟨by simpa using f0, by simpa using f1, by simpa using f2, by simpa using f3⟩, trod_q hs h2⟩
  obtain ⟨E, hE⟩ := Go.Deep.choose_lt each
  have hlen : ((List.range len).map E).length = len := by simp
  refine ⟨some ad, cap, (List.range len).map E, by rw [hlen], ⟨?_, ?_, by show ((List.range len).map E).length <= cap; rw [hlen]; exact hl, by have := hm; unfold maxLen at this; show cap <= _; omega⟩⟩
  .intro k hk
   have hk' : k < len := by rw [<- hlen]; exact hk
   obtain ⟨⟨c0, c1, c2, c3⟩, _⟩ := hE k hk'
   have hsp := spot_none (hE 0 (by omega)).1.1
   obtain ⟨b, o, sp⟩ := ad
   have h0 : (⟨b, o, sp⟩ : Addr).add (0 * 4) = ⟨b, o, sp⟩ := by simp [Addr.add]
   rw [h0] at hsp
   dsimp only at hsp
   subst hsp
   have hadd : ∀ j, (⟨b, o, none⟩ : Addr).add j = ⟨b, o + j, none⟩ := fun j => by
    unfold Addr.add
    by_cases hj : j = 0
    .simp [hj]
    .simp [hj]
   rw [hadd] at c0 c1 c2 c3
   refine ⟨b, o, rfl, World.block_lt_of_cell? W _ c0, ?_⟩
   have he : ((List.range len).map E)[k] = E k := by simp
   show W.cell? ⟨b, o + k * 4, none⟩ = some (((List.range len).map E)[k]).a /\ W.cell? ⟨b, o + k * 4 + 1, none⟩ = some (((List.range len).map E)[k]).b /\ W.cell? ⟨b, o + k * 4 + 2, none⟩ = some (((List.range len).map E)[k]).c /\ W.cell? ⟨b, o + k * 4 + 3, none⟩ = some (((List.range len).map E)[k]).d
   rw [he]
   exact ⟨c0, by rw [<- Nat.add_assoc] at c1; exact c1, by rw [<- Nat.add_assoc] at c2; exact c2, by rw [<- Nat.add_assoc] at c3; exact c3⟩
  .intro e he
   obtain ⟨i, hi, rfl⟩ := List.mem_map.1 he
   exact (hE i (List.mem_range.1 hi)).2
end Go.Proofs.YtcgdbdhhoomgiaaGreat
