/- Parts: 5. -/
import Derived.Test.YtcgdbdhhoomgiaaGreatVs12
import Derived.Test.YtcgdbdhhoomgiaaGreatVs13
import Derived.Test.YtcgdbdhhoomgiaaGreatVo17
import Derived.Test.YtcgdbdhhoomgiaaGreatVo20
set_option linter.unusedVariables false
set_option linter.unusedSimpArgs false
set_option maxRecDepth 100000
set_option maxHeartbeats 40000000

namespace Go.Proofs.YtcgdbdhhoomgiaaGreat
open Go.RowKit Go.Shelf
def unitQ (n k : Int) : List Rat := (List.range (min n.toNat 65536)).map fun i : Nat => if (i : Int) = k then (1 : Rat) else 0
theorem unitQ_length (n k : Int) : (unitQ n k).length = min n.toNat 65536 := by simp [unitQ]
theorem unitQ_in {n k : Int} {i : Nat} (h : i < min n.toNat 65536) : (unitQ n k).getD i 0 = if (i : Int) = k then (1 : Rat) else 0 := by
 rw [getD_lt (by rw [unitQ_length]; exact h)]
 simp [unitQ]
theorem unit_out {w : World} {n k : Int} (hn : n < 1) (hn2 : n <= 9223372036854775807) :
  Calls Tryz.prog 33 #[.int .i64 n, .int .i64 k] w fun e w' => e = .returned (.slice none 0 0) /\ Below w.heap.size w w' := by
 have HC := Hd (resize_nil (w := w) (A := none) (c := 0) (l := 0) hn)
 by_cases hk : 0 <= k
 .have hk2 : ¬ k < 0 := by omega
  go_enter Tryz.func33, Tryz.ntmps33
  go_wp2_with fail
  refine HC.out.mono ?_
  rintro e V ⟨rfl, bb⟩
  go_wp2
  go_ret
  exact ⟨rfl, bb⟩
 .go_enter Tryz.func33, Tryz.ntmps33
  go_wp2_with fail
  refine HC.out.mono ?_
  rintro e V ⟨rfl, bb⟩
  go_wp2
  go_ret
  exact ⟨rfl, bb⟩
theorem unit_far {w : World} {n k : Int} (hn : 1 <= n) (hn2 : n <= 9223372036854775807) {N : Nat} (hN : min n 65536 = (N : Int)) (hk : ¬ (0 <= k /\ k < (N : Int))) :
  Calls Tryz.prog 33 #[.int .i64 n, .int .i64 k] w fun e w' => ∃ g fl, e = .returned (.slice (some ⟨g, 0, none⟩) N N) /\ w.heap.size <= g /\ Row w' g fl /\ fl.length = N /\ (∀ i, i < N -> Qc w' (fl.getD i E4.z).a (fl.getD i E4.z).b (fl.getD i E4.z).c (fl.getD i E4.z).d (if (i : Int) = k then (1 : Rat) else 0)) /\ Below w.heap.size w w' := by
 have HC := Hd (resize_row (Vi.nil w (k := 1) (c := 0) (A := none) (by decide)) (by decide) (by decide) hn hn2 hN)
 have HK := Hd hk
 clear hN hn hn2
 by_cases h0 : 0 <= k
 .have h1 : ¬ k < (N : Int) := fun h => hk ⟨h0, h⟩
  clear hk
  go_enter Tryz.func33, Tryz.ntmps33
  go_wp2_with fail
  refine HC.out.mono ?_
  rintro e V ⟨g, fl, rfl, hg, hr, hl, hq, bb⟩
  have HE : Hid (w.heap.size <= g /\ Row V g fl /\ fl.length = N /\ (∀ i, i < N -> Qc V (fl.getD i E4.z).a (fl.getD i E4.z).b (fl.getD i E4.z).c (fl.getD i E4.z).d (if (i : Int) = k then (1 : Rat) else 0)) /\ Below w.heap.size w V) :=
   ⟨hg, hr, hl, fun i hi => by rw [if_neg (by omega)]; exact hq i hi, bb⟩
  clear hg hr hl hq bb
  go_wp2
  go_ret
  first | exact ⟨g, fl, rfl, HE.out⟩ | exact ⟨g, rfl, HE.out.1, fl, HE.out.2⟩
 .clear hk
  go_enter Tryz.func33, Tryz.ntmps33
  go_wp2_with fail
  refine HC.out.mono ?_
  rintro e V ⟨g, fl, rfl, hg, hr, hl, hq, bb⟩
  have HE : Hid (w.heap.size <= g /\ Row V g fl /\ fl.length = N /\ (∀ i, i < N -> Qc V (fl.getD i E4.z).a (fl.getD i E4.z).b (fl.getD i E4.z).c (fl.getD i E4.z).d (if (i : Int) = k then (1 : Rat) else 0)) /\ Below w.heap.size w V) :=
   ⟨hg, hr, hl, fun i hi => by rw [if_neg (by omega)]; exact hq i hi, bb⟩
  clear hg hr hl hq bb
  go_wp2
  go_ret
  first | exact ⟨g, fl, rfl, HE.out⟩ | exact ⟨g, rfl, HE.out.1, fl, HE.out.2⟩
theorem unit_at {w : World} {n : Int} {k : Nat} (hn : 1 <= n) (hn2 : n <= 9223372036854775807) {N : Nat} (hN : min n 65536 = (N : Int)) (hk : k < N) :
  Calls Tryz.prog 33 #[.int .i64 n, .int .i64 (k : Int)] w fun e w' => ∃ g fl, e = .returned (.slice (some ⟨g, 0, none⟩) N N) /\ w.heap.size <= g /\ Row w' g fl /\ fl.length = N /\ (∀ i, i < N -> Qc w' (fl.getD i E4.z).a (fl.getD i E4.z).b (fl.getD i E4.z).c (fl.getD i E4.z).d (if (i : Int) = (k : Int) then (1 : Rat) else 0)) /\ Below w.heap.size w w' := by
 have HC := Hd (resize_row (Vi.nil w (k := 1) (c := 0) (A := none) (by decide)) (by decide) (by decide) hn hn2 hN)
 have HK := Hd hk
 have h0 : (0 : Int) <= (k : Int) := by omega
 have h1 : (k : Int) < (N : Int) := by omega
 clear hN hn hn2 hk
 go_enter Tryz.func33, Tryz.ntmps33
 go_wp2_with fail
 refine HC.out.mono ?_
 rintro e V ⟨g, fl, rfl, hg, hr, hl, hq, bb⟩
 have HE := Hd (show w.heap.size <= g /\ Row V g fl /\ fl.length = N /\ (∀ i, i < N -> Qc V (fl.getD i E4.z).a (fl.getD i E4.z).b (fl.getD i E4.z).c (fl.getD i E4.z).d (([] : List Rat).getD i 0)) /\ Below w.heap.size w V from ⟨hg, hr, hl, hq, bb⟩)
 clear hg hr hl hq bb
 go_wp2_with fail
 refine (fromInt_q 1 (by decide) (by decide) V).mono ?_
 rintro e U ⟨x1, x2, x3, x4, rfl, q, bb⟩
 obtain ⟨hg, hr, hl, hq, b0⟩ := HE.out
 have R1 := Hd (hr.to bb)
 have R2 : Hid (k < fl.length) := by show _ < _; have := HK.out; omega
 have QF := Hd (show (⟨x1, x2, x3, x4⟩ : E4).fq from q.fq)
 have HF : Hid (w.heap.size <= g /\ Row (U.setRow g (flat (fl.set k ⟨x1, x2, x3, x4⟩)).toArray) g (fl.set k ⟨x1, x2, x3, x4⟩) /\ (fl.set k ⟨x1, x2, x3, x4⟩).length = N /\ (∀ i, i < N -> Qc (U.setRow g (flat (fl.set k ⟨x1, x2, x3, x4⟩)).toArray) ((fl.set k ⟨x1, x2, x3, x4⟩).getD i E4.z).a ((fl.set k ⟨x1, x2, x3, x4⟩).getD i E4.z).b ((fl.set k ⟨x1, x2, x3, x4⟩).getD i E4.z).c ((fl.set k ⟨x1, x2, x3, x4⟩).getD i E4.z).d (if (i : Int) = (k : Int) then (1 : Rat) else 0)) /\ Below w.heap.size w (U.setRow g (flat (fl.set k ⟨x1, x2, x3, x4⟩)).toArray)) := by
  have kw : Kw U (U.setRow g (flat (fl.set k ⟨x1, x2, x3, x4⟩)).toArray) := R1.out.kw
  refine ⟨hg, R1.out.app q.fq, by simpa using hl, fun i hi => ?_, below_setRow (bx b0 bb) hg _⟩
  by_cases hik : i = k
  .subst hik
   rw [show (fl.set i (⟨x1, x2, x3, x4⟩ : E4)).getD i E4.z = ⟨x1, x2, x3, x4⟩ from by simp [List.getD, show i < fl.length by omega], if_pos rfl]
   exact kw.qc q
  .rw [show (fl.set k (⟨x1, x2, x3, x4⟩ : E4)).getD i E4.z = fl.getD i E4.z from by simp [List.getD, List.getElem?_set, Ne.symm hik], if_neg (by omega)]
   exact kw.qc ((hq i hi).to bb)
 clear hg hr hl hq b0 bb q HE
 go_wp2_with (refine wpList_storeq rfl (.tmp 19) (.tmp 18) rfl (by rfl) (by rfl) R1.out R2.out QF.out ?_; clear R1)
 go_ret
 exact ⟨g, _, rfl, HF.out⟩
theorem vunit_v {w : World} {n k : Int} (hn2 : n <= 9223372036854775807) : Calls Tryz.prog 33 #[.int .i64 n, .int .i64 k] w (VR w (unitQ n k)) := by
 by_cases hn : n < 1
 .refine (unit_out hn hn2).mono ?_
  rintro e w' ⟨rfl, hb⟩
  have h0 : unitQ n k = [] := List.eq_nil_of_length_eq_zero (by rw [unitQ_length]; omega)
  rw [h0]
  exact ⟨none, 0, [], rfl, Vc.nil _ (by decide), hb⟩
 .have hN : min n 65536 = ((min n.toNat 65536 : Nat) : Int) := by omega
  have fin : ∀ e w', (∃ g fl, e = Ending.returned (.slice (some ⟨g, 0, none⟩) (min n.toNat 65536) (min n.toNat 65536)) /\ w.heap.size <= g /\ Row w' g fl /\ fl.length = min n.toNat 65536 /\ (∀ i, i < min n.toNat 65536 -> Qc w' (fl.getD i E4.z).a (fl.getD i E4.z).b (fl.getD i E4.z).c (fl.getD i E4.z).d (if (i : Int) = k then (1 : Rat) else 0)) /\ Below w.heap.size w w') -> VR w (unitQ n k) e w' := by
   rintro e w' ⟨g, fl, rfl, _, hr, hl, hq, hb⟩
   refine ⟨some ⟨g, 0, none⟩, min n.toNat 65536, fl, by rw [unitQ_length], hr.vc hl (unitQ_length ..) (by omega) fun i hi => ?_, hb⟩
   rw [unitQ_in hi]
   exact hq i hi
  by_cases hk : 0 <= k /\ k < ((min n.toNat 65536 : Nat) : Int)
  .obtain ⟨m, rfl⟩ := Int.eq_ofNat_of_zero_le hk.1
   exact (unit_at (by omega) hn2 hN (by omega)).mono fin
  .exact (unit_far (by omega) hn2 hN hk).mono fin
theorem upD_abs {q : Int} (h : q ≠ 0) : upD q = (q.natAbs : Int) := by unfold upD; rw [if_neg h]; split <;> omega
theorem rgcd_v {w : World} {x y x' y' : Value} {a b : Int} (ha : Zl w x y a) (hb : Zl w x' y' b) : Calls Tryz.prog 107 #[.agg #[x, y], .agg #[x', y']] w (ZR w (Int.gcd a b : Nat)) := rgcd_z ha hb
theorem rsign_v {w : World} {x y : Value} {a v : Int} (ha : Zl w x y a) (hv : sgn a = v) : Calls Tryz.prog 103 #[.agg #[x, y]] w fun e w' => e = .returned (.int .i64 v) /\ Below w.heap.size w w' := by
 subst hv; exact rsign_z ha
theorem rcmp_v {w : World} {x y x' y' : Value} {a b v : Int} (ha : Zl w x y a) (hb : Zl w x' y' b) (hv : cmpZ a b = v) : Calls Tryz.prog 109 #[.agg #[x, y], .agg #[x', y']] w fun e w' => e = .returned (.int .i64 v) /\ Below w.heap.size w w' := by
 subst hv; exact rcmp_z ha hb
theorem rd_v {w : World} {x y x' y' : Value} {a b q : Int} (ha : Zl w x y a) (hb : Zl w x' y' b) (h0 : b ≠ 0) (hq : a / b = q) : Calls Tryz.prog 108 #[.agg #[x, y], .agg #[x', y']] w (ZE w q (a % b) 0) := by
 subst hq
 have h := rd_x ha hb
 unfold dr de at h
 rw [if_neg h0, if_neg h0] at h
 exact h
set_option maxRecDepth 100000 in
theorem rone_z {w : World} :
  Calls Tryz.prog 105 #[] w (ZR w 1) := by
 obtain ⟨W0, hW0⟩ : ∃ W0, W0 = w.alloc (.cells #[.bool false, .slice none 0 0] 24) := ⟨_, rfl⟩
 have hbw : Below w.heap.size w W0 := by rw [hW0]; exact ((Below.refl _ _).alloc (Nat.le_refl _) _)
 have tR : Two W0 (w.heap.size) (.bool false) (.slice none 0 0) := by
  have h := Two.new w (.bool false) (.slice none 0 0) 24
  rw [hW0]; exact h
 have HW0 := Hd hW0
 have HB := Hd hbw
 clear hW0 hbw
 go_enter Tryz.func105, Tryz.ntmps105
 go_wp2_with fail
 rw [<- HW0.out]
 clear HW0
 go_wp2_with fail
 refine (rfrom_z 1 (by decide) (by decide) _).mono ?_
 rintro e V1 ⟨x1, y1, rfl, z1, bb⟩
 replace tR := tR.to bb
 replace HB := hx HB bb
 clear bb
 have RZ := Hd z1
 obtain ⟨V99, eV, u, kp, _⟩ := pack2 tR Fs.nil x1 y1
 obtain ⟨n1, A1, j1, m1, rfl, rfl⟩ := z1.fs
 obtain ⟨v0, v1, v2, v3, _⟩ := tR
 have EV := Hd eV
 have KP := Hd kp
 have U := Hd u
 clear eV kp u z1
 go_wp2
 rw [EV.out]
 refine bodyPost_ret (v := .agg #[.bool n1, .slice A1 j1 m1]) (by simp [results, Tryz.f105, go_sem, U.out.c0, U.out.c1]) rfl ?_
 exact ⟨_, _, rfl, KP.out.zc _ _ _ RZ.out, KP.out.bel _ _ HB.out (by omega)⟩
set_option maxRecDepth 100000 in
theorem rden_0 {w : World} {a1 a2 a3 a4 : Value} {q : Int} (h : Zl w a3 a4 q) (hq : q = 0) :
  Calls Tryz.prog 73 #[.agg #[a1, a2, a3, a4]] w (ZR w (upD q)) := by
 rw [show upD q = 1 from by unfold upD; rw [if_pos hq]]
 have hs : Hid (sgn q = 0) := sgn_zero.2 hq
 clear hq
 obtain ⟨W0, hW0⟩ : ∃ W0, W0 = (w.alloc (.cells #[a1, a2, a3, a4] 26)).alloc (.cells #[.bool false, .slice none 0 0] 24) := ⟨_, rfl⟩
 have hbw : Below w.heap.size w W0 := by rw [hW0]; exact (((Below.refl _ _).alloc (Nat.le_refl _) _).alloc (by simp) _)
 have tA : Four W0 (w.heap.size) a1 a2 a3 a4 := by
  have h := Four.new w a1 a2 a3 a4 26
  rw [hW0]; exact (h.alloc _)
 have tR : Two W0 (w.heap.size + 1) (.bool false) (.slice none 0 0) := by
  have h := Two.new (w.alloc (.cells #[a1, a2, a3, a4] 26)) (.bool false) (.slice none 0 0) 24
  rw [World.size_alloc] at h
  rw [hW0]; exact h
 replace h := h.to hbw
 have HW0 := Hd hW0
 have HB := Hd hbw
 clear hW0 hbw
 go_enter Tryz.func73, Tryz.ntmps73
 go_wp2_with fail
 rw [<- HW0.out]
 clear HW0
 have kktA0 := tA.c0
 have kktA1 := tA.c1
 have kktA2 := tA.c2
 have kktA3 := tA.c3
 go_wp2_with fail
 refine (rsign_v h hs.out).mono ?_
 rintro e V1 ⟨rfl, bb⟩
 clear kktA0 kktA1 kktA2 kktA3
 replace tA := tA.to bb
 replace tR := tR.to bb
 replace HB := hx HB bb
 clear bb
 have kktA0 := tA.c0
 have kktA1 := tA.c1
 have kktA2 := tA.c2
 have kktA3 := tA.c3
 go_wp2_with fail
 refine (rone_z).mono ?_
 rintro e V2 ⟨x2, y2, rfl, z2, bb⟩
 clear kktA0 kktA1 kktA2 kktA3
 replace tA := tA.to bb
 replace tR := tR.to bb
 replace HB := hx HB bb
 clear bb
 have RZ := Hd z2
 obtain ⟨V99, eV, u, kp, _⟩ := pack2 tR Fs.nil x2 y2
 obtain ⟨n1, A1, j1, m1, rfl, rfl⟩ := z2.fs
 obtain ⟨v0, v1, v2, v3, _⟩ := tR
 have EV := Hd eV
 have KP := Hd kp
 have U := Hd u
 clear eV kp u z2
 clear tA
 go_wp2
 rw [EV.out]
 refine bodyPost_ret (v := .agg #[.bool n1, .slice A1 j1 m1]) (by simp [results, Tryz.f73, go_sem, U.out.c0, U.out.c1]) rfl ?_
 exact ⟨_, _, rfl, KP.out.zc _ _ _ RZ.out, KP.out.bel _ _ HB.out (by omega)⟩
set_option maxRecDepth 100000 in
theorem rden_n {w : World} {a1 a2 a3 a4 : Value} {q : Int} (h : Zl w a3 a4 q) (hq : q ≠ 0) :
  Calls Tryz.prog 73 #[.agg #[a1, a2, a3, a4]] w (ZR w (upD q)) := by
 rw [upD_abs hq]
 obtain ⟨s, es⟩ : ∃ s, sgn q = s := ⟨_, rfl⟩
 have hs0 : (s == 0) = false := by rw [beq_eq_false_iff_ne, <- es]; exact fun h => hq (sgn_zero.1 h)
 have hs := Hd es
 clear hq es
 obtain ⟨W0, hW0⟩ : ∃ W0, W0 = (w.alloc (.cells #[a1, a2, a3, a4] 26)).alloc (.cells #[.bool false, .slice none 0 0] 24) := ⟨_, rfl⟩
 have hbw : Below w.heap.size w W0 := by rw [hW0]; exact (((Below.refl _ _).alloc (Nat.le_refl _) _).alloc (by simp) _)
 have tA : Four W0 (w.heap.size) a1 a2 a3 a4 := by
  have h := Four.new w a1 a2 a3 a4 26
  rw [hW0]; exact (h.alloc _)
 have tR : Two W0 (w.heap.size + 1) (.bool false) (.slice none 0 0) := by
  have h := Two.new (w.alloc (.cells #[a1, a2, a3, a4] 26)) (.bool false) (.slice none 0 0) 24
  rw [World.size_alloc] at h
  rw [hW0]; exact h
 replace h := h.to hbw
 have HW0 := Hd hW0
 have HB := Hd hbw
 clear hW0 hbw
 go_enter Tryz.func73, Tryz.ntmps73
 go_wp2_with fail
 rw [<- HW0.out]
 clear HW0
 have kktA0 := tA.c0
 have kktA1 := tA.c1
 have kktA2 := tA.c2
 have kktA3 := tA.c3
 go_wp2_with fail
 refine (rsign_v h hs.out).mono ?_
 rintro e V1 ⟨rfl, bb⟩
 clear kktA0 kktA1 kktA2 kktA3
 replace tA := tA.to bb
 replace tR := tR.to bb
 replace h := h.to bb
 replace HB := hx HB bb
 clear bb
 have kktA0 := tA.c0
 have kktA1 := tA.c1
 have kktA2 := tA.c2
 have kktA3 := tA.c3
 go_wp2_with fail
 refine (rabs_z h).mono ?_
 rintro e V2 ⟨x2, y2, rfl, z2, bb⟩
 clear kktA0 kktA1 kktA2 kktA3
 replace tA := tA.to bb
 replace tR := tR.to bb
 replace HB := hx HB bb
 clear bb
 have RZ := Hd z2
 obtain ⟨V99, eV, u, kp, _⟩ := pack2 tR Fs.nil x2 y2
 obtain ⟨n1, A1, j1, m1, rfl, rfl⟩ := z2.fs
 obtain ⟨v0, v1, v2, v3, _⟩ := tR
 have EV := Hd eV
 have KP := Hd kp
 have U := Hd u
 clear eV kp u z2
 clear tA
 go_wp2
 rw [EV.out]
 refine bodyPost_ret (v := .agg #[.bool n1, .slice A1 j1 m1]) (by simp [results, Tryz.f73, go_sem, U.out.c0, U.out.c1]) rfl ?_
 exact ⟨_, _, rfl, KP.out.zc _ _ _ RZ.out, KP.out.bel _ _ HB.out (by omega)⟩
theorem rden_z {w : World} {a1 a2 a3 a4 : Value} {q : Int} (h : Zl w a3 a4 q) : Calls Tryz.prog 73 #[.agg #[a1, a2, a3, a4]] w (ZR w (upD q)) := by
 by_cases hq : q = 0
 .exact rden_0 h hq
 .exact rden_n h hq
set_option maxRecDepth 100000 in
theorem rnum_n {w : World} {a1 a2 a3 a4 : Value} {p q : Int} (h1 : Zl w a1 a2 p) (h : Zl w a3 a4 q) (hq : q < 0) :
  Calls Tryz.prog 72 #[.agg #[a1, a2, a3, a4]] w (ZR w (upN p q)) := by
 rw [show upN p q = -p from by unfold upN; rw [if_pos hq]]
 have hs : Hid (sgn q = -1) := sgn_neg hq
 clear hq
 obtain ⟨W0, hW0⟩ : ∃ W0, W0 = (w.alloc (.cells #[a1, a2, a3, a4] 26)).alloc (.cells #[.bool false, .slice none 0 0] 24) := ⟨_, rfl⟩
 have hbw : Below w.heap.size w W0 := by rw [hW0]; exact (((Below.refl _ _).alloc (Nat.le_refl _) _).alloc (by simp) _)
 have tA : Four W0 (w.heap.size) a1 a2 a3 a4 := by
  have h := Four.new w a1 a2 a3 a4 26
  rw [hW0]; exact (h.alloc _)
 have tR : Two W0 (w.heap.size + 1) (.bool false) (.slice none 0 0) := by
  have h := Two.new (w.alloc (.cells #[a1, a2, a3, a4] 26)) (.bool false) (.slice none 0 0) 24
  rw [World.size_alloc] at h
  rw [hW0]; exact h
 replace h1 := h1.to hbw
 replace h := h.to hbw
 have HW0 := Hd hW0
 have HB := Hd hbw
 clear hW0 hbw
 go_enter Tryz.func72, Tryz.ntmps72
 go_wp2_with fail
 rw [<- HW0.out]
 clear HW0
 have kktA0 := tA.c0
 have kktA1 := tA.c1
 have kktA2 := tA.c2
 have kktA3 := tA.c3
 go_wp2_with fail
 refine (rsign_v h hs.out).mono ?_
 rintro e V1 ⟨rfl, bb⟩
 clear kktA0 kktA1 kktA2 kktA3
 replace tA := tA.to bb
 replace tR := tR.to bb
 replace h1 := h1.to bb
 replace HB := hx HB bb
 clear bb
 have kktA0 := tA.c0
 have kktA1 := tA.c1
 have kktA2 := tA.c2
 have kktA3 := tA.c3
 go_wp2_with fail
 refine (rneg_z h1).mono ?_
 rintro e V2 ⟨x2, y2, rfl, z2, bb⟩
 clear kktA0 kktA1 kktA2 kktA3
 replace tA := tA.to bb
 replace tR := tR.to bb
 replace HB := hx HB bb
 clear bb
 have RZ := Hd z2
 obtain ⟨V99, eV, u, kp, _⟩ := pack2 tR Fs.nil x2 y2
 obtain ⟨n1, A1, j1, m1, rfl, rfl⟩ := z2.fs
 obtain ⟨v0, v1, v2, v3, _⟩ := tR
 have EV := Hd eV
 have KP := Hd kp
 have U := Hd u
 clear eV kp u z2
 clear tA
 go_wp2
 rw [EV.out]
 refine bodyPost_ret (v := .agg #[.bool n1, .slice A1 j1 m1]) (by simp [results, Tryz.f72, go_sem, U.out.c0, U.out.c1]) rfl ?_
 exact ⟨_, _, rfl, KP.out.zc _ _ _ RZ.out, KP.out.bel _ _ HB.out (by omega)⟩
set_option maxRecDepth 100000 in
theorem rnum_p {w : World} {a1 a2 a3 a4 : Value} {p q : Int} (h1 : Zl w a1 a2 p) (h : Zl w a3 a4 q) (hq : ¬ q < 0) :
  Calls Tryz.prog 72 #[.agg #[a1, a2, a3, a4]] w (ZR w (upN p q)) := by
 rw [show upN p q = p from by unfold upN; rw [if_neg hq]]
 obtain ⟨s, es⟩ : ∃ s, sgn q = s := ⟨_, rfl⟩
 have hs0 : ¬ s < 0 := by rw [<- es]; unfold sgn; split <;> (try split) <;> omega
 have hs := Hd es
 clear hq es
 obtain ⟨W0, hW0⟩ : ∃ W0, W0 = (w.alloc (.cells #[a1, a2, a3, a4] 26)).alloc (.cells #[.bool false, .slice none 0 0] 24) := ⟨_, rfl⟩
 have hbw : Below w.heap.size w W0 := by rw [hW0]; exact (((Below.refl _ _).alloc (Nat.le_refl _) _).alloc (by simp) _)
 have tA : Four W0 (w.heap.size) a1 a2 a3 a4 := by
  have h := Four.new w a1 a2 a3 a4 26
  rw [hW0]; exact (h.alloc _)
 have tR : Two W0 (w.heap.size + 1) (.bool false) (.slice none 0 0) := by
  have h := Two.new (w.alloc (.cells #[a1, a2, a3, a4] 26)) (.bool false) (.slice none 0 0) 24
  rw [World.size_alloc] at h
  rw [hW0]; exact h
 replace h1 := h1.to hbw
 replace h := h.to hbw
 have HW0 := Hd hW0
 have HB := Hd hbw
 clear hW0 hbw
 go_enter Tryz.func72, Tryz.ntmps72
 go_wp2_with fail
 rw [<- HW0.out]
 clear HW0
 have kktA0 := tA.c0
 have kktA1 := tA.c1
 have kktA2 := tA.c2
 have kktA3 := tA.c3
 go_wp2_with fail
 refine (rsign_v h hs.out).mono ?_
 rintro e V1 ⟨rfl, bb⟩
 clear kktA0 kktA1 kktA2 kktA3
 replace tA := tA.to bb
 replace tR := tR.to bb
 replace h1 := h1.to bb
 replace HB := hx HB bb
 clear bb
 have kktA0 := tA.c0
 have kktA1 := tA.c1
 have kktA2 := tA.c2
 have kktA3 := tA.c3
 go_wp2_with fail
 refine (rleast_z h1).mono ?_
 rintro e V2 ⟨x2, y2, rfl, z2, bb⟩
 clear kktA0 kktA1 kktA2 kktA3
 replace tA := tA.to bb
 replace tR := tR.to bb
 replace HB := hx HB bb
 clear bb
 have RZ := Hd z2
 obtain ⟨V99, eV, u, kp, _⟩ := pack2 tR Fs.nil x2 y2
 obtain ⟨n1, A1, j1, m1, rfl, rfl⟩ := z2.fs
 obtain ⟨v0, v1, v2, v3, _⟩ := tR
 have EV := Hd eV
 have KP := Hd kp
 have U := Hd u
 clear eV kp u z2
 clear tA
 go_wp2
 rw [EV.out]
 refine bodyPost_ret (v := .agg #[.bool n1, .slice A1 j1 m1]) (by simp [results, Tryz.f72, go_sem, U.out.c0, U.out.c1]) rfl ?_
 exact ⟨_, _, rfl, KP.out.zc _ _ _ RZ.out, KP.out.bel _ _ HB.out (by omega)⟩
theorem rnum_z {w : World} {a1 a2 a3 a4 : Value} {p q : Int} (h1 : Zl w a1 a2 p) (h : Zl w a3 a4 q) : Calls Tryz.prog 72 #[.agg #[a1, a2, a3, a4]] w (ZR w (upN p q)) := by
 by_cases hq : q < 0
 .exact rnum_n h1 h hq
 .exact rnum_p h1 h hq
set_option maxRecDepth 100000 in
theorem over_1 {w : World} {n1 n2 d1 d2 : Value} {n d : Int} (h1 : Zl w n1 n2 n) (h2 : Zl w d1 d2 d) (hd : 0 < d) (hone : (Rat.divInt n d).den = 1) :
  Calls Tryz.prog 74 #[.agg #[n1, n2], .agg #[d1, d2]] w (QR w (Rat.divInt n d)) := by
 have hg : cmn n d = (Int.gcd n d : Int) := by unfold cmn; rw [if_neg (by omega)]
 have hd0 : d ≠ 0 := by omega
 have hG : Hid ((Int.gcd n d : Int) ≠ 0) := by show _ ≠ _; rw [<- hg]; exact cmn_ne n d hd0
 have e1 : Hid (n / (Int.gcd n d : Int) = (Rat.divInt n d).num) := by show _ = _; rw [<- hg]; exact cmn_num n d hd0
 have e2 : Hid (d / (Int.gcd n d : Int) = ((Rat.divInt n d).den : Int)) := by show _ = _; rw [<- hg]; exact cmn_den n d hd0
 have sG : Hid (Sg (Int.gcd n d : Nat)) := by
  show Sg _
  exact (h2.sg.sm.le (by have := gcd_le n d hd0; omega)).sg (Nat.le_refl _)
 have sD : Hid (Sg ((Rat.divInt n d).den : Int)) := by
  show Sg _
  rw [<- e2.out]
  exact (h2.sg.sm.le (Int.natAbs_ediv_le_natAbs _ _)).sg (Nat.le_refl _)
 obtain ⟨G, eG⟩ : ∃ G : Int, ((Int.gcd n d : Nat) : Int) = G := ⟨_, rfl⟩
 obtain ⟨R, eR⟩ : ∃ R, Rat.divInt n d = R := ⟨_, rfl⟩
 rw [eG] at hG e1 e2 sG
 rw [eR] at e1 e2 sD hone ⊢
 have EG := Hd eG
 obtain ⟨c, ec⟩ : ∃ c, cmpZ (R.den : Int) 1 = c := ⟨_, rfl⟩
 have hc : (c == 0) = true := by
  rw [<- ec]; unfold cmpZ
  rw [if_neg (by omega), if_neg (by omega)]; rfl
 have EC := Hd ec
 have HO := Hd hone
 clear hd0 hg eG eR ec hone hd
 obtain ⟨W0, hW0⟩ : ∃ W0, W0 = ((w.alloc (.cells #[n1, n2] 24)).alloc (.cells #[d1, d2] 24)).alloc (.cells #[.bool false, .slice none 0 0, .bool false, .slice none 0 0] 26) := ⟨_, rfl⟩
 have hbw : Below w.heap.size w W0 := by rw [hW0]; exact ((((Below.refl _ _).alloc (Nat.le_refl _) _).alloc (by simp) _).alloc (by simp; omega) _)
 have tA : Two W0 (w.heap.size) n1 n2 := by
  have h := Two.new w n1 n2 24
  rw [hW0]; exact ((h.alloc _).alloc _)
 have tB : Two W0 (w.heap.size + 1) d1 d2 := by
  have h := Two.new (w.alloc (.cells #[n1, n2] 24)) d1 d2 24
  rw [World.size_alloc] at h
  rw [hW0]; exact (h.alloc _)
 have tR : Four W0 (w.heap.size + 1 + 1) (.bool false) (.slice none 0 0) (.bool false) (.slice none 0 0) := by
  have h := Four.new ((w.alloc (.cells #[n1, n2] 24)).alloc (.cells #[d1, d2] 24)) (.bool false) (.slice none 0 0) (.bool false) (.slice none 0 0) 26
  rw [World.size_alloc, World.size_alloc] at h
  rw [hW0]; exact h
 replace h1 := h1.to hbw
 replace h2 := h2.to hbw
 have HW0 := Hd hW0
 have HB := Hd hbw
 clear hW0 hbw
 go_enter Tryz.func74, Tryz.ntmps74
 go_wp2_with fail
 rw [<- HW0.out]
 clear HW0
 have kktA0 := tA.c0
 have kktA1 := tA.c1
 have kktB0 := tB.c0
 have kktB1 := tB.c1
 go_wp2_with fail
 refine (rgcd_v h1 h2).mono ?_
 rintro e V1 ⟨x1, y1, rfl, z1, bb⟩
 clear kktA0 kktA1 kktB0 kktB1
 replace tA := tA.to bb
 replace tB := tB.to bb
 replace tR := tR.to bb
 replace h1 := h1.to bb
 replace h2 := h2.to bb
 replace HB := hx HB bb
 clear bb
 rw [EG.out] at z1
 obtain ⟨nntG0, AAtG0, jjtG0, mmtG0, rfl, rfl⟩ := z1.fs
 have tG := Two.new V1 (.bool nntG0) (.slice AAtG0 jjtG0 mmtG0) 24
 have bb := (Below.refl V1.heap.size V1).alloc (by simp) (.cells #[.bool nntG0, .slice AAtG0 jjtG0 mmtG0] 24)
 replace tA := tA.to bb
 replace tB := tB.to bb
 replace tR := tR.to bb
 replace h1 := h1.to bb
 replace h2 := h2.to bb
 replace z1 := z1.to bb
 replace HB := hx HB bb
 clear bb
 have kktA0 := tA.c0
 have kktA1 := tA.c1
 have kktB0 := tB.c0
 have kktB1 := tB.c1
 have kktG0 := tG.c0
 have kktG1 := tG.c1
 go_wp2_with fail
 obtain ⟨X2, hX2⟩ : ∃ W, W = V1.alloc (.cells #[.bool nntG0, .slice AAtG0 jjtG0 mmtG0] 24) := ⟨_, rfl⟩
 obtain ⟨gtG, hgtG⟩ : ∃ g, g = V1.heap.size := ⟨_, rfl⟩
 rw [<- hX2, <- hgtG]
 rw [<- hX2, <- hgtG] at tG
 rw [<- hX2] at tA tB tR h1 h2 z1 HB
 clear hX2 hgtG
 refine (rd_v h1 (z1.zs sG.out) hG.out e1.out).mono ?_
 rintro e V3 ⟨xq3, yq3, xr3, yr3, rfl, zq3, zr3, bb⟩
 clear kktA0 kktA1 kktB0 kktB1 kktG0 kktG1
 replace tA := tA.to bb
 replace tB := tB.to bb
 replace tG := tG.to bb
 replace tR := tR.to bb
 replace h2 := h2.to bb
 replace z1 := z1.to bb
 replace HB := hx HB bb
 clear bb
 obtain ⟨nntP0, AAtP0, jjtP0, mmtP0, rfl, rfl⟩ := zq3.fs
 have tP := Two.new V3 (.bool nntP0) (.slice AAtP0 jjtP0 mmtP0) 24
 obtain ⟨nntS0, AAtS0, jjtS0, mmtS0, rfl, rfl⟩ := zr3.fs
 have tS := Two.new (V3.alloc (.cells #[.bool nntP0, .slice AAtP0 jjtP0 mmtP0] 24)) (.bool nntS0) (.slice AAtS0 jjtS0 mmtS0) 24
 rw [World.size_alloc] at tS
 replace tP := (tP.alloc (.cells #[.bool nntS0, .slice AAtS0 jjtS0 mmtS0] 24))
 have bb := ((Below.refl V3.heap.size V3).alloc (by simp) (.cells #[.bool nntP0, .slice AAtP0 jjtP0 mmtP0] 24)).alloc (by simp) (.cells #[.bool nntS0, .slice AAtS0 jjtS0 mmtS0] 24)
 replace tA := tA.to bb
 replace tB := tB.to bb
 replace tG := tG.to bb
 replace tR := tR.to bb
 replace h2 := h2.to bb
 replace z1 := z1.to bb
 replace zq3 := zq3.to bb
 replace zr3 := zr3.to bb
 replace HB := hx HB bb
 clear bb
 have kktA0 := tA.c0
 have kktA1 := tA.c1
 have kktB0 := tB.c0
 have kktB1 := tB.c1
 have kktG0 := tG.c0
 have kktG1 := tG.c1
 have kktP0 := tP.c0
 have kktP1 := tP.c1
 have kktS0 := tS.c0
 have kktS1 := tS.c1
 go_wp2_with fail
 obtain ⟨X4, hX4⟩ : ∃ W, W = (V3.alloc (.cells #[.bool nntP0, .slice AAtP0 jjtP0 mmtP0] 24)).alloc (.cells #[.bool nntS0, .slice AAtS0 jjtS0 mmtS0] 24) := ⟨_, rfl⟩
 obtain ⟨gtP, hgtP⟩ : ∃ g, g = V3.heap.size := ⟨_, rfl⟩
 obtain ⟨gtS, hgtS⟩ : ∃ g, g = V3.heap.size + 1 := ⟨_, rfl⟩
 rw [<- hX4, <- hgtS, <- hgtP]
 rw [<- hX4, <- hgtP] at tP
 rw [<- hX4, <- hgtS] at tS
 rw [<- hX4] at tA tB tG tR h2 z1 zq3 zr3 HB
 clear hX4 hgtP hgtS
 refine (rd_v h2 (z1.zs sG.out) hG.out e2.out).mono ?_
 rintro e V5 ⟨xq5, yq5, xr5, yr5, rfl, zq5, zr5, bb⟩
 clear kktA0 kktA1 kktB0 kktB1 kktG0 kktG1 kktP0 kktP1 kktS0 kktS1
 replace tA := tA.to bb
 replace tB := tB.to bb
 replace tG := tG.to bb
 replace tP := tP.to bb
 replace tS := tS.to bb
 replace tR := tR.to bb
 replace z1 := z1.to bb
 replace zq3 := zq3.to bb
 replace zr3 := zr3.to bb
 replace HB := hx HB bb
 clear bb
 obtain ⟨nntQ0, AAtQ0, jjtQ0, mmtQ0, rfl, rfl⟩ := zq5.fs
 have tQ := Two.new V5 (.bool nntQ0) (.slice AAtQ0 jjtQ0 mmtQ0) 24
 obtain ⟨nntU0, AAtU0, jjtU0, mmtU0, rfl, rfl⟩ := zr5.fs
 have tU := Two.new (V5.alloc (.cells #[.bool nntQ0, .slice AAtQ0 jjtQ0 mmtQ0] 24)) (.bool nntU0) (.slice AAtU0 jjtU0 mmtU0) 24
 rw [World.size_alloc] at tU
 replace tQ := (tQ.alloc (.cells #[.bool nntU0, .slice AAtU0 jjtU0 mmtU0] 24))
 have bb := ((Below.refl V5.heap.size V5).alloc (by simp) (.cells #[.bool nntQ0, .slice AAtQ0 jjtQ0 mmtQ0] 24)).alloc (by simp) (.cells #[.bool nntU0, .slice AAtU0 jjtU0 mmtU0] 24)
 replace tA := tA.to bb
 replace tB := tB.to bb
 replace tG := tG.to bb
 replace tP := tP.to bb
 replace tS := tS.to bb
 replace tR := tR.to bb
 replace z1 := z1.to bb
 replace zq3 := zq3.to bb
 replace zr3 := zr3.to bb
 replace zq5 := zq5.to bb
 replace zr5 := zr5.to bb
 replace HB := hx HB bb
 clear bb
 go_wp2_with fail
 obtain ⟨X6, hX6⟩ : ∃ W, W = (V5.alloc (.cells #[.bool nntQ0, .slice AAtQ0 jjtQ0 mmtQ0] 24)).alloc (.cells #[.bool nntU0, .slice AAtU0 jjtU0 mmtU0] 24) := ⟨_, rfl⟩
 obtain ⟨gtQ, hgtQ⟩ : ∃ g, g = V5.heap.size := ⟨_, rfl⟩
 obtain ⟨gtU, hgtU⟩ : ∃ g, g = V5.heap.size + 1 := ⟨_, rfl⟩
 rw [<- hX6, <- hgtU, <- hgtQ]
 rw [<- hX6, <- hgtQ] at tQ
 rw [<- hX6, <- hgtU] at tU
 rw [<- hX6] at tA tB tG tP tS tR z1 zq3 zr3 zq5 zr5 HB
 clear hX6 hgtQ hgtU
 clear tA tB tG tS tU
 refine wp_region_plan (S := fun w' => Below w.heap.size w w' /\ Two w' (gtP) (.bool nntP0) (.slice AAtP0 jjtP0 mmtP0) /\ Two w' (gtQ) (.bool nntQ0) (.slice AAtQ0 jjtQ0 mmtQ0)) [(0, true), (1, false), (2, false), (3, true)] (by kernel_rfl) (by kernel_rfl) ⟨HB.out.drew, tP.to (Below.refl _ _).drew, tQ.to (Below.refl _ _).drew⟩ ?_
 have hb := HB.out.drew
 replace tP := tP.to (Below.refl _ _).drew
 replace tQ := tQ.to (Below.refl _ _).drew
 replace tR := tR.to (Below.refl _ _).drew
 replace z1 := z1.to (Below.refl _ _).drew
 replace zq3 := zq3.to (Below.refl _ _).drew
 replace zr3 := zr3.to (Below.refl _ _).drew
 replace zq5 := zq5.to (Below.refl _ _).drew
 replace zr5 := zr5.to (Below.refl _ _).drew
 clear HB
 refine plan_take rfl (by rfl) (fun w' hS => load_two (by rfl) (hS.2.2)) ?_
 refine plan_call rfl (by rfl) (fun K hK => ?_)
 go_simp
 refine (rone_z).mono ?_
 rintro e V7 ⟨x7, y7, rfl, z7, bb⟩
 replace hb := bx hb bb
 replace tP := tP.to bb
 replace tQ := tQ.to bb
 replace tR := tR.to bb
 replace z1 := z1.to bb
 replace zq3 := zq3.to bb
 replace zr3 := zr3.to bb
 replace zq5 := zq5.to bb
 replace zr5 := zr5.to bb
 refine hK.out _ _ ⟨hb, tP, tQ⟩ ?_
 clear hK K bb
 refine plan_call rfl (by rfl) (fun K hK => ?_)
 go_simp
 refine (rcmp_v (zq5.zs sD.out) (z7.zs (sg_lit (by decide))) EC.out).mono ?_
 rintro e V8 ⟨rfl, bb⟩
 replace hb := bx hb bb
 replace tP := tP.to bb
 replace tQ := tQ.to bb
 replace tR := tR.to bb
 replace z1 := z1.to bb
 replace zq3 := zq3.to bb
 replace zr3 := zr3.to bb
 replace zq5 := zq5.to bb
 replace zr5 := zr5.to bb
 replace z7 := z7.to bb
 refine hK.out _ _ ⟨hb, tP, tQ⟩ ?_
 clear hK K bb
 refine plan_take (v := ?_) rfl (by rfl) ?_ ?_; rotate_left; (focus (intro w' hS; go_simp; try with_reducible rfl))
 refine plan_done ?_
 have HB := Hd hb
 clear hb
 have kktP0 := tP.c0
 have kktP1 := tP.c1
 have kktQ0 := tQ.c0
 have kktQ1 := tQ.c1
 have rq : Qc _ (.bool nntP0) (.slice AAtP0 jjtP0 mmtP0) (.bool false) (.slice none 0 0) R := ⟨zq3, by rw [if_pos HO.out]; exact zc_nil _⟩
 have RZ := Hd rq
 obtain ⟨V99, eV, u, kp⟩ := pack4 tR Fq.nil (.bool nntP0) (.slice AAtP0 jjtP0 mmtP0) (.bool false) (.slice none 0 0)
 obtain ⟨v0, v1, v2, v3, v4, v5, v6, v7, _⟩ := tR
 have EV := Hd eV
 have KP := Hd kp
 have U := Hd u
 clear eV kp u rq
 go_wp2
 rw [EV.out]
 refine bodyPost_ret (v := .agg #[.bool nntP0, .slice AAtP0 jjtP0 mmtP0, .bool false, .slice none 0 0]) (by simp [results, Tryz.f74, go_sem, U.out.c0, U.out.c1, U.out.c2, U.out.c3]) rfl ?_
 exact ⟨_, _, _, _, rfl, RZ.out.k4 KP.out, KP.out.bel _ _ HB.out (by omega)⟩
set_option maxRecDepth 100000 in
theorem over_n {w : World} {n1 n2 d1 d2 : Value} {n d : Int} (h1 : Zl w n1 n2 n) (h2 : Zl w d1 d2 d) (hd : 0 < d) (hone : (Rat.divInt n d).den ≠ 1) :
  Calls Tryz.prog 74 #[.agg #[n1, n2], .agg #[d1, d2]] w (QR w (Rat.divInt n d)) := by
 have hg : cmn n d = (Int.gcd n d : Int) := by unfold cmn; rw [if_neg (by omega)]
 have hd0 : d ≠ 0 := by omega
 have hG : Hid ((Int.gcd n d : Int) ≠ 0) := by show _ ≠ _; rw [<- hg]; exact cmn_ne n d hd0
 have e1 : Hid (n / (Int.gcd n d : Int) = (Rat.divInt n d).num) := by show _ = _; rw [<- hg]; exact cmn_num n d hd0
 have e2 : Hid (d / (Int.gcd n d : Int) = ((Rat.divInt n d).den : Int)) := by show _ = _; rw [<- hg]; exact cmn_den n d hd0
 have sG : Hid (Sg (Int.gcd n d : Nat)) := by
  show Sg _
  exact (h2.sg.sm.le (by have := gcd_le n d hd0; omega)).sg (Nat.le_refl _)
 have sD : Hid (Sg ((Rat.divInt n d).den : Int)) := by
  show Sg _
  rw [<- e2.out]
  exact (h2.sg.sm.le (Int.natAbs_ediv_le_natAbs _ _)).sg (Nat.le_refl _)
 obtain ⟨G, eG⟩ : ∃ G : Int, ((Int.gcd n d : Nat) : Int) = G := ⟨_, rfl⟩
 obtain ⟨R, eR⟩ : ∃ R, Rat.divInt n d = R := ⟨_, rfl⟩
 rw [eG] at hG e1 e2 sG
 rw [eR] at e1 e2 sD hone ⊢
 have EG := Hd eG
 obtain ⟨c, ec⟩ : ∃ c, cmpZ (R.den : Int) 1 = c := ⟨_, rfl⟩
 have hc : (c == 0) = false := by
  rw [<- ec]; unfold cmpZ
  have := R.den_pos
  rw [if_neg (by omega), if_pos (by omega)]; rfl
 have EC := Hd ec
 have HO := Hd hone
 clear hd0 hg eG eR ec hone hd
 obtain ⟨W0, hW0⟩ : ∃ W0, W0 = ((w.alloc (.cells #[n1, n2] 24)).alloc (.cells #[d1, d2] 24)).alloc (.cells #[.bool false, .slice none 0 0, .bool false, .slice none 0 0] 26) := ⟨_, rfl⟩
 have hbw : Below w.heap.size w W0 := by rw [hW0]; exact ((((Below.refl _ _).alloc (Nat.le_refl _) _).alloc (by simp) _).alloc (by simp; omega) _)
 have tA : Two W0 (w.heap.size) n1 n2 := by
  have h := Two.new w n1 n2 24
  rw [hW0]; exact ((h.alloc _).alloc _)
 have tB : Two W0 (w.heap.size + 1) d1 d2 := by
  have h := Two.new (w.alloc (.cells #[n1, n2] 24)) d1 d2 24
  rw [World.size_alloc] at h
  rw [hW0]; exact (h.alloc _)
 have tR : Four W0 (w.heap.size + 1 + 1) (.bool false) (.slice none 0 0) (.bool false) (.slice none 0 0) := by
  have h := Four.new ((w.alloc (.cells #[n1, n2] 24)).alloc (.cells #[d1, d2] 24)) (.bool false) (.slice none 0 0) (.bool false) (.slice none 0 0) 26
  rw [World.size_alloc, World.size_alloc] at h
  rw [hW0]; exact h
 replace h1 := h1.to hbw
 replace h2 := h2.to hbw
 have HW0 := Hd hW0
 have HB := Hd hbw
 clear hW0 hbw
 go_enter Tryz.func74, Tryz.ntmps74
 go_wp2_with fail
 rw [<- HW0.out]
 clear HW0
 have kktA0 := tA.c0
 have kktA1 := tA.c1
 have kktB0 := tB.c0
 have kktB1 := tB.c1
 go_wp2_with fail
 refine (rgcd_v h1 h2).mono ?_
 rintro e V1 ⟨x1, y1, rfl, z1, bb⟩
 clear kktA0 kktA1 kktB0 kktB1
 replace tA := tA.to bb
 replace tB := tB.to bb
 replace tR := tR.to bb
 replace h1 := h1.to bb
 replace h2 := h2.to bb
 replace HB := hx HB bb
 clear bb
 rw [EG.out] at z1
 obtain ⟨nntG0, AAtG0, jjtG0, mmtG0, rfl, rfl⟩ := z1.fs
 have tG := Two.new V1 (.bool nntG0) (.slice AAtG0 jjtG0 mmtG0) 24
 have bb := (Below.refl V1.heap.size V1).alloc (by simp) (.cells #[.bool nntG0, .slice AAtG0 jjtG0 mmtG0] 24)
 replace tA := tA.to bb
 replace tB := tB.to bb
 replace tR := tR.to bb
 replace h1 := h1.to bb
 replace h2 := h2.to bb
 replace z1 := z1.to bb
 replace HB := hx HB bb
 clear bb
 have kktA0 := tA.c0
 have kktA1 := tA.c1
 have kktB0 := tB.c0
 have kktB1 := tB.c1
 have kktG0 := tG.c0
 have kktG1 := tG.c1
 go_wp2_with fail
 obtain ⟨X2, hX2⟩ : ∃ W, W = V1.alloc (.cells #[.bool nntG0, .slice AAtG0 jjtG0 mmtG0] 24) := ⟨_, rfl⟩
 obtain ⟨gtG, hgtG⟩ : ∃ g, g = V1.heap.size := ⟨_, rfl⟩
 rw [<- hX2, <- hgtG]
 rw [<- hX2, <- hgtG] at tG
 rw [<- hX2] at tA tB tR h1 h2 z1 HB
 clear hX2 hgtG
 refine (rd_v h1 (z1.zs sG.out) hG.out e1.out).mono ?_
 rintro e V3 ⟨xq3, yq3, xr3, yr3, rfl, zq3, zr3, bb⟩
 clear kktA0 kktA1 kktB0 kktB1 kktG0 kktG1
 replace tA := tA.to bb
 replace tB := tB.to bb
 replace tG := tG.to bb
 replace tR := tR.to bb
 replace h2 := h2.to bb
 replace z1 := z1.to bb
 replace HB := hx HB bb
 clear bb
 obtain ⟨nntP0, AAtP0, jjtP0, mmtP0, rfl, rfl⟩ := zq3.fs
 have tP := Two.new V3 (.bool nntP0) (.slice AAtP0 jjtP0 mmtP0) 24
 obtain ⟨nntS0, AAtS0, jjtS0, mmtS0, rfl, rfl⟩ := zr3.fs
 have tS := Two.new (V3.alloc (.cells #[.bool nntP0, .slice AAtP0 jjtP0 mmtP0] 24)) (.bool nntS0) (.slice AAtS0 jjtS0 mmtS0) 24
 rw [World.size_alloc] at tS
 replace tP := (tP.alloc (.cells #[.bool nntS0, .slice AAtS0 jjtS0 mmtS0] 24))
 have bb := ((Below.refl V3.heap.size V3).alloc (by simp) (.cells #[.bool nntP0, .slice AAtP0 jjtP0 mmtP0] 24)).alloc (by simp) (.cells #[.bool nntS0, .slice AAtS0 jjtS0 mmtS0] 24)
 replace tA := tA.to bb
 replace tB := tB.to bb
 replace tG := tG.to bb
 replace tR := tR.to bb
 replace h2 := h2.to bb
 replace z1 := z1.to bb
 replace zq3 := zq3.to bb
 replace zr3 := zr3.to bb
 replace HB := hx HB bb
 clear bb
 have kktA0 := tA.c0
 have kktA1 := tA.c1
 have kktB0 := tB.c0
 have kktB1 := tB.c1
 have kktG0 := tG.c0
 have kktG1 := tG.c1
 have kktP0 := tP.c0
 have kktP1 := tP.c1
 have kktS0 := tS.c0
 have kktS1 := tS.c1
 go_wp2_with fail
 obtain ⟨X4, hX4⟩ : ∃ W, W = (V3.alloc (.cells #[.bool nntP0, .slice AAtP0 jjtP0 mmtP0] 24)).alloc (.cells #[.bool nntS0, .slice AAtS0 jjtS0 mmtS0] 24) := ⟨_, rfl⟩
 obtain ⟨gtP, hgtP⟩ : ∃ g, g = V3.heap.size := ⟨_, rfl⟩
 obtain ⟨gtS, hgtS⟩ : ∃ g, g = V3.heap.size + 1 := ⟨_, rfl⟩
 rw [<- hX4, <- hgtS, <- hgtP]
 rw [<- hX4, <- hgtP] at tP
 rw [<- hX4, <- hgtS] at tS
 rw [<- hX4] at tA tB tG tR h2 z1 zq3 zr3 HB
 clear hX4 hgtP hgtS
 refine (rd_v h2 (z1.zs sG.out) hG.out e2.out).mono ?_
 rintro e V5 ⟨xq5, yq5, xr5, yr5, rfl, zq5, zr5, bb⟩
 clear kktA0 kktA1 kktB0 kktB1 kktG0 kktG1 kktP0 kktP1 kktS0 kktS1
 replace tA := tA.to bb
 replace tB := tB.to bb
 replace tG := tG.to bb
 replace tP := tP.to bb
 replace tS := tS.to bb
 replace tR := tR.to bb
 replace z1 := z1.to bb
 replace zq3 := zq3.to bb
 replace zr3 := zr3.to bb
 replace HB := hx HB bb
 clear bb
 obtain ⟨nntQ0, AAtQ0, jjtQ0, mmtQ0, rfl, rfl⟩ := zq5.fs
 have tQ := Two.new V5 (.bool nntQ0) (.slice AAtQ0 jjtQ0 mmtQ0) 24
 obtain ⟨nntU0, AAtU0, jjtU0, mmtU0, rfl, rfl⟩ := zr5.fs
 have tU := Two.new (V5.alloc (.cells #[.bool nntQ0, .slice AAtQ0 jjtQ0 mmtQ0] 24)) (.bool nntU0) (.slice AAtU0 jjtU0 mmtU0) 24
 rw [World.size_alloc] at tU
 replace tQ := (tQ.alloc (.cells #[.bool nntU0, .slice AAtU0 jjtU0 mmtU0] 24))
 have bb := ((Below.refl V5.heap.size V5).alloc (by simp) (.cells #[.bool nntQ0, .slice AAtQ0 jjtQ0 mmtQ0] 24)).alloc (by simp) (.cells #[.bool nntU0, .slice AAtU0 jjtU0 mmtU0] 24)
 replace tA := tA.to bb
 replace tB := tB.to bb
 replace tG := tG.to bb
 replace tP := tP.to bb
 replace tS := tS.to bb
 replace tR := tR.to bb
 replace z1 := z1.to bb
 replace zq3 := zq3.to bb
 replace zr3 := zr3.to bb
 replace zq5 := zq5.to bb
 replace zr5 := zr5.to bb
 replace HB := hx HB bb
 clear bb
 go_wp2_with fail
 obtain ⟨X6, hX6⟩ : ∃ W, W = (V5.alloc (.cells #[.bool nntQ0, .slice AAtQ0 jjtQ0 mmtQ0] 24)).alloc (.cells #[.bool nntU0, .slice AAtU0 jjtU0 mmtU0] 24) := ⟨_, rfl⟩
 obtain ⟨gtQ, hgtQ⟩ : ∃ g, g = V5.heap.size := ⟨_, rfl⟩
 obtain ⟨gtU, hgtU⟩ : ∃ g, g = V5.heap.size + 1 := ⟨_, rfl⟩
 rw [<- hX6, <- hgtU, <- hgtQ]
 rw [<- hX6, <- hgtQ] at tQ
 rw [<- hX6, <- hgtU] at tU
 rw [<- hX6] at tA tB tG tP tS tR z1 zq3 zr3 zq5 zr5 HB
 clear hX6 hgtQ hgtU
 clear tA tB tG tS tU
 refine wp_region_plan (S := fun w' => Below w.heap.size w w' /\ Two w' (gtP) (.bool nntP0) (.slice AAtP0 jjtP0 mmtP0) /\ Two w' (gtQ) (.bool nntQ0) (.slice AAtQ0 jjtQ0 mmtQ0)) [(0, true), (1, false), (2, false), (3, true)] (by kernel_rfl) (by kernel_rfl) ⟨HB.out.drew, tP.to (Below.refl _ _).drew, tQ.to (Below.refl _ _).drew⟩ ?_
 have hb := HB.out.drew
 replace tP := tP.to (Below.refl _ _).drew
 replace tQ := tQ.to (Below.refl _ _).drew
 replace tR := tR.to (Below.refl _ _).drew
 replace z1 := z1.to (Below.refl _ _).drew
 replace zq3 := zq3.to (Below.refl _ _).drew
 replace zr3 := zr3.to (Below.refl _ _).drew
 replace zq5 := zq5.to (Below.refl _ _).drew
 replace zr5 := zr5.to (Below.refl _ _).drew
 clear HB
 refine plan_take rfl (by rfl) (fun w' hS => load_two (by rfl) (hS.2.2)) ?_
 refine plan_call rfl (by rfl) (fun K hK => ?_)
 go_simp
 refine (rone_z).mono ?_
 rintro e V7 ⟨x7, y7, rfl, z7, bb⟩
 replace hb := bx hb bb
 replace tP := tP.to bb
 replace tQ := tQ.to bb
 replace tR := tR.to bb
 replace z1 := z1.to bb
 replace zq3 := zq3.to bb
 replace zr3 := zr3.to bb
 replace zq5 := zq5.to bb
 replace zr5 := zr5.to bb
 refine hK.out _ _ ⟨hb, tP, tQ⟩ ?_
 clear hK K bb
 refine plan_call rfl (by rfl) (fun K hK => ?_)
 go_simp
 refine (rcmp_v (zq5.zs sD.out) (z7.zs (sg_lit (by decide))) EC.out).mono ?_
 rintro e V8 ⟨rfl, bb⟩
 replace hb := bx hb bb
 replace tP := tP.to bb
 replace tQ := tQ.to bb
 replace tR := tR.to bb
 replace z1 := z1.to bb
 replace zq3 := zq3.to bb
 replace zr3 := zr3.to bb
 replace zq5 := zq5.to bb
 replace zr5 := zr5.to bb
 replace z7 := z7.to bb
 refine hK.out _ _ ⟨hb, tP, tQ⟩ ?_
 clear hK K bb
 refine plan_take (v := ?_) rfl (by rfl) ?_ ?_; rotate_left; (focus (intro w' hS; go_simp; try with_reducible rfl))
 refine plan_done ?_
 have HB := Hd hb
 clear hb
 have kktP0 := tP.c0
 have kktP1 := tP.c1
 have kktQ0 := tQ.c0
 have kktQ1 := tQ.c1
 have rq : Qc _ (.bool nntP0) (.slice AAtP0 jjtP0 mmtP0) (.bool nntQ0) (.slice AAtQ0 jjtQ0 mmtQ0) R := ⟨zq3, by rw [if_neg HO.out]; exact zq5⟩
 have RZ := Hd rq
 obtain ⟨V99, eV, u, kp⟩ := pack4 tR Fq.nil (.bool nntP0) (.slice AAtP0 jjtP0 mmtP0) (.bool nntQ0) (.slice AAtQ0 jjtQ0 mmtQ0)
 obtain ⟨v0, v1, v2, v3, v4, v5, v6, v7, _⟩ := tR
 have EV := Hd eV
 have KP := Hd kp
 have U := Hd u
 clear eV kp u rq
 go_wp2
 rw [EV.out]
 refine bodyPost_ret (v := .agg #[.bool nntP0, .slice AAtP0 jjtP0 mmtP0, .bool nntQ0, .slice AAtQ0 jjtQ0 mmtQ0]) (by simp [results, Tryz.f74, go_sem, U.out.c0, U.out.c1, U.out.c2, U.out.c3]) rfl ?_
 exact ⟨_, _, _, _, rfl, RZ.out.k4 KP.out, KP.out.bel _ _ HB.out (by omega)⟩
theorem over_z {w : World} {n1 n2 d1 d2 : Value} {n d : Int} (h1 : Zl w n1 n2 n) (h2 : Zl w d1 d2 d) (hd : 0 < d) : Calls Tryz.prog 74 #[.agg #[n1, n2], .agg #[d1, d2]] w (QR w (Rat.divInt n d)) := by
 by_cases h : (Rat.divInt n d).den = 1
 .exact over_1 h1 h2 hd h
 .exact over_n h1 h2 hd h
set_option maxRecDepth 100000 in
theorem rleast_q {w : World} {a1 a2 a3 a4 : Value} {r : Rat} {k : Nat} (hA : Qi w a1 a2 a3 a4 r k) (hk : 0 < k) (hk2 : k <= 10000) :
  Calls Tryz.prog 62 #[.agg #[a1, a2, a3, a4]] w (QR w r) := by
 obtain ⟨p, q, h1, h2, rfl, s1, s2⟩ := hA
 have sN : Hid (Sg (upN p q)) := (s1.upN q).sg hk2
 have sD : Hid (Sg (upD q)) := (s2.upD hk).sg hk2
 have pD : Hid (0 < upD q) := upD_pos q
 rw [rv_up]
 clear s1 s2 hk hk2
 obtain ⟨W0, hW0⟩ : ∃ W0, W0 = (w.alloc (.cells #[a1, a2, a3, a4] 26)).alloc (.cells #[.bool false, .slice none 0 0, .bool false, .slice none 0 0] 26) := ⟨_, rfl⟩
 have hbw : Below w.heap.size w W0 := by rw [hW0]; exact (((Below.refl _ _).alloc (Nat.le_refl _) _).alloc (by simp) _)
 have tA : Four W0 (w.heap.size) a1 a2 a3 a4 := by
  have h := Four.new w a1 a2 a3 a4 26
  rw [hW0]; exact (h.alloc _)
 have tR : Four W0 (w.heap.size + 1) (.bool false) (.slice none 0 0) (.bool false) (.slice none 0 0) := by
  have h := Four.new (w.alloc (.cells #[a1, a2, a3, a4] 26)) (.bool false) (.slice none 0 0) (.bool false) (.slice none 0 0) 26
  rw [World.size_alloc] at h
  rw [hW0]; exact h
 replace h1 := h1.to hbw
 replace h2 := h2.to hbw
 have HW0 := Hd hW0
 have HB := Hd hbw
 clear hW0 hbw
 go_enter Tryz.func62, Tryz.ntmps62
 go_wp2_with fail
 rw [<- HW0.out]
 clear HW0
 refine wp_region_plan (S := fun w' => Below w.heap.size w w' /\ Four w' (w.heap.size) a1 a2 a3 a4) [(0, true), (2, true), (1, false), (3, false), (4, false), (5, false)] (by kernel_rfl) (by kernel_rfl) ⟨HB.out.drew, tA.to (Below.refl _ _).drew⟩ ?_
 have hb := HB.out.drew
 replace tA := tA.to (Below.refl _ _).drew
 replace tR := tR.to (Below.refl _ _).drew
 replace h1 := h1.to (Below.refl _ _).drew
 replace h2 := h2.to (Below.refl _ _).drew
 clear HB
 iterate 2 (refine plan_take rfl (by rfl) (fun w' hS => load_four (by rfl) (hS.2)) ?_; simp only [Act.put, List.setIfInBounds_toArray, List.set_cons_zero, List.set_cons_succ])
 refine plan_call rfl (by rfl) (fun K hK => ?_)
 go_simp
 refine (rnum_z h1 h2).mono ?_
 rintro e V1 ⟨x1, y1, rfl, z1, bb⟩
 replace hb := bx hb bb
 replace tA := tA.to bb
 replace tR := tR.to bb
 replace h1 := h1.to bb
 replace h2 := h2.to bb
 refine hK.out _ _ ⟨hb, tA⟩ ?_
 clear hK K bb
 refine plan_call rfl (by rfl) (fun K hK => ?_)
 go_simp
 refine (rden_z h2).mono ?_
 rintro e V2 ⟨x2, y2, rfl, z2, bb⟩
 replace hb := bx hb bb
 replace tA := tA.to bb
 replace tR := tR.to bb
 replace z1 := z1.to bb
 refine hK.out _ _ ⟨hb, tA⟩ ?_
 clear hK K bb
 refine plan_call rfl (by rfl) (fun K hK => ?_)
 go_simp
 refine (over_z (z1.zs sN.out) (z2.zs sD.out) pD.out).mono ?_
 rintro e V3 ⟨x3, y3, u3, v3, rfl, q3, bb⟩
 replace hb := bx hb bb
 replace tA := tA.to bb
 replace tR := tR.to bb
 refine hK.out _ _ ⟨hb, tA⟩ ?_
 clear hK K bb
 refine plan_call rfl (by rfl) (fun K hK => ?_)
 refine wp_store_q (by rfl) (by rfl) tR Fq.nil q3.fq (fun V u kp => ?_)
 replace tA := kp.four (by omega) tA
 replace hb := kp.bel _ _ hb (by omega)
 replace q3 := kp.qc q3
 refine hK.out _ _ ⟨hb, tA⟩ ?_
 clear hK K kp tR tA
 simp only [Act.put, List.setIfInBounds_toArray, List.set_cons_zero, List.set_cons_succ]
 refine plan_done ?_
 have U0 := u.c0
 have U1 := u.c1
 have U2 := u.c2
 have U3 := u.c3
 have RZ := Hd q3
 have HE := Hd hb
 obtain ⟨⟨n1, A1, j1, m1, rfl, rfl⟩, ⟨n2, A2, j2, m2, rfl, rfl⟩⟩ := q3.fq
 clear q3 hb u
 go_wp2
 refine bodyPost_ret (v := .agg #[.bool n1, .slice A1 j1 m1, .bool n2, .slice A2 j2 m2]) (by simp [results, Tryz.f62, go_sem, U0, U1, U2, U3]) rfl ?_
 exact ⟨_, _, _, _, rfl, RZ.out, HE.out⟩
set_option maxRecDepth 100000 in
theorem rint_q (n : Int) (n1 : -9223372036854775808 <= n) (n2 : n <= 9223372036854775807) (w : World) :
  Calls Tryz.prog 39 #[.int .i64 n] w (QR w (n : Rat)) := by
 have HN := Hd fun W => rfrom_z n n1 n2 W
 clear n1 n2
 obtain ⟨W0, hW0⟩ : ∃ W0, W0 = w.alloc (.cells #[.bool false, .slice none 0 0, .bool false, .slice none 0 0] 26) := ⟨_, rfl⟩
 have hbw : Below w.heap.size w W0 := by rw [hW0]; exact ((Below.refl _ _).alloc (Nat.le_refl _) _)
 have tR : Four W0 (w.heap.size) (.bool false) (.slice none 0 0) (.bool false) (.slice none 0 0) := by
  have h := Four.new w (.bool false) (.slice none 0 0) (.bool false) (.slice none 0 0) 26
  rw [hW0]; exact h
 have HW0 := Hd hW0
 have HB := Hd hbw
 clear hW0 hbw
 go_enter Tryz.func39, Tryz.ntmps39
 go_wp2_with fail
 rw [<- HW0.out]
 clear HW0
 go_wp2_with fail
 refine (HN.out _).mono ?_
 rintro e V1 ⟨x1, y1, rfl, z1, bb⟩
 replace tR := tR.to bb
 replace HB := hx HB bb
 clear bb
 have rq : Qc _ x1 y1 (.bool false) (.slice none 0 0) (n : Rat) := ⟨z1, zc_nil _⟩
 have RZ := Hd rq
 obtain ⟨V99, eV, u, kp⟩ := pack4 tR Fq.nil x1 y1 (.bool false) (.slice none 0 0)
 obtain ⟨n1, A1, j1, m1, rfl, rfl⟩ := rq.fq.1
 obtain ⟨v0, v1, v2, v3, v4, v5, v6, v7, _⟩ := tR
 have EV := Hd eV
 have KP := Hd kp
 have U := Hd u
 clear eV kp u rq
 go_wp2
 rw [EV.out]
 refine bodyPost_ret (v := .agg #[.bool n1, .slice A1 j1 m1, .bool false, .slice none 0 0]) (by simp [results, Tryz.f39, go_sem, U.out.c0, U.out.c1, U.out.c2, U.out.c3]) rfl ?_
 exact ⟨_, _, _, _, rfl, RZ.out.k4 KP.out, KP.out.bel _ _ HB.out (by omega)⟩
set_option maxRecDepth 100000 in
theorem rof_q (n d : Int) (n1 : -9223372036854775808 <= n) (n2 : n <= 9223372036854775807) (d1 : -9223372036854775808 <= d) (d2 : d <= 9223372036854775807) (w : World) :
  Calls Tryz.prog 46 #[.int .i64 n, .int .i64 d] w (QR w (rv n d)) := by
 have HN := Hd fun W => rfrom_z n n1 n2 W
 have HD := Hd fun W => rfrom_z d d1 d2 W
 have s2 : ∀ v : Int, -9223372036854775808 <= v -> v <= 9223372036854775807 -> Sm 2 v := fun v h1 h2 => by
  unfold Sm
  rw [show b32 ^ 2 = 18446744073709551616 from by decide]
  omega
 have mn : Hid (Sm 2 n) := s2 n n1 n2
 have md : Hid (Sm 2 d) := s2 d d1 d2
 clear n1 n2 d1 d2 s2
 obtain ⟨W0, hW0⟩ : ∃ W0, W0 = w.alloc (.cells #[.bool false, .slice none 0 0, .bool false, .slice none 0 0] 26) := ⟨_, rfl⟩
 have hbw : Below w.heap.size w W0 := by rw [hW0]; exact ((Below.refl _ _).alloc (Nat.le_refl _) _)
 have tR : Four W0 (w.heap.size) (.bool false) (.slice none 0 0) (.bool false) (.slice none 0 0) := by
  have h := Four.new w (.bool false) (.slice none 0 0) (.bool false) (.slice none 0 0) 26
  rw [hW0]; exact h
 have HW0 := Hd hW0
 have HB := Hd hbw
 clear hW0 hbw
 go_enter Tryz.func46, Tryz.ntmps46
 go_wp2_with fail
 rw [<- HW0.out]
 clear HW0
 go_wp2_with fail
 refine (HN.out _).mono ?_
 rintro e V1 ⟨x1, y1, rfl, z1, bb⟩
 replace tR := tR.to bb
 replace HB := hx HB bb
 clear bb
 go_wp2_with fail
 refine (HD.out _).mono ?_
 rintro e V2 ⟨x2, y2, rfl, z2, bb⟩
 replace tR := tR.to bb
 replace z1 := z1.to bb
 replace HB := hx HB bb
 clear bb
 go_wp2_with fail
 refine (rleast_q (k := 2) ⟨_, _, z1.zl mn.out (by decide), z2.zl md.out (by decide), rfl, mn.out, md.out⟩ (by decide) (by decide)).mono ?_
 rintro e V3 ⟨x3, y3, u3, v3, rfl, q3, bb⟩
 replace tR := tR.to bb
 replace HB := hx HB bb
 clear bb
 have RZ := Hd q3
 obtain ⟨V99, eV, u, kp⟩ := pack4 tR Fq.nil x3 y3 u3 v3
 obtain ⟨⟨n1, A1, j1, m1, rfl, rfl⟩, ⟨n2, A2, j2, m2, rfl, rfl⟩⟩ := q3.fq
 obtain ⟨v0, v1, v2, v3, v4, v5, v6, v7, _⟩ := tR
 have EV := Hd eV
 have KP := Hd kp
 have U := Hd u
 clear eV kp u q3
 go_wp2
 rw [EV.out]
 refine bodyPost_ret (v := .agg #[.bool n1, .slice A1 j1 m1, .bool n2, .slice A2 j2 m2]) (by simp [results, Tryz.f46, go_sem, U.out.c0, U.out.c1, U.out.c2, U.out.c3]) rfl ?_
 exact ⟨_, _, _, _, rfl, RZ.out.k4 KP.out, KP.out.bel _ _ HB.out (by omega)⟩
theorem Zc.same {w : World} {x y x' y' : Value} {a b : Int} (ha : Zc w x y a) (hb : Zc w x' y' b) {v : Bool} (hv : decide (a = b) = v) : Calls Tryz.prog 57 #[.agg #[x, y], .agg #[x', y']] w fun e w' => e = .returned (.bool v) /\ Below w.heap.size w w' := by
 subst hv; exact same_c ha hb
theorem den_cell {r s : Rat} (h : r ≠ s) (hn : r.num = s.num) : (if r.den = 1 then 0 else (r.den : Int)) ≠ (if s.den = 1 then 0 else (s.den : Int)) := by
 intro h2
 apply h
 refine Rat.ext hn ?_
 have h3 := r.den_pos
 have h4 := s.den_pos
 split at h2 <;> split at h2 <;> omega
set_option maxRecDepth 100000 in
theorem is_t {w : World} {a1 a2 a3 a4 b1 b2 b3 b4 : Value} {r s : Rat} (hA : Qc w a1 a2 a3 a4 r) (hB : Qc w b1 b2 b3 b4 s) (h : r = s) :
  Calls Tryz.prog 22 #[.agg #[a1, a2, a3, a4], .agg #[b1, b2, b3, b4]] w (fun e w' => e = .returned (.bool true) /\ Below w.heap.size w w') := by
 have e1 : Hid (decide (r.num = s.num) = true) := decide_eq_true (by rw [h])
 have e2 : Hid (decide ((if r.den = 1 then 0 else (r.den : Int)) = (if s.den = 1 then 0 else (s.den : Int))) = true) := decide_eq_true (by rw [h])
 clear h
 obtain ⟨W0, hW0⟩ : ∃ W0, W0 = (w.alloc (.cells #[a1, a2, a3, a4] 26)).alloc (.cells #[b1, b2, b3, b4] 26) := ⟨_, rfl⟩
 have hbw : Below w.heap.size w W0 := by rw [hW0]; exact (((Below.refl _ _).alloc (Nat.le_refl _) _).alloc (by simp) _)
 have tA : Four W0 (w.heap.size) a1 a2 a3 a4 := by
  have h := Four.new w a1 a2 a3 a4 26
  rw [hW0]; exact (h.alloc _)
 have tB : Four W0 (w.heap.size + 1) b1 b2 b3 b4 := by
  have h := Four.new (w.alloc (.cells #[a1, a2, a3, a4] 26)) b1 b2 b3 b4 26
  rw [World.size_alloc] at h
  rw [hW0]; exact h
 replace hA := hA.to hbw
 replace hB := hB.to hbw
 have HW0 := Hd hW0
 have HB := Hd hbw
 clear hW0 hbw
 go_enter Tryz.func22, Tryz.ntmps22
 go_wp2_with fail
 rw [<- HW0.out]
 clear HW0
 have kktA0 := tA.c0
 have kktA1 := tA.c1
 have kktA2 := tA.c2
 have kktA3 := tA.c3
 have kktB0 := tB.c0
 have kktB1 := tB.c1
 have kktB2 := tB.c2
 have kktB3 := tB.c3
 go_wp2_with fail
 refine (hA.1.same hB.1 e1.out).mono ?_
 rintro e V1 ⟨rfl, bb⟩
 clear kktA0 kktA1 kktA2 kktA3 kktB0 kktB1 kktB2 kktB3
 replace tA := tA.to bb
 replace tB := tB.to bb
 replace hA := hA.to bb
 replace hB := hB.to bb
 replace HB := hx HB bb
 clear bb
 have kktA0 := tA.c0
 have kktA1 := tA.c1
 have kktA2 := tA.c2
 have kktA3 := tA.c3
 have kktB0 := tB.c0
 have kktB1 := tB.c1
 have kktB2 := tB.c2
 have kktB3 := tB.c3
 go_wp2_with fail
 refine (hA.2.same hB.2 e2.out).mono ?_
 rintro e V2 ⟨rfl, bb⟩
 clear kktA0 kktA1 kktA2 kktA3 kktB0 kktB1 kktB2 kktB3
 replace tA := tA.to bb
 replace tB := tB.to bb
 replace HB := hx HB bb
 clear bb
 clear tA tB
 go_wp2
 go_ret
 exact ⟨rfl, HB.out⟩
set_option maxRecDepth 100000 in
theorem is_n {w : World} {a1 a2 a3 a4 b1 b2 b3 b4 : Value} {r s : Rat} (hA : Qc w a1 a2 a3 a4 r) (hB : Qc w b1 b2 b3 b4 s) (h : r.num ≠ s.num) :
  Calls Tryz.prog 22 #[.agg #[a1, a2, a3, a4], .agg #[b1, b2, b3, b4]] w (fun e w' => e = .returned (.bool false) /\ Below w.heap.size w w') := by
 have e1 : Hid (decide (r.num = s.num) = false) := decide_eq_false h
 clear h
 obtain ⟨W0, hW0⟩ : ∃ W0, W0 = (w.alloc (.cells #[a1, a2, a3, a4] 26)).alloc (.cells #[b1, b2, b3, b4] 26) := ⟨_, rfl⟩
 have hbw : Below w.heap.size w W0 := by rw [hW0]; exact (((Below.refl _ _).alloc (Nat.le_refl _) _).alloc (by simp) _)
 have tA : Four W0 (w.heap.size) a1 a2 a3 a4 := by
  have h := Four.new w a1 a2 a3 a4 26
  rw [hW0]; exact (h.alloc _)
 have tB : Four W0 (w.heap.size + 1) b1 b2 b3 b4 := by
  have h := Four.new (w.alloc (.cells #[a1, a2, a3, a4] 26)) b1 b2 b3 b4 26
  rw [World.size_alloc] at h
  rw [hW0]; exact h
 replace hA := hA.to hbw
 replace hB := hB.to hbw
 have HW0 := Hd hW0
 have HB := Hd hbw
 clear hW0 hbw
 go_enter Tryz.func22, Tryz.ntmps22
 go_wp2_with fail
 rw [<- HW0.out]
 clear HW0
 have kktA0 := tA.c0
 have kktA1 := tA.c1
 have kktA2 := tA.c2
 have kktA3 := tA.c3
 have kktB0 := tB.c0
 have kktB1 := tB.c1
 have kktB2 := tB.c2
 have kktB3 := tB.c3
 go_wp2_with fail
 refine (hA.1.same hB.1 e1.out).mono ?_
 rintro e V1 ⟨rfl, bb⟩
 clear kktA0 kktA1 kktA2 kktA3 kktB0 kktB1 kktB2 kktB3
 replace tA := tA.to bb
 replace tB := tB.to bb
 replace hA := hA.to bb
 replace hB := hB.to bb
 replace HB := hx HB bb
 clear bb
 clear tA tB
 go_wp2
 go_ret
 exact ⟨rfl, HB.out⟩
set_option maxRecDepth 100000 in
theorem is_d {w : World} {a1 a2 a3 a4 b1 b2 b3 b4 : Value} {r s : Rat} (hA : Qc w a1 a2 a3 a4 r) (hB : Qc w b1 b2 b3 b4 s) (h : r ≠ s) (hn : r.num = s.num) :
  Calls Tryz.prog 22 #[.agg #[a1, a2, a3, a4], .agg #[b1, b2, b3, b4]] w (fun e w' => e = .returned (.bool false) /\ Below w.heap.size w w') := by
 have e1 : Hid (decide (r.num = s.num) = true) := decide_eq_true hn
 have e2 : Hid (decide ((if r.den = 1 then 0 else (r.den : Int)) = (if s.den = 1 then 0 else (s.den : Int))) = false) := decide_eq_false (den_cell h hn)
 clear h hn
 obtain ⟨W0, hW0⟩ : ∃ W0, W0 = (w.alloc (.cells #[a1, a2, a3, a4] 26)).alloc (.cells #[b1, b2, b3, b4] 26) := ⟨_, rfl⟩
 have hbw : Below w.heap.size w W0 := by rw [hW0]; exact (((Below.refl _ _).alloc (Nat.le_refl _) _).alloc (by simp) _)
 have tA : Four W0 (w.heap.size) a1 a2 a3 a4 := by
  have h := Four.new w a1 a2 a3 a4 26
  rw [hW0]; exact (h.alloc _)
 have tB : Four W0 (w.heap.size + 1) b1 b2 b3 b4 := by
  have h := Four.new (w.alloc (.cells #[a1, a2, a3, a4] 26)) b1 b2 b3 b4 26
  rw [World.size_alloc] at h
  rw [hW0]; exact h
 replace hA := hA.to hbw
 replace hB := hB.to hbw
 have HW0 := Hd hW0
 have HB := Hd hbw
 clear hW0 hbw
 go_enter Tryz.func22, Tryz.ntmps22
 go_wp2_with fail
 rw [<- HW0.out]
 clear HW0
 have kktA0 := tA.c0
 have kktA1 := tA.c1
 have kktA2 := tA.c2
 have kktA3 := tA.c3
 have kktB0 := tB.c0
 have kktB1 := tB.c1
 have kktB2 := tB.c2
 have kktB3 := tB.c3
 go_wp2_with fail
 refine (hA.1.same hB.1 e1.out).mono ?_
 rintro e V1 ⟨rfl, bb⟩
 clear kktA0 kktA1 kktA2 kktA3 kktB0 kktB1 kktB2 kktB3
 replace tA := tA.to bb
 replace tB := tB.to bb
 replace hA := hA.to bb
 replace hB := hB.to bb
 replace HB := hx HB bb
 clear bb
 have kktA0 := tA.c0
 have kktA1 := tA.c1
 have kktA2 := tA.c2
 have kktA3 := tA.c3
 have kktB0 := tB.c0
 have kktB1 := tB.c1
 have kktB2 := tB.c2
 have kktB3 := tB.c3
 go_wp2_with fail
 refine (hA.2.same hB.2 e2.out).mono ?_
 rintro e V2 ⟨rfl, bb⟩
 clear kktA0 kktA1 kktA2 kktA3 kktB0 kktB1 kktB2 kktB3
 replace tA := tA.to bb
 replace tB := tB.to bb
 replace HB := hx HB bb
 clear bb
 clear tA tB
 go_wp2
 go_ret
 exact ⟨rfl, HB.out⟩
theorem is_q {w : World} {a1 a2 a3 a4 b1 b2 b3 b4 : Value} {r s : Rat} (hA : Qc w a1 a2 a3 a4 r) (hB : Qc w b1 b2 b3 b4 s) {v : Bool} (hv : decide (r = s) = v) : Calls Tryz.prog 22 #[.agg #[a1, a2, a3, a4], .agg #[b1, b2, b3, b4]] w fun e w' => e = .returned (.bool v) /\ Below w.heap.size w w' := by
 subst hv
 by_cases h : r = s
 .rw [decide_eq_true h]; exact is_t hA hB h
 .rw [decide_eq_false h]
  by_cases hn : r.num = s.num
  .exact is_d hA hB h hn
  .exact is_n hA hB hn
theorem is3_len {w : World} {A A' : Option Addr} {l l' c c' : Nat} (hl : l ≠ l') :
  Calls Tryz.prog 13 #[.slice A l c, .slice A' l' c'] w fun e w' => e = .returned (.bool false) /\ Below w.heap.size w w' := by
 have h1 : ((l : Int) != (l' : Int)) = true := by rw [bne_iff_ne]; omega
 clear hl
 go_enter Tryz.func13, Tryz.ntmps13
 go_wp2
 go_ret
 exact ⟨rfl, Below.refl _ _⟩
theorem is3_f {b : Nat -> Bool} {w : World} {A A' : Option Addr} {c c' L : Nat} {es fs : List E4} (hx : Rq w w.heap.size A es) (hy : Rq w w.heap.size A' fs) (h1 : es.length = L) (h2 : fs.length = L) (hL : L <= 4398046511104)
  (hF : ∀ (V : World), Below w.heap.size w V -> ∀ i, i < L -> Calls Tryz.prog 22 #[(es.getD i E4.z).v, (fs.getD i E4.z).v] V fun e w' => e = .returned (.bool (b i)) /\ Below V.heap.size V w') {r : Bool} (hr : (List.range L).all b = r) :
  Calls Tryz.prog 13 #[.slice A L c, .slice A' L c'] w fun e w' => e = .returned (.bool r) /\ Below w.heap.size w w' := by
 have RX := Hd hx
 have RY := Hd hy
 have H1 := Hd h1
 have H2 := Hd h2
 have HF := Hd hF
 have HR := Hd hr
 have hne : ((L : Int) != (L : Int)) = false := by simp
 clear hx hy h1 h2 hF hr
 go_enter Tryz.func13, Tryz.ntmps13
 go_wp2
 go_loopw [5] (fun i wr => ∃ k : Nat, i = .int .i64 k /\ k <= L /\ (∀ j, j < k -> b j = true) /\ Below w.heap.size w wr) (fun i _ => L - (intOf i).toNat)
 case atStart => exact ⟨0, rfl, Nat.zero_le _, (fun j hj => by omega), Below.refl _ _⟩
 case round =>
  obtain ⟨k, rfl, hk, ht, hb⟩ := hrel
  have HT := Hd ht
  have HB := Hd hb
  clear ht hb
  by_cases hlt : k < L
  .have hki : (0 : Int) <= (k : Int) := by omega
   have hki' : (k : Int) < (L : Int) := by omega
   have hkx : k < es.length := by have := H1.out; omega
   have hky : k < fs.length := by have := H2.out; omega
   have HC := Hd (fun (V : World) (hV : Below w.heap.size w V) => HF.out V hV k hlt)
   obtain ⟨b1, o1, rfl, hb1, f0, f1, f2, f3⟩ := RX.out k hkx
   obtain ⟨b2, o2, rfl, hb2, g0, g1, g2, g3⟩ := RY.out k hky
   rw [getD_at' hkx, getD_at' hky] at HC
   have FX : Hid (∀ w', Below w.heap.size w w' -> w'.cell? ⟨b1, o1 + k * 4, none⟩ = some es[k].a /\ w'.cell? ⟨b1, o1 + k * 4 + 1, none⟩ = some es[k].b /\ w'.cell? ⟨b1, o1 + k * 4 + 2, none⟩ = some es[k].c /\ w'.cell? ⟨b1, o1 + k * 4 + 3, none⟩ = some es[k].d) := fun w' hS =>
    ⟨(hS.cell (p := ⟨b1, _, none⟩) hb1).trans f0, (hS.cell (p := ⟨b1, _, none⟩) hb1).trans f1, (hS.cell (p := ⟨b1, _, none⟩) hb1).trans f2, (hS.cell (p := ⟨b1, _, none⟩) hb1).trans f3⟩
   have FY : Hid (∀ w', Below w.heap.size w w' -> w'.cell? ⟨b2, o2 + k * 4, none⟩ = some fs[k].a /\ w'.cell? ⟨b2, o2 + k * 4 + 1, none⟩ = some fs[k].b /\ w'.cell? ⟨b2, o2 + k * 4 + 2, none⟩ = some fs[k].c /\ w'.cell? ⟨b2, o2 + k * 4 + 3, none⟩ = some fs[k].d) := fun w' hS =>
    ⟨(hS.cell (p := ⟨b2, _, none⟩) hb2).trans g0, (hS.cell (p := ⟨b2, _, none⟩) hb2).trans g1, (hS.cell (p := ⟨b2, _, none⟩) hb2).trans g2, (hS.cell (p := ⟨b2, _, none⟩) hb2).trans g3⟩
   generalize es[k] = X at FX HC
   generalize fs[k] = Y at FY HC
   obtain ⟨x1, x2, x3, x4⟩ := X
   obtain ⟨y1, y2, y3, y4⟩ := Y
   simp only [E4.v] at HC
   dsimp only at FX FY
   have HLT := Hd hlt
   clear f0 f1 f2 f3 g0 g1 g2 g3 hb1 hb2 hkx hky HF RX RY hlt
   obtain ⟨v, hv⟩ : ∃ v, b k = v := ⟨_, rfl⟩
   rw [hv] at HC
   have HV := Hd hv
   clear hv
   cases v with
   | true =>
    go_wp2_with fail
    refine wp_region_plan (S := fun w' => Below w.heap.size w w') [(0, true), (1, true), (2, true), (3, true), (4, true), (5, true), (6, true), (7, true), (8, false), (9, true)] (by kernel_rfl) (by kernel_rfl) HB.out.drew ?_
    have hb := HB.out.drew
    iterate 8 (refine plan_take (v := ?_) rfl (by rfl) ?_ ?_; rotate_left; (focus (intro w' hS; obtain ⟨f0, f1, f2, f3⟩ := FX.out w' hS; obtain ⟨g0, g1, g2, g3⟩ := FY.out w' hS; go_simp; try with_reducible rfl)))
    refine plan_call rfl (by rfl) (fun K hK => ?_)
    go_simp
    refine (HC.out _ hb).mono ?_
    rintro e V ⟨rfl, bb⟩
    replace hb := bx hb bb
    refine hK.out _ _ hb ?_
    clear hK K bb
    refine plan_take (v := ?_) rfl (by rfl) ?_ ?_; rotate_left; (focus (intro w' hS; obtain ⟨f0, f1, f2, f3⟩ := FX.out w' hS; obtain ⟨g0, g1, g2, g3⟩ := FY.out w' hS; go_simp; try with_reducible rfl))
    refine plan_done ?_
    have HE := Hd hb
    clear hb HB
    go_wp2
    go_roundw
    case rel =>
     refine ⟨k + 1, by simp, HLT.out, fun j hj => ?_, HE.out⟩
     by_cases hjk : j = k
     .subst hjk; exact HV.out
     .exact HT.out j (by omega)
    case measure => have := HLT.out; simp [intOf]; omega
   | false =>
    go_wp2_with fail
    refine wp_region_plan (S := fun w' => Below w.heap.size w w') [(0, true), (1, true), (2, true), (3, true), (4, true), (5, true), (6, true), (7, true), (8, false), (9, true)] (by kernel_rfl) (by kernel_rfl) HB.out.drew ?_
    have hb := HB.out.drew
    iterate 8 (refine plan_take (v := ?_) rfl (by rfl) ?_ ?_; rotate_left; (focus (intro w' hS; obtain ⟨f0, f1, f2, f3⟩ := FX.out w' hS; obtain ⟨g0, g1, g2, g3⟩ := FY.out w' hS; go_simp; try with_reducible rfl)))
    refine plan_call rfl (by rfl) (fun K hK => ?_)
    go_simp
    refine (HC.out _ hb).mono ?_
    rintro e V ⟨rfl, bb⟩
    replace hb := bx hb bb
    refine hK.out _ _ hb ?_
    clear hK K bb
    refine plan_take (v := ?_) rfl (by rfl) ?_ ?_; rotate_left; (focus (intro w' hS; obtain ⟨f0, f1, f2, f3⟩ := FX.out w' hS; obtain ⟨g0, g1, g2, g3⟩ := FY.out w' hS; go_simp; try with_reducible rfl))
    refine plan_done ?_
    have HE := Hd hb
    clear hb HB
    go_wp2
    go_ret
    refine ⟨?_, HE.out⟩
    rw [<- HR.out, show (List.range L).all b = false from by
     rw [List.all_eq_false]
     exact ⟨k, by simpa using HLT.out, by rw [HV.out]; decide⟩]
    rfl
  .obtain rfl : k = L := by omega
   go_wp2
   go_ret
   refine ⟨?_, HB.out⟩
   rw [<- HR.out, show (List.range k).all b = true from by
    rw [List.all_eq_true]
    intro x hx
    exact HT.out x (by simpa using hx)]
   rfl
theorem all_same {rs ss : List Rat} {L : Nat} (h1 : rs.length = L) (h2 : ss.length = L) : (List.range L).all (fun i => decide (rs.getD i 0 = ss.getD i 0)) = decide (rs = ss) := by
 rw [Bool.eq_iff_iff, List.all_eq_true, decide_eq_true_eq]
 constructor
 .intro h
  refine List.ext_getElem (by omega) fun i hi hj => ?_
  have := h i (by simp; omega)
  rw [decide_eq_true_eq, getD_lt hi, getD_lt hj] at this
  exact this
 .rintro rfl x _
  simp
theorem vis_v {w : World} {A A' : Option Addr} {c c' : Nat} {es fs : List E4} {rs ss : List Rat} (hA : Vc w A c es rs) (hB : Vc w A' c' fs ss) (hL : rs.length <= 4398046511104) {v : Bool} (hv : decide (rs = ss) = v) :
  Calls Tryz.prog 13 #[.slice A rs.length c, .slice A' ss.length c'] w fun e w' => e = .returned (.bool v) /\ Below w.heap.size w w' := by
 by_cases h : rs.length = ss.length
 .rw [<- h]
  exact is3_f (b := fun i => decide (rs.getD i 0 = ss.getD i 0)) hA.row hB.row hA.len (by rw [hB.len, h]) hL (fun V hV i _ => is_q ((hA.el i).to hV) ((hB.el i).to hV) rfl) (by rw [all_same rfl h.symm]; exact hv)
 .rw [<- hv, decide_eq_false (fun e => h (by rw [e]))]
  exact is3_len h
end Go.Proofs.YtcgdbdhhoomgiaaGreat
