/- Parts: 2. -/
import Derived.Test.YtcgdbdhhoomgiabGreatVb23
import Derived.Test.YtcgdbdhhoomgiabGreatVb24
import Derived.Deep.Slices
set_option linter.unusedVariables false
set_option linter.unusedSimpArgs false
set_option maxRecDepth 100000
set_option maxHeartbeats 40000000

namespace Go.Proofs.YtcgdbdhhoomgiabGreat
open Go.RowKit Go.Shelf

theorem lex_same' {rs ss : List Rat} (h : ∀ i, rs.getD i 0 = ss.getD i 0) : lexQ rs ss = 0 := lex_zero.2 h
theorem fitQ_getD' {rs : List Rat} {n : Int} (h : rs.length <= min n.toNat 65536) (i : Nat) : (fitQ rs n).getD i 0 = rs.getD i 0 := by
  by_cases hi : i < min n.toNat 65536
  · exact fitQ_in hi
  · rw [getD_ge (by rw [fitQ_length]; omega), getD_ge (l := rs) (by omega)]
theorem unitQ_getD {N k : Nat} (hN : N <= 20) (hk : k < N) (i : Nat) : (unitQ (N : Int) (k : Int)).getD i 0 = if i = k then 1 else 0 := by
  by_cases hi : i < N
  · rw [unitQ_in (by omega)]
    by_cases h : i = k
    · subst h; rw [if_pos rfl, if_pos rfl]
    · rw [if_neg h, if_neg (by omega)]
  · rw [getD_ge (by rw [unitQ_length]; omega), if_neg (by omega)]
theorem unitQ_vm {N k : Nat} (hN : N <= 20) (hk : k < N) : Vm 1 (unitQ (N : Int) (k : Int)) :=
  ⟨fun i => by
    rw [unitQ_getD hN hk]
    split
    · exact ⟨Sm.one (by decide), Sm.one (by decide)⟩
    · exact Qm.zero (by decide), by rw [unitQ_length]; omega⟩
theorem vm_part {a rs : List Rat} {k n : Nat} (h : Vm k a) (hr : ∀ i, rs.getD i 0 = if i < n then a.getD i 0 else 0) (hl : rs.length <= 20) : Vm k rs :=
  ⟨fun i => by
    rw [hr i]
    split
    · exact h.qm i
    · exact Qm.zero ((h.qm 0).pos), hl⟩
theorem sumF_zero {f : Nat -> Rat} : ∀ n, (∀ i, i < n -> f i = 0) -> sumF f n = 0
  | 0, _ => rfl
  | n + 1, h => by rw [sumF, sumF_zero n fun i hi => h i (by omega), h n (by omega), Rat.add_zero]
theorem sumF_one {f : Nat -> Rat} {k : Nat} : ∀ n, k < n -> (∀ i, i < n -> i ≠ k -> f i = 0) -> sumF f n = f k
  | 0, h, _ => by omega
  | n + 1, h, hz => by
    rw [sumF]
    by_cases hk : k = n
    · subst hk
      rw [sumF_zero k fun i hi => hz i (by omega) (by omega), Rat.zero_add]
    · rw [sumF_one n (by omega) fun i hi hne => hz i (by omega) hne, hz n (by omega) (Ne.symm hk), Rat.add_zero]
theorem dot_unit {a : List Rat} {N k : Nat} (hL : a.length = N) (hN : N <= 20) (hk : k < N) : dotQ a (unitQ (N : Int) (k : Int)) = a.getD k 0 := by
  unfold dotQ
  rw [sumF_one (k := k) _ (by rw [hL]; omega) fun i _ hne => by rw [unitQ_getD hN hk, if_neg hne, Rat.mul_zero], unitQ_getD hN hk, if_pos rfl, Rat.mul_one]
theorem sq_nonneg (r : Rat) : 0 <= r * r := by
  rcases Rat.le_total (a := 0) (b := r) with h | h
  · exact Rat.mul_nonneg h h
  · have h1 : 0 <= -r := by rw [Rat.le_neg_iff]; simpa using h
    have := Rat.mul_nonneg h1 h1
    rwa [Rat.neg_mul, Rat.mul_neg, Rat.neg_neg] at this
theorem sumF_nonneg {f : Nat -> Rat} (h : ∀ i, 0 <= f i) : ∀ n, 0 <= sumF f n
  | 0 => Rat.le_refl
  | n + 1 => Rat.add_nonneg (sumF_nonneg h n) (h n)
theorem sumF_pos {f : Nat -> Rat} (h : ∀ i, 0 <= f i) : ∀ n, sumF f n = 0 -> ∀ i, i < n -> f i = 0
  | 0, _, i, hi => by omega
  | n + 1, hs, i, hi => by
    rw [sumF] at hs
    have h1 := sumF_nonneg h n
    have h2 := h n
    have h3 : f n = 0 := by
      refine Rat.le_antisymm ?_ h2
      have h4 : sumF f n + f n <= sumF f n := by rw [hs]; exact h1
      have h5 : sumF f n + f n <= sumF f n + 0 := by rw [Rat.add_zero]; exact h4
      exact Rat.add_le_add_left.1 h5
    rw [h3, Rat.add_zero] at hs
    by_cases hin : i = n
    · rw [hin]; exact h3
    · exact sumF_pos h n hs i (by omega)
theorem dot_self_zero {a : List Rat} : dotQ a a = 0 ↔ ∀ i, a.getD i 0 = 0 := by
  constructor
  · intro h i
    by_cases hi : i < max a.length a.length
    · have h1 := sumF_pos (fun i => sq_nonneg (a.getD i 0)) _ h i hi
      rcases Rat.mul_eq_zero.1 h1 with h2 | h2 <;> exact h2
    · rw [getD_ge (by omega)]
  · intro h
    exact sumF_zero _ fun i _ => by rw [h i, Rat.mul_zero]
theorem dot_self_nonneg (a : List Rat) : 0 <= dotQ a a := sumF_nonneg (fun i => sq_nonneg (a.getD i 0)) _
theorem posF_isSome {f : Nat -> Int} : ∀ (n k : Nat), (posF f k n).isSome = true ↔ ∃ j, k <= j /\ j < k + n /\ 0 < f j
  | 0, k => by simp [posF]; intros; omega
  | n + 1, k => by
    unfold posF
    by_cases h : 0 < f k
    · rw [if_pos h]; simp; exact ⟨k, Nat.le_refl _, by omega, h⟩
    · rw [if_neg h, posF_isSome n (k + 1)]
      constructor
      · rintro ⟨j, h1, h2, h3⟩; exact ⟨j, by omega, by omega, h3⟩
      · rintro ⟨j, h1, h2, h3⟩
        by_cases hj : j = k
        · subst hj; exact absurd h3 h
        · exact ⟨j, by omega, by omega, h3⟩
/-- Some element is above or below 0 just where the square is positive. -/
theorem basis_or (a : List Rat) : ((aboveQ a []).isSome || (aboveQ [] a).isSome) = decide (0 < sgnQ (dotQ a a)) := by
  rw [Bool.eq_iff_iff, Bool.or_eq_true, decide_eq_true_eq]
  have hs : 0 < sgnQ (dotQ a a) ↔ ¬ ∀ i, a.getD i 0 = 0 := by
    rw [<- dot_self_zero]
    have h1 := sgn_num (dotQ a a)
    change sgnQ (dotQ a a) = _ at h1
    rw [h1]
    by_cases h0 : dotQ a a = 0
    · rw [if_pos h0]; exact ⟨fun h => by omega, fun h => absurd h0 h⟩
    · rw [if_neg h0, if_neg (Rat.not_lt.2 (dot_self_nonneg a))]
      exact ⟨fun _ => h0, fun _ => by omega⟩
  rw [hs]
  unfold aboveQ
  rw [posF_isSome, posF_isSome]
  constructor
  · rintro (⟨j, _, _, h⟩ | ⟨j, _, _, h⟩) hall
    · rw [hall j, show ([] : List Rat).getD j 0 = 0 from rfl, cmp00] at h; omega
    · rw [hall j, show ([] : List Rat).getD j 0 = 0 from rfl, cmp00] at h; omega
  · intro h
    obtain ⟨i, hi⟩ := Classical.not_forall.1 h
    have hlt : i < a.length := by
      rcases Nat.lt_or_ge i a.length with h | h
      · exact h
      · exact absurd (getD_ge h) hi
    rcases cmpQ_cs (a.getD i 0) 0 with ⟨h1, h2⟩ | ⟨h1, h2⟩ | ⟨h1, h2⟩
    · exact .inr ⟨i, Nat.zero_le _, by simp; omega, by show 0 < cmpQ (([] : List Rat).getD i 0) (a.getD i 0); rw [show ([] : List Rat).getD i 0 = 0 from rfl, cmpQ_g h2]; decide⟩
    · exact absurd h2 hi
    · exact .inl ⟨i, Nat.zero_le _, by simp; omega, by show 0 < cmpQ (a.getD i 0) (([] : List Rat).getD i 0); rw [show ([] : List Rat).getD i 0 = 0 from rfl, h1]; decide⟩
theorem basis_zero (a : List Rat) : (sgnQ (dotQ a a) == 0) = (lexQ a [] == 0) := by
  rw [Bool.eq_iff_iff, beq_iff_eq, beq_iff_eq, sgnQ_zero, dot_self_zero, lex_zero]
  exact ⟨fun h i => by rw [h i]; rfl, fun h i => by rw [h i]; rfl⟩
theorem basis_01 (a : List Rat) : sgnQ (dotQ a a) = 0 ∨ sgnQ (dotQ a a) = 1 := by
  have h1 := sgn_num (dotQ a a)
  change sgnQ (dotQ a a) = _ at h1
  rw [h1]
  split
  · exact .inl rfl
  · rw [if_neg (Rat.not_lt.2 (dot_self_nonneg a))]; exact .inr rfl
theorem basis_cases {d s : Int} {t1 t2 : Bool} (h : d = 0 ∨ d = 1) (h1 : (d == 0) = (s == 0)) (h2 : (t1 || t2) = decide (0 < d)) :
    (d = 0 /\ s = 0 /\ t1 = false /\ t2 = false) ∨ (d = 1 /\ (s == 0) = false /\ t1 = true) ∨ (d = 1 /\ (s == 0) = false /\ t1 = false /\ t2 = true) := by
  rcases h with rfl | rfl
  · refine .inl ⟨rfl, ?_⟩
    have hs : s = 0 := by
      have h3 : (s == 0) = true := by rw [<- h1]; rfl
      exact beq_iff_eq.1 h3
    cases t1 <;> cases t2 <;> simp_all
  · have h3 : (s == 0) = false := by rw [<- h1]; rfl
    cases t1
    · cases t2
      · simp at h2
      · exact .inr (.inr ⟨rfl, h3, rfl, rfl⟩)
    · exact .inr (.inl ⟨rfl, h3, rfl⟩)
theorem basis_nonneg (a : List Rat) : 0 <= sgnQ (dotQ a a) := by
  have h1 := sgn_num (dotQ a a)
  change sgnQ (dotQ a a) = _ at h1
  rw [h1]
  split
  · decide
  · rw [if_neg (Rat.not_lt.2 (dot_self_nonneg a))]; decide


theorem vbasis_long {A : Option Addr} {c : Nat} {es : List E4} {w : World} (hA : VIn w ⟨A, c, es⟩) (hlng : lngV es = true) :
    Calls Tryz.prog 3 #[.slice A es.length c] w fun e w' => e = .returned (.bool true) /\ Below w.heap.size w w' := by
  obtain ⟨W0, hW0⟩ : ∃ W0, W0 = w.alloc (.cells #[.slice A es.length c] 22) := ⟨_, rfl⟩
  have hbw : Below w.heap.size w W0 := by rw [hW0]; exact (Below.refl _ _).alloc (Nat.le_refl _) _
  have hcell : W0.cell? ⟨w.heap.size, 0, none⟩ = some (.slice A es.length c) := by rw [hW0]; exact (Hp.new w _ _).one
  have hg : w.heap.size < W0.heap.size := by rw [hW0]; simp
  have HL := Lib.hid (vlong_any w.heap.size [⟨A, c, es⟩] 1 W0 hg (fun i hi => by
    match i, hi with
    | 0, _ => exact hcell) (fun v hv => by
    obtain rfl : v = ⟨A, c, es⟩ := by simpa using hv
    exact hA.to hbw) (by simp) (r := true) (by simpa using hlng))
  have HW0 := Lib.hid hW0
  have HB := Lib.hid hbw
  clear hW0 hcell hg hlng hA
  clear hbw
  go_enter Tryz.func3, Tryz.ntmps3
  go_wp2_with fail
  rw [<- HW0.out]
  refine HL.out.mono ?_
  rintro e W1 ⟨rfl, bb⟩
  replace HB := Lib.hid (HB.out.trans (bb.mono HB.out.size))
  clear bb
  go_wp2_with fail
  refine (valive_any _).mono ?_
  rintro e W2 ⟨rfl, bb⟩
  replace HB := Lib.hid (HB.out.trans (bb.mono HB.out.size))
  clear bb
  go_wp2
  go_ret
  exact ⟨rfl, HB.out⟩

theorem vbasis_core {A : Option Addr} {c : Nat} {es : List E4} {a : List Rat} {w : World} (hA : VIn w ⟨A, c, es⟩) (hv : Vi w A c es a 6) (h20 : a.length <= 20) (hlng : lngV es = false) :
    Calls Tryz.prog 3 #[.slice A es.length c] w fun e w' => e = .returned (.bool true) /\ Below w.heap.size w w' := by
  obtain ⟨W0, hW0⟩ : ∃ W0, W0 = w.alloc (.cells #[.slice A es.length c] 22) := ⟨_, rfl⟩
  have hbw : Below w.heap.size w W0 := by rw [hW0]; exact (Below.refl _ _).alloc (Nat.le_refl _) _
  have hcell : W0.cell? ⟨w.heap.size, 0, none⟩ = some (.slice A es.length c) := by rw [hW0]; exact (Hp.new w _ _).one
  have hg : w.heap.size < W0.heap.size := by rw [hW0]; simp
  have HL := Lib.hid (vlong_any w.heap.size [⟨A, c, es⟩] 1 W0 hg (fun i hi => by
    match i, hi with
    | 0, _ => exact hcell) (fun v hv => by
    obtain rfl : v = ⟨A, c, es⟩ := by simpa using hv
    exact hA.to hbw) (by simp) (r := false) (by simpa using hlng))
  have HW0 := Lib.hid hW0
  have HB := Lib.hid hbw
  clear hW0 hcell hg hlng hA
  have vA := hv.to hbw
  have HLEN := Lib.hid hv.len
  have mA : Vm 6 a := ⟨hv.qm (by decide), h20⟩
  have MA := Lib.hid mA
  clear hv hbw
  go_enter Tryz.func3, Tryz.ntmps3
  go_wp2_with fail
  rw [<- HW0.out]
  refine HL.out.mono ?_
  rintro e W1 ⟨rfl, bb⟩
  replace vA := vA.to bb
  replace HB := Lib.hid (HB.out.trans (bb.mono HB.out.size))
  clear bb HL HW0
  rw [HLEN.out]
  obtain ⟨N, hN⟩ : ∃ N, a.length = N := ⟨_, rfl⟩
  have HN := Lib.hid hN
  rw [hN] at h20 ⊢
  have hesN := Lib.hid (HLEN.out.trans hN)
  have VA := Lib.hid vA
  have HB1 := Lib.hid (show Below w.heap.size w W1 from HB.out)
  clear HLEN hN vA
  go_wp2
  go_loopw [4, 5] (fun v i wr => ∃ (k : Nat) (A1 : Option Addr) (c1 : Nat) (es1 : List E4) (rs1 : List Rat) (L1 : Nat), v = .slice A1 L1 c1 /\ i = .int .i64 k /\ k <= N /\ Hid (rs1.length = L1 /\ Vc wr A1 c1 es1 rs1 /\ (∀ i, rs1.getD i 0 = if i < k then a.getD i 0 else 0) /\ rs1.length <= 20) /\ Below W1.heap.size W1 wr) (fun _ i _ => N - (intOf i).toNat)
  case atStart => exact ⟨0, none, 0, [], [], 0, rfl, rfl, Nat.zero_le _, ⟨rfl, Vc.nil _ (by decide), fun i => by rw [if_neg (by omega)]; rfl, by decide⟩, Below.refl _ _⟩
  case round =>
    obtain ⟨k, A1, c1, es1, rs1, L1, rfl, rfl, hk, hall, hbr⟩ := hrel
    have hki : (0 : Int) <= (k : Int) := by omega
    have hk63 : (k : Int) + 1 <= 9223372036854775807 := by omega
    by_cases hlt : k < N
    · have hki' : (k : Int) < (N : Int) := by omega
      have UL : Hid ((unitQ (N : Int) (k : Int)).length = N) := by show _ = _; rw [unitQ_length]; omega
      have UV : Hid (Vm 1 (unitQ (N : Int) (k : Int))) := unitQ_vm h20 hlt
      have DU : Hid (decide (dotQ a (unitQ (N : Int) (k : Int)) = a.getD k 0) = true) := decide_eq_true (dot_unit HN.out h20 hlt)
      have MD : Hid (Qm (20 * (6 + 1 + 1) + 1) (dotQ a (unitQ (N : Int) (k : Int)))) := MA.out.dot UV.out
      have MK : Hid (Qm 6 (a.getD k 0)) := MA.out.qm k
      have HBR := Lib.hid hbr
      have HLT := Lib.hid hlt
      have HUN := Lib.hid (vunit_v (w := wr) (n := (N : Int)) (k := (k : Int)) (by omega))
      clear hbr
      go_wp2_with fail
      refine HUN.out.mono ?_
      rintro e V1 ⟨A2, c2, es2, rfl, u, bb⟩
      rw [UL.out]
      have B1 := Lib.hid (HBR.out.trans (bb.mono HBR.out.size))
      have vA1 := VA.out.to B1.out
      have ALL := Lib.hid (hall.out.2.1.to bb)
      have hkn : k < es.length := by rw [hesN.out]; exact hlt
      obtain ⟨b, o, rfl, hb2, g0, g1, g2, g3⟩ := vA1.row k hkn
      have qk := vA1.el k
      rw [getD_at' hkn] at qk
      generalize es[k] = E at g0 g1 g2 g3 qk
      obtain ⟨e1, e2, e3, e4⟩ := E
      dsimp only at g0 g1 g2 g3 qk
      have QK := Lib.hid qk
      have U := Lib.hid u
      have F : Hid (∀ V, Below V1.heap.size V1 V -> V.cell? ⟨b, o + k * 4, none⟩ = some e1 /\ V.cell? ⟨b, o + k * 4 + 1, none⟩ = some e2 /\ V.cell? ⟨b, o + k * 4 + 2, none⟩ = some e3 /\ V.cell? ⟨b, o + k * 4 + 3, none⟩ = some e4) := fun V hV =>
        ⟨(hV.cell (p := ⟨b, _, none⟩) hb2).trans g0, (hV.cell (p := ⟨b, _, none⟩) hb2).trans g1, (hV.cell (p := ⟨b, _, none⟩) hb2).trans g2, (hV.cell (p := ⟨b, _, none⟩) hb2).trans g3⟩
      have HVA := Lib.hid vA1
      have mAll : Hid (Vm 6 rs1) := vm_part MA.out hall.out.2.2.1 hall.out.2.2.2
      have hsc := vscaled_v QK.out (U.out.vi UV.out.qm (by decide)) (ALL.out.vi mAll.out.qm (by decide)) (by decide) (by decide) (by decide) (by decide) UV.out.l mAll.out.l
      rw [UL.out, hall.out.1] at hsc
      have HSC := Lib.hid hsc
      clear hsc bb HUN u qk vA1 hkn hb2 HBR
      go_wp2_with fail
      refine HSC.out.mono ?_
      rintro e V2 ⟨A3, c3, es3, rfl, s, bb⟩
      have S3 := Lib.hid s
      have U2 := Lib.hid (U.out.to bb)
      have VA2 := Lib.hid (HVA.out.to bb)
      have QK2 := Lib.hid (QK.out.to bb)
      have B2 := Lib.hid (B1.out.trans (bb.mono B1.out.size))
      have BB := Lib.hid bb
      clear bb s HSC ALL U QK HVA B1 g0 g1 g2 g3
      obtain ⟨L3, hL3⟩ : ∃ L, (ptw (fun r s => a.getD k 0 * r + s) (unitQ (N : Int) (k : Int)) rs1).length = L := ⟨_, rfl⟩
      rw [hL3]
      have HL3 := Lib.hid hL3
      clear hL3
      go_wp2_with fail
      have HD0 := Lib.hid fun (V : World) (hV : Below V2.heap.size V2 V) => vdot_m (VA2.out.to hV) ((U2.out.to hV).vi UV.out.qm (by decide)) (by decide) (by decide) MA.out UV.out (by decide)
      rw [UL.out, HN.out] at HD0
      refine wp_region_plan (S := fun w' => Below V2.heap.size V2 w') [(0, true), (1, true), (3, true), (4, true), (5, true), (6, true), (2, false), (7, false), (8, true)] (by kernel_rfl) (by kernel_rfl) (Below.refl _ _).drew ?_
      have hb := (Below.refl V2.heap.size V2).drew
      refine plan_take (v := ?_) rfl (by rfl) ?_ ?_; rotate_left; (focus (intro w' hS; obtain ⟨f0, f1, f2, f3⟩ := F.out w' (BB.out.trans (hS.mono BB.out.size)); go_simp; try with_reducible rfl)); simp only [Act.put, List.setIfInBounds_toArray, List.set_cons_zero, List.set_cons_succ]
      refine plan_take (v := ?_) rfl (by rfl) ?_ ?_; rotate_left; (focus (intro w' hS; obtain ⟨f0, f1, f2, f3⟩ := F.out w' (BB.out.trans (hS.mono BB.out.size)); go_simp; try with_reducible rfl)); simp only [Act.put, List.setIfInBounds_toArray, List.set_cons_zero, List.set_cons_succ]
      refine plan_take (v := ?_) rfl (by rfl) ?_ ?_; rotate_left; (focus (intro w' hS; obtain ⟨f0, f1, f2, f3⟩ := F.out w' (BB.out.trans (hS.mono BB.out.size)); go_simp; try with_reducible rfl)); simp only [Act.put, List.setIfInBounds_toArray, List.set_cons_zero, List.set_cons_succ]
      refine plan_take (v := ?_) rfl (by rfl) ?_ ?_; rotate_left; (focus (intro w' hS; obtain ⟨f0, f1, f2, f3⟩ := F.out w' (BB.out.trans (hS.mono BB.out.size)); go_simp; try with_reducible rfl)); simp only [Act.put, List.setIfInBounds_toArray, List.set_cons_zero, List.set_cons_succ]
      refine plan_take (v := ?_) rfl (by rfl) ?_ ?_; rotate_left; (focus (intro w' hS; obtain ⟨f0, f1, f2, f3⟩ := F.out w' (BB.out.trans (hS.mono BB.out.size)); go_simp; try with_reducible rfl)); simp only [Act.put, List.setIfInBounds_toArray, List.set_cons_zero, List.set_cons_succ]
      refine plan_take (v := ?_) rfl (by rfl) ?_ ?_; rotate_left; (focus (intro w' hS; obtain ⟨f0, f1, f2, f3⟩ := F.out w' (BB.out.trans (hS.mono BB.out.size)); go_simp; try with_reducible rfl)); simp only [Act.put, List.setIfInBounds_toArray, List.set_cons_zero, List.set_cons_succ]
      refine plan_call rfl (by rfl) (fun K hK => ?_)
      go_simp
      refine (HD0.out _ hb).mono ?_
      rintro e V ⟨y1, y2, y3, y4, rfl, qd, bb⟩
      replace hb := hb.trans (bb.mono hb.size)
      refine hK.out _ _ hb ?_
      clear hK K bb
      refine plan_call rfl (by rfl) (fun K hK => ?_)
      go_simp
      refine (equal_q (qd.qi MD.out (by decide)) (QK2.out.to hb) (by decide) (by decide) (by decide) DU.out).mono ?_
      rintro e V ⟨rfl, bb⟩
      clear qd
      replace hb := hb.trans (bb.mono hb.size)
      refine hK.out _ _ hb ?_
      clear hK K bb
      refine plan_take (v := ?_) rfl (by rfl) ?_ ?_; rotate_left; (focus (intro w' hS; obtain ⟨f0, f1, f2, f3⟩ := F.out w' (BB.out.trans (hS.mono BB.out.size)); go_simp; try with_reducible rfl)); simp only [Act.put, List.setIfInBounds_toArray, List.set_cons_zero, List.set_cons_succ]
      refine plan_done ?_
      have HB3 := Lib.hid (B2.out.trans (hb.mono B2.out.size))
      have S4 := Lib.hid (S3.out.to hb)
      clear hb HD0 S3
      go_wp2
      go_roundw
      case rel =>
        refine ⟨k + 1, A3, c3, es3, _, L3, rfl, by simp, HLT.out, ⟨HL3.out, S4.out, fun i => ?_, ?_⟩, HB3.out⟩
        · rw [ptw_getD (by rw [Rat.mul_zero, Rat.add_zero]), unitQ_getD h20 HLT.out, hall.out.2.2.1 i]
          by_cases hik : i = k
          · subst hik
            rw [if_pos rfl, if_neg (by omega), if_pos (by omega), Rat.mul_one, Rat.add_zero]
          · rw [if_neg hik, Rat.mul_zero, Rat.zero_add]
            by_cases hik2 : i < k
            · rw [if_pos hik2, if_pos (by omega)]
            · rw [if_neg hik2, if_neg (by omega)]
        · rw [ptw_length, UL.out]; have := hall.out.2.2.2; omega
      case measure => have := HLT.out; simp [intOf]; omega
    · obtain rfl : k = N := by omega
      have HBR := Lib.hid hbr
      have vA1 := VA.out.to hbr
      have hE : Hid (decide (lexQ rs1 a = 0) = true) := decide_eq_true (lex_same' fun i => by
        rw [hall.out.2.2.1 i]
        by_cases hi : i < k
        · rw [if_pos hi]
        · rw [if_neg hi, getD_ge (l := a) (by rw [HN.out]; omega)])
      have hE2 : Hid (decide (lexQ (fitQ a ((k : Int) + 3)) a = 0) = true) := decide_eq_true (lex_same' (fitQ_getD' (by rw [HN.out]; omega)))
      have hF : Hid ((fitQ a ((k : Int) + 3)).length = k + 3) := by show _ = _; rw [fitQ_length]; omega
      have MF : Hid (∀ i, Qm 6 ((fitQ a ((k : Int) + 3)).getD i 0)) := fun i => by rw [fitQ_getD' (by rw [HN.out]; omega)]; exact MA.out.qm i
      have mAll : Hid (Vm 6 rs1) := vm_part MA.out hall.out.2.2.1 hall.out.2.2.2
      have MDD : Hid (Qm (20 * (6 + 6 + 1) + 1) (dotQ a a)) := MA.out.dot MA.out
      obtain ⟨d, hd⟩ : ∃ d, sgnQ (dotQ a a) = d := ⟨_, rfl⟩
      obtain ⟨s, hs⟩ : ∃ s, lexQ a [] = s := ⟨_, rfl⟩
      obtain ⟨o1, ho1⟩ : ∃ o, aboveQ a [] = o := ⟨_, rfl⟩
      obtain ⟨o2, ho2⟩ : ∃ o, aboveQ [] a = o := ⟨_, rfl⟩
      have S0 : decide (0 <= d) = true := decide_eq_true (by rw [<- hd]; exact basis_nonneg a)
      have S1 : (d == 0) = (s == 0) := by rw [<- hd, <- hs]; exact basis_zero a
      obtain ⟨t1, ht1⟩ : ∃ t, o1.isSome = t := ⟨_, rfl⟩
      obtain ⟨t2, ht2⟩ : ∃ t, o2.isSome = t := ⟨_, rfl⟩
      obtain ⟨m1, hm1⟩ : ∃ m : Int, ((o1.getD 0 : Nat) : Int) = m := ⟨_, rfl⟩
      obtain ⟨m2, hm2⟩ : ∃ m : Int, ((o2.getD 0 : Nat) : Int) = m := ⟨_, rfl⟩
      have S2 : (t1 || t2) = decide (0 < d) := by rw [<- ht1, <- ht2, <- ho1, <- ho2, <- hd]; exact basis_or a
      have HD := Lib.hid hd
      have HS := Lib.hid hs
      have HO1 := Lib.hid ho1
      have HO2 := Lib.hid ho2
      have HT1 := Lib.hid ht1
      have HT2 := Lib.hid ht2
      have HM1 := Lib.hid hm1
      have HM2 := Lib.hid hm2
      have all := hall.out.2.1
      have HLL := Lib.hid hall.out.1
      have hcase := basis_cases (by rw [<- hd]; exact basis_01 a) S1 S2
      clear hd hs ho1 ho2 ht1 ht2 hm1 hm2 hbr hlt S0 S1 S2
      rcases hcase with ⟨rfl, rfl, rfl, rfl⟩ | ⟨rfl, sb, rfl⟩ | ⟨rfl, sb, rfl, rfl⟩
      · go_wp2_with fail
        have hc := vdot_m vA1 vA1 (by decide) (by decide) MA.out MA.out (by decide)
        rw [HN.out] at hc
        refine hc.mono ?_
        rintro e V1 ⟨y1, y2, y3, y4, rfl, qd, bb⟩
        clear hc
        replace vA1 := vA1.to bb
        replace all := all.to bb
        replace HBR := Lib.hid (HBR.out.trans (bb.mono HBR.out.size))
        clear bb
        go_wp2_with fail
        refine (sign_q (qd.qi MDD.out (by decide)) HD.out).mono ?_
        rintro e V2 ⟨rfl, bb⟩
        clear qd
        replace vA1 := vA1.to bb
        replace all := all.to bb
        replace HBR := Lib.hid (HBR.out.trans (bb.mono HBR.out.size))
        clear bb
        go_wp2_with fail
        have hc := vfirst_v (c' := 0) (A' := none) vA1 (Vi.nil _ (k := 1) (by decide)) (by decide) (by decide) (by decide) MA.out.l (by decide) HO1.out
        rw [HN.out, HM1.out, HT1.out] at hc
        refine hc.mono ?_
        rintro e V3 ⟨rfl, bb⟩
        clear hc
        replace vA1 := vA1.to bb
        replace all := all.to bb
        replace HBR := Lib.hid (HBR.out.trans (bb.mono HBR.out.size))
        clear bb
        go_wp2_with fail
        have hc := vfirst_v (c := 0) (A := none) (Vi.nil _ (k := 1) (by decide)) vA1 (by decide) (by decide) (by decide) (by decide) MA.out.l HO2.out
        rw [HN.out, HM2.out, HT2.out] at hc
        refine hc.mono ?_
        rintro e V4 ⟨rfl, bb⟩
        clear hc
        replace vA1 := vA1.to bb
        replace all := all.to bb
        replace HBR := Lib.hid (HBR.out.trans (bb.mono HBR.out.size))
        clear bb
        go_wp2_with fail
        have hc := vequal_v (all.vi mAll.out.qm (by decide)) vA1 (by decide) (by decide) (by decide) mAll.out.l MA.out.l hE.out
        rw [HN.out, HLL.out] at hc
        refine hc.mono ?_
        rintro e V5 ⟨rfl, bb⟩
        clear hc
        replace vA1 := vA1.to bb
        replace all := all.to bb
        replace HBR := Lib.hid (HBR.out.trans (bb.mono HBR.out.size))
        clear bb
        go_wp2_with fail
        have hc := vsign_v vA1 (by decide) (by decide) MA.out.l HS.out
        rw [HN.out] at hc
        refine hc.mono ?_
        rintro e V6 ⟨rfl, bb⟩
        clear hc
        replace vA1 := vA1.to bb
        replace all := all.to bb
        replace HBR := Lib.hid (HBR.out.trans (bb.mono HBR.out.size))
        clear bb
        go_wp2_with fail
        have hc := vresize_v (n := (k : Int) + 3) vA1 (by decide) MA.out.l (by omega)
        rw [HN.out] at hc
        refine hc.mono ?_
        rintro e V7 ⟨A5, c5, es5, rfl, x5, bb⟩
        rw [hF.out]
        clear hc
        replace vA1 := vA1.to bb
        replace all := all.to bb
        replace HBR := Lib.hid (HBR.out.trans (bb.mono HBR.out.size))
        clear bb
        go_wp2_with fail
        have hc := vequal_v (x5.vi MF.out (by decide)) vA1 (by decide) (by decide) (by decide) (by rw [hF.out]; omega) MA.out.l hE2.out
        rw [HN.out, hF.out] at hc
        refine hc.mono ?_
        rintro e V8 ⟨rfl, bb⟩
        clear hc
        replace vA1 := vA1.to bb
        replace all := all.to bb
        replace x5 := x5.to bb
        replace HBR := Lib.hid (HBR.out.trans (bb.mono HBR.out.size))
        clear bb
        go_wp2_with fail
        refine (valive_any _).mono ?_
        rintro e V9 ⟨rfl, bb⟩
        replace vA1 := vA1.to bb
        replace all := all.to bb
        replace x5 := x5.to bb
        replace HBR := Lib.hid (HBR.out.trans (bb.mono HBR.out.size))
        clear bb
        go_wp2
        go_ret
        exact ⟨rfl, HB1.out.trans (HBR.out.mono HB1.out.size)⟩
      · go_wp2_with fail
        have hc := vdot_m vA1 vA1 (by decide) (by decide) MA.out MA.out (by decide)
        rw [HN.out] at hc
        refine hc.mono ?_
        rintro e V1 ⟨y1, y2, y3, y4, rfl, qd, bb⟩
        clear hc
        replace vA1 := vA1.to bb
        replace all := all.to bb
        replace HBR := Lib.hid (HBR.out.trans (bb.mono HBR.out.size))
        clear bb
        go_wp2_with fail
        refine (sign_q (qd.qi MDD.out (by decide)) HD.out).mono ?_
        rintro e V2 ⟨rfl, bb⟩
        clear qd
        replace vA1 := vA1.to bb
        replace all := all.to bb
        replace HBR := Lib.hid (HBR.out.trans (bb.mono HBR.out.size))
        clear bb
        go_wp2_with fail
        have hc := vfirst_v (c' := 0) (A' := none) vA1 (Vi.nil _ (k := 1) (by decide)) (by decide) (by decide) (by decide) MA.out.l (by decide) HO1.out
        rw [HN.out, HM1.out, HT1.out] at hc
        refine hc.mono ?_
        rintro e V3 ⟨rfl, bb⟩
        clear hc
        replace vA1 := vA1.to bb
        replace all := all.to bb
        replace HBR := Lib.hid (HBR.out.trans (bb.mono HBR.out.size))
        clear bb
        go_wp2_with fail
        have hc := vfirst_v (c := 0) (A := none) (Vi.nil _ (k := 1) (by decide)) vA1 (by decide) (by decide) (by decide) (by decide) MA.out.l HO2.out
        rw [HN.out, HM2.out, HT2.out] at hc
        refine hc.mono ?_
        rintro e V4 ⟨rfl, bb⟩
        clear hc
        replace vA1 := vA1.to bb
        replace all := all.to bb
        replace HBR := Lib.hid (HBR.out.trans (bb.mono HBR.out.size))
        clear bb
        go_wp2_with fail
        have hc := vequal_v (all.vi mAll.out.qm (by decide)) vA1 (by decide) (by decide) (by decide) mAll.out.l MA.out.l hE.out
        rw [HN.out, HLL.out] at hc
        refine hc.mono ?_
        rintro e V5 ⟨rfl, bb⟩
        clear hc
        replace vA1 := vA1.to bb
        replace all := all.to bb
        replace HBR := Lib.hid (HBR.out.trans (bb.mono HBR.out.size))
        clear bb
        go_wp2_with fail
        have hc := vsign_v vA1 (by decide) (by decide) MA.out.l HS.out
        rw [HN.out] at hc
        refine hc.mono ?_
        rintro e V6 ⟨rfl, bb⟩
        clear hc
        replace vA1 := vA1.to bb
        replace all := all.to bb
        replace HBR := Lib.hid (HBR.out.trans (bb.mono HBR.out.size))
        clear bb
        go_wp2_with fail
        have hc := vresize_v (n := (k : Int) + 3) vA1 (by decide) MA.out.l (by omega)
        rw [HN.out] at hc
        refine hc.mono ?_
        rintro e V7 ⟨A5, c5, es5, rfl, x5, bb⟩
        rw [hF.out]
        clear hc
        replace vA1 := vA1.to bb
        replace all := all.to bb
        replace HBR := Lib.hid (HBR.out.trans (bb.mono HBR.out.size))
        clear bb
        go_wp2_with fail
        have hc := vequal_v (x5.vi MF.out (by decide)) vA1 (by decide) (by decide) (by decide) (by rw [hF.out]; omega) MA.out.l hE2.out
        rw [HN.out, hF.out] at hc
        refine hc.mono ?_
        rintro e V8 ⟨rfl, bb⟩
        clear hc
        replace vA1 := vA1.to bb
        replace all := all.to bb
        replace x5 := x5.to bb
        replace HBR := Lib.hid (HBR.out.trans (bb.mono HBR.out.size))
        clear bb
        go_wp2_with fail
        refine (valive_any _).mono ?_
        rintro e V9 ⟨rfl, bb⟩
        replace vA1 := vA1.to bb
        replace all := all.to bb
        replace x5 := x5.to bb
        replace HBR := Lib.hid (HBR.out.trans (bb.mono HBR.out.size))
        clear bb
        go_wp2
        go_ret
        exact ⟨rfl, HB1.out.trans (HBR.out.mono HB1.out.size)⟩
      · go_wp2_with fail
        have hc := vdot_m vA1 vA1 (by decide) (by decide) MA.out MA.out (by decide)
        rw [HN.out] at hc
        refine hc.mono ?_
        rintro e V1 ⟨y1, y2, y3, y4, rfl, qd, bb⟩
        clear hc
        replace vA1 := vA1.to bb
        replace all := all.to bb
        replace HBR := Lib.hid (HBR.out.trans (bb.mono HBR.out.size))
        clear bb
        go_wp2_with fail
        refine (sign_q (qd.qi MDD.out (by decide)) HD.out).mono ?_
        rintro e V2 ⟨rfl, bb⟩
        clear qd
        replace vA1 := vA1.to bb
        replace all := all.to bb
        replace HBR := Lib.hid (HBR.out.trans (bb.mono HBR.out.size))
        clear bb
        go_wp2_with fail
        have hc := vfirst_v (c' := 0) (A' := none) vA1 (Vi.nil _ (k := 1) (by decide)) (by decide) (by decide) (by decide) MA.out.l (by decide) HO1.out
        rw [HN.out, HM1.out, HT1.out] at hc
        refine hc.mono ?_
        rintro e V3 ⟨rfl, bb⟩
        clear hc
        replace vA1 := vA1.to bb
        replace all := all.to bb
        replace HBR := Lib.hid (HBR.out.trans (bb.mono HBR.out.size))
        clear bb
        go_wp2_with fail
        have hc := vfirst_v (c := 0) (A := none) (Vi.nil _ (k := 1) (by decide)) vA1 (by decide) (by decide) (by decide) (by decide) MA.out.l HO2.out
        rw [HN.out, HM2.out, HT2.out] at hc
        refine hc.mono ?_
        rintro e V4 ⟨rfl, bb⟩
        clear hc
        replace vA1 := vA1.to bb
        replace all := all.to bb
        replace HBR := Lib.hid (HBR.out.trans (bb.mono HBR.out.size))
        clear bb
        go_wp2_with fail
        have hc := vequal_v (all.vi mAll.out.qm (by decide)) vA1 (by decide) (by decide) (by decide) mAll.out.l MA.out.l hE.out
        rw [HN.out, HLL.out] at hc
        refine hc.mono ?_
        rintro e V5 ⟨rfl, bb⟩
        clear hc
        replace vA1 := vA1.to bb
        replace all := all.to bb
        replace HBR := Lib.hid (HBR.out.trans (bb.mono HBR.out.size))
        clear bb
        go_wp2_with fail
        have hc := vsign_v vA1 (by decide) (by decide) MA.out.l HS.out
        rw [HN.out] at hc
        refine hc.mono ?_
        rintro e V6 ⟨rfl, bb⟩
        clear hc
        replace vA1 := vA1.to bb
        replace all := all.to bb
        replace HBR := Lib.hid (HBR.out.trans (bb.mono HBR.out.size))
        clear bb
        go_wp2_with fail
        have hc := vresize_v (n := (k : Int) + 3) vA1 (by decide) MA.out.l (by omega)
        rw [HN.out] at hc
        refine hc.mono ?_
        rintro e V7 ⟨A5, c5, es5, rfl, x5, bb⟩
        rw [hF.out]
        clear hc
        replace vA1 := vA1.to bb
        replace all := all.to bb
        replace HBR := Lib.hid (HBR.out.trans (bb.mono HBR.out.size))
        clear bb
        go_wp2_with fail
        have hc := vequal_v (x5.vi MF.out (by decide)) vA1 (by decide) (by decide) (by decide) (by rw [hF.out]; omega) MA.out.l hE2.out
        rw [HN.out, hF.out] at hc
        refine hc.mono ?_
        rintro e V8 ⟨rfl, bb⟩
        clear hc
        replace vA1 := vA1.to bb
        replace all := all.to bb
        replace x5 := x5.to bb
        replace HBR := Lib.hid (HBR.out.trans (bb.mono HBR.out.size))
        clear bb
        go_wp2_with fail
        refine (valive_any _).mono ?_
        rintro e V9 ⟨rfl, bb⟩
        replace vA1 := vA1.to bb
        replace all := all.to bb
        replace x5 := x5.to bb
        replace HBR := Lib.hid (HBR.out.trans (bb.mono HBR.out.size))
        clear bb
        go_wp2
        go_ret
        exact ⟨rfl, HB1.out.trans (HBR.out.mono HB1.out.size)⟩

theorem vbasis_any {A : Option Addr} {c : Nat} {es : List E4} {w : World} (hA : VIn w ⟨A, c, es⟩) :
    Calls Tryz.prog 3 #[.slice A es.length c] w fun e w' => e = .returned (.bool true) /\ Below w.heap.size w w' := by
  cases hl : lngV es with
  | true => exact vbasis_long hA hl
  | false =>
    obtain ⟨rs, hv, h20⟩ := hA.vi hl
    exact vbasis_core hA hv h20 hl
end Go.Proofs.YtcgdbdhhoomgiabGreat

namespace Go.Proofs.YtcgdbdhhoomgiabGreat
open Go.ChangeShapes Go.WideShapes Go.ChangeAt Go.RowKit Go.Joins

instance : Inhabited E4 := ⟨E4.z⟩

theorem spot_none {W : World} {a : Addr} {v : Value} (h : W.cell? a = some v) : a.spot = none := by
  unfold World.cell? at h
  split at h
  · split at h
    · cases h
    · rename_i hs
      simpa using hs
  · cases h

theorem open_v {H : Type} {enc : TypeId × Value -> H} {W : World} {base : Nat} {spare : Nat -> Bool} {held : Bool} {r : Reach} {b0 : Nat} {v : Value} {d : DataW H} {p : List MemPlace}
    (hs : ∀ b, spare b = true) (hv : Value.okWide Tryz.prog W r b0 22 v) (h : DataW.Trod enc Tryz.prog W base spare held 22 v d p) :
    ∃ A c es, v = .slice A es.length c /\ VIn W ⟨A, c, es⟩ := by
  obtain ⟨a, len, cap, rfl⟩ := okWide_slice Tryz.underlying22 hv
  obtain ⟨fuel, hf⟩ := h
  replace hf : DataW.trod enc Tryz.prog W base spare held fuel 22 [.slice a len cap] = some (d, p) := hf
  rcases Go.Deep.open_slice Tryz.underlying22 hf with ⟨e1, _⟩ | ⟨ad, l, cp, m, n, D, Pl, e1, hb, hl, hm, hmm, _, hx⟩
  · simp only [List.cons.injEq, Value.slice.injEq, and_true] at e1
    obtain ⟨rfl, rfl, rfl⟩ := e1
    exact ⟨none, 0, [], rfl, ⟨Rq.nil, fun e he => (by cases he), Nat.le_refl _, by decide⟩⟩
  · simp only [List.cons.injEq, Value.slice.injEq, and_true] at e1
    obtain ⟨rfl, rfl, rfl⟩ := e1
    have hlm : len <= m := by rw [hmm]; split <;> omega
    have each : ∀ i, i < len -> ∃ E : E4, (W.cell? (ad.add (i * 4)) = some E.a /\ W.cell? (ad.add (i * 4 + 1)) = some E.b /\ W.cell? (ad.add (i * 4 + 2)) = some E.c /\ W.cell? (ad.add (i * 4 + 3)) = some E.d) /\ ZxE W E := by
      intro i hi
      obtain ⟨cs', h1, h2⟩ := hx i (by omega)
      rw [cellsQ] at h1
      obtain ⟨_, hlen, hcell⟩ := World.cells?_some h1
      match cs', hlen with
      | [c0, c1, c2, c3], _ =>
        have f0 := hcell 0 (by omega)
        have f1 := hcell 1 (by omega)
        have f2 := hcell 2 (by omega)
        have f3 := hcell 3 (by omega)
        rw [Go.Deep.add_add] at f0 f1 f2 f3
        exact ⟨⟨c0, c1, c2, c3⟩, ⟨by simpa using f0, by simpa using f1, by simpa using f2, by simpa using f3⟩, trod_q hs h2⟩
    obtain ⟨E, hE⟩ := Go.Deep.choose_lt each
    have hlen : ((List.range len).map E).length = len := by simp
    refine ⟨some ad, cap, (List.range len).map E, by rw [hlen], ⟨?_, ?_, by show ((List.range len).map E).length <= cap; rw [hlen]; exact hl, by have := hm; unfold maxLen at this; show cap <= _; omega⟩⟩
    · intro k hk
      have hk' : k < len := by rw [<- hlen]; exact hk
      obtain ⟨⟨c0, c1, c2, c3⟩, _⟩ := hE k hk'
      have hsp := spot_none (hE 0 (by omega)).1.1
      obtain ⟨b, o, sp⟩ := ad
      have h0 : (⟨b, o, sp⟩ : Addr).add (0 * 4) = ⟨b, o, sp⟩ := by simp [Addr.add]
      rw [h0] at hsp
      dsimp only at hsp
      subst hsp
      have hadd : ∀ j, (⟨b, o, none⟩ : Addr).add j = ⟨b, o + j, none⟩ := fun j => by
        unfold Addr.add
        by_cases hj : j = 0
        · simp [hj]
        · simp [hj]
      rw [hadd] at c0 c1 c2 c3
      refine ⟨b, o, rfl, World.block_lt_of_cell? W _ c0, ?_⟩
      have he : ((List.range len).map E)[k] = E k := by simp
      show W.cell? ⟨b, o + k * 4, none⟩ = some (((List.range len).map E)[k]).a /\ W.cell? ⟨b, o + k * 4 + 1, none⟩ = some (((List.range len).map E)[k]).b /\ W.cell? ⟨b, o + k * 4 + 2, none⟩ = some (((List.range len).map E)[k]).c /\ W.cell? ⟨b, o + k * 4 + 3, none⟩ = some (((List.range len).map E)[k]).d
      rw [he]
      exact ⟨c0, by rw [<- Nat.add_assoc] at c1; exact c1, by rw [<- Nat.add_assoc] at c2; exact c2, by rw [<- Nat.add_assoc] at c3; exact c3⟩
    · intro e he
      obtain ⟨i, hi, rfl⟩ := List.mem_map.1 he
      exact (hE i (List.mem_range.1 hi)).2
end Go.Proofs.YtcgdbdhhoomgiabGreat
