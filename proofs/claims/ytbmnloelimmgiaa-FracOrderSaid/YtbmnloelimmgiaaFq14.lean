/- Parts: KGcdC, KGcd, RefTimes, RefSmall, AppRun, RefMul, RefSub, RefCmp, RefOps1, RefOps2, Least, RefOps3, RefOps4, RefDiv, RefGcd, RefDivZ, KDivZ, Frac0, Frac1, Frac2, Frac3. -/
import Derived.Test.YtbmnloelimmgiaaFq3
import Derived.Test.YtbmnloelimmgiaaFq4
import Derived.Test.YtbmnloelimmgiaaFq6
import Derived.Test.YtbmnloelimmgiaaFq10
import Derived.Test.YtbmnloelimmgiaaFq11
import Derived.Test.YtbmnloelimmgiaaFq13
import Derived.Deep.AppendSrc
import Derived.Deep.Upon
set_option linter.unusedVariables false
set_option linter.unusedSimpArgs false

namespace Go.Proofs.Ytbmnloelimmgiaa
set_option maxRecDepth 100000
open Go.RowKit Go.Shelf

set_option maxHeartbeats 4000000 in
theorem gx_rt (na nb : Bool) {A A' : Option Addr} {c c' : Nat} {xs ys : List Nat} {w : World} (hx : Arg w A c xs) (hy : Arg w A' c' ys) (hsx : xs.length ≤ 4294967293) (hsy : ys.length ≤ 4294967293) (hlt : val b32 xs < val b32 ys) (hs : 2 < (trimL xs).length) :
    Calls Try.prog 32 #[.agg #[.bool na, .slice A xs.length c], .agg #[.bool nb, .slice A' ys.length c']] w (ZRet w (Nat.gcd (val b32 xs) (val b32 ys) : Nat)) := by
  have HX := Lib.hid hx
  have HY := Lib.hid hy
  have HLT := Lib.hid hlt
  clear hx hy hlt
  obtain ⟨W0, hW0⟩ : ∃ W0, W0 = ((w.alloc (.cells #[.bool na, .slice A xs.length c] 24)).alloc (.cells #[.bool nb, .slice A' ys.length c'] 24)).alloc (.cells #[.bool false, .slice none 0 0] 24) := ⟨_, rfl⟩
  have hb : Below w.heap.size w W0 := by rw [hW0]; exact (((Below.refl _ _).alloc (Nat.le_refl _) _).alloc (by simp) _).alloc (by simp; omega) _
  have tX : Zat W0 w.heap.size (.bool na) (.slice A xs.length c) := by rw [hW0]; exact ((Zat.new w _ _).alloc _).alloc _
  have tY : Zat W0 (w.heap.size + 1) (.bool nb) (.slice A' ys.length c') := by
    have h := Zat.new (w.alloc (.cells #[.bool na, .slice A xs.length c] 24)) (.bool nb) (.slice A' ys.length c')
    rw [World.size_alloc] at h
    rw [hW0]; exact h.alloc _
  have tR : Zat W0 (w.heap.size + 1 + 1) (.bool false) (.slice none 0 0) := by
    have h := Zat.new ((w.alloc (.cells #[.bool na, .slice A xs.length c] 24)).alloc (.cells #[.bool nb, .slice A' ys.length c'] 24)) (.bool false) (.slice none 0 0)
    rw [World.size_alloc, World.size_alloc] at h
    rw [hW0]; exact h
  have q1 := tX.two.c1
  have q2 := tY.two.c1
  have HW0 := Lib.hid hW0
  clear hW0
  go_enter Try.func32, Try.ntmps32
  go_wp2_with fail
  rw [← HW0.out]
  go_quiet ((first | (go_at_call 45; with_reducible exact Calls.quiet_of_same (trim_q (HX.out.to (hb.trans (bel_drewN (Below.refl _ _) _))))) | (go_at_call 45; with_reducible exact Calls.quiet_of_same (trim_q (HY.out.to (hb.trans (bel_drewN (Below.refl _ _) _)))))))
  rename_i nq
  have hb1 : Below w.heap.size w (W0.drewN nq) := bel_drewN hb _
  have tR1 : Zat (W0.drewN nq) (w.heap.size + 1 + 1) (.bool false) (.slice none 0 0) := tR
  generalize W0.drewN nq = W1 at hb1 tR1 ⊢
  clear q1 q2 tX tY tR hb HW0
  go_wp2_with fail
  refine (compare_l (HX.out.to hb1) (HY.out.to hb1)).mono ?_
  obtain ⟨cv, hcv, hcv0⟩ : ∃ cv, cmpN (val b32 xs) (val b32 ys) = cv ∧ cv < 0 := ⟨_, rfl, by have := HLT.out; unfold cmpN; split <;> (try split) <;> omega⟩
  rw [hcv]
  clear hcv
  rintro e w1 ⟨rfl, hb2⟩
  have hb3 := hb1.trans (hb2.mono hb1.size)
  have tR3 : Two w1 (w.heap.size + 1 + 1) _ _ := tR1.two.to hb2
  clear hb1 tR1 hb2
  have ttx : trimL (trimL xs) = trimL xs := by rw [trimL_dig b32_one HX.out.dg, trimL_of_dig b32_one]
  have tty : trimL (trimL ys) = trimL ys := by rw [trimL_dig b32_one HY.out.dg, trimL_of_dig b32_one]
  have AX := Lib.hid (HX.out.to hb3).trim
  have AY := Lib.hid (HY.out.to hb3).trim
  have hsi : (2 : Int) < ((trimL xs).length : Nat) := by omega
  have hll : (trimL xs).length ≤ (trimL ys).length := by
    have h1 := val_lt AY.out.dg
    rw [val_trimL] at h1
    have h2 := HLT.out
    rw [trimL_dig b32_one HX.out.dg]
    exact dig_length_le b32_one (by omega)
  have RD := Lib.hid (reduce_any (G := Nat.gcd (val b32 xs) (val b32 ys)) AY.out AX.out tty hs hll (by rw [val_trimL, val_trimL]; have := HLT.out; omega) (by rw [val_trimL, val_trimL]; exact Nat.gcd_comm _ _) (Nat.le_trans (trimL_le _) (by assumption)))
  clear hs hll
  go_wp2_with fail
  refine RD.out.mono ?_
  rintro e w4 ⟨A5, c5, us, A6, c6, vs, rfl, AU, AV, tu, tv, hv2, hvu, hgg, hul, hbd⟩
  have hb4 := hb3.trans (hbd.mono hb3.size)
  have tR4 := tR3.to hbd
  have AU4 := Lib.hid AU
  have AV4 := Lib.hid AV
  have HGG := Lib.hid hgg
  have hus : us.length ≤ 4294967293 := by have := trimL_le ys; omega
  clear AU AV hgg hul hbd hb3 tR3 RD
  rcases Nat.eq_zero_or_pos (val b32 vs) with hz | hz
  · have hs0 : vs.length = 0 := by rw [← tv, trimL_dig b32_one AV4.out.dg, hz]; rfl
    have hsq : (((vs.length : Nat) : Int) == 0) = true := by rw [hs0]; rfl
    have HZ := Lib.hid hz
    clear hz hs0 hv2 hvu
    obtain ⟨g, eg⟩ : ∃ g : Nat, Hid (Nat.gcd (val b32 xs) (val b32 ys) = g) := ⟨_, rfl⟩
    have HGZ : Hid (zof false (val b32 us) = ((g : Nat) : Int)) := by
      show _ = _
      rw [← eg.out, ← HGG.out, HZ.out, Nat.gcd_zero_right]
      rfl
    have aU := AU4.out
    have dU := aU.dg
    have TRK := Lib.hid tR4
    have HBK := Lib.hid hb4
    go_wp2_with fail
    refine (clone_l aU).mono ?_
    rintro e w8 ⟨A8, c8, rfl, r1, r2, r3, hb8⟩
    have HI := Lib.hid (integer_l false r1 dU r2 r3)
    rw [HGZ.out] at HI
    have tRZ := TRK.out.to hb8
    have HBZ := Lib.hid (HBK.out.trans (hb8.mono HBK.out.size))
    clear r1 hb8
    obtain ⟨z, ez⟩ : ∃ z : Int, Hid (((g : Nat) : Int) = z) := ⟨_, rfl⟩
    rw [ez.out] at HI
    go_wp2_with fail
    refine HI.out.mono ?_
    rintro e w9 ⟨A9, c9, rfl, s1, s2, s3, hb9⟩
    obtain ⟨q1, q2, q3, q4, q5⟩ := tRZ.to hb9
    have S2 := Lib.hid s1
    have HB3 := Lib.hid (HBZ.out.trans (hb9.mono HBZ.out.size))
    clear s1 hb9 tRZ
    go_wp2
    have tF := (⟨q1, q2, q3, q4, q5⟩ : Two w9 (w.heap.size + 1 + 1) _ _).set (.bool (decide (z < 0))) (.slice A9 (dig b32 z.natAbs).length c9)
    refine bodyPost_ret (v := .agg #[.bool (decide (z < 0)), .slice A9 (dig b32 z.natAbs).length c9]) (by simp [results, Try.f32, go_sem, tF.c0, tF.c1]) rfl ?_
    rw [eg.out, ez.out]
    exact zret_stored ⟨q1, q2, q3, q4, q5⟩ (by omega) S2.out s2 s3 HB3.out
  · have hs0 : vs.length ≠ 0 := fun h => by
      have : vs = [] := List.eq_nil_of_length_eq_zero h
      rw [this] at hz
      simp [val] at hz
    have hsq : (((vs.length : Nat) : Int) == 0) = false := by rw [beq_eq_false_iff_ne]; omega
    have lv64 := two_lt AV4.out.dg (by rw [tv]; exact hv2)
    rw [tv] at lv64
    have LV := Lib.hid lv64
    have HZ := Lib.hid hz
    by_cases hl : us.length ≤ 2
    · have hli : ¬ ((2 : Int) < (us.length : Nat)) := by omega
      have lu64 := two_lt AU4.out.dg (by rw [tu]; exact hl)
      rw [tu] at lu64
      have LU := Lib.hid lu64
      clear hz hs0 hv2 hvu hl lv64 lu64
      have hp64 : val b32 us < 18446744073709551616 := LU.out
      have hq64 : val b32 vs < 18446744073709551616 := LV.out
      have aP := AU4.out
      have aQ := AV4.out
      have U1 := Lib.hid (toU64_arg aP hp64)
      have U2 := Lib.hid (toU64_arg aQ hq64)
      have HG1 : Hid (Nat.gcd (val b32 us) (val b32 vs) = Nat.gcd (val b32 xs) (val b32 ys)) := HGG
      have HG0 := gcd_lt hp64 hq64
      have S1 := Lib.hid (smallGCD_any _ _ w4 hp64 hq64)
      rw [HG1.out] at S1 HG0
      obtain ⟨g, eg⟩ : ∃ g : Nat, Hid (Nat.gcd (val b32 xs) (val b32 ys) = g) := ⟨_, rfl⟩
      rw [eg.out] at S1 HG0
      have TRK := Lib.hid tR4
      have HBK := Lib.hid hb4
      clear HG1 hp64 hq64 aP aQ
      go_wp2_with fail
      refine U1.out.mono ?_
      rintro e w' ⟨rfl, rfl⟩
      go_wp2_with fail
      refine U2.out.mono ?_
      rintro e w' ⟨rfl, rfl⟩
      go_wp2_with fail
      refine S1.out.mono ?_
      rintro e w' ⟨rfl, dn, rfl⟩
      go_wp2_with fail
      refine (toWords_l g HG0 _).mono ?_
      rintro e w8 ⟨A8, c8, rfl, r1, r2, r3, hb8⟩
      have HI := Lib.hid (integer_l false r1 (Dg_dig b32_one g) r2 r3)
      rw [val_dig b32_one, show zof false g = ((g : Nat) : Int) from rfl] at HI
      have tRZ := (TRK.out.to (bel_drewN (Below.refl _ _) dn)).to hb8
      have HBZ := Lib.hid ((bel_drewN HBK.out dn).trans (hb8.mono HBK.out.size))
      clear r1 hb8
      obtain ⟨z, ez⟩ : ∃ z : Int, Hid (((g : Nat) : Int) = z) := ⟨_, rfl⟩
      rw [ez.out] at HI
      go_wp2_with fail
      refine HI.out.mono ?_
      rintro e w9 ⟨A9, c9, rfl, s1, s2, s3, hb9⟩
      obtain ⟨q1, q2, q3, q4, q5⟩ := tRZ.to hb9
      have S2 := Lib.hid s1
      have HB3 := Lib.hid (HBZ.out.trans (hb9.mono HBZ.out.size))
      clear s1 hb9 tRZ
      go_wp2
      have tF := (⟨q1, q2, q3, q4, q5⟩ : Two w9 (w.heap.size + 1 + 1) _ _).set (.bool (decide (z < 0))) (.slice A9 (dig b32 z.natAbs).length c9)
      refine bodyPost_ret (v := .agg #[.bool (decide (z < 0)), .slice A9 (dig b32 z.natAbs).length c9]) (by simp [results, Try.f32, go_sem, tF.c0, tF.c1]) rfl ?_
      rw [eg.out, ez.out]
      exact zret_stored ⟨q1, q2, q3, q4, q5⟩ (by omega) S2.out s2 s3 HB3.out
    · have hli : (2 : Int) < (us.length : Nat) := by omega
      have HD := divide_all AU4.out AV4.out hz (by omega)
      rw [tu, tv] at HD
      have HDH := Lib.hid HD
      clear hz hs0 hv2 hvu hl lv64 HD
      go_wp2_with fail
      refine HDH.out.mono ?_
      rintro e w5 ⟨A7, c7, qs, A10, c10, rs, rfl, AQ, AR, vq, vr, hbe⟩
      have hb5 := hb4.trans (hbe.mono hb4.size)
      have tR5 := tR4.to hbe
      have AR5 := Lib.hid AR
      have VR := Lib.hid vr
      have AV5 := Lib.hid (AV4.out.to hbe)
      clear AQ AR vq vr hbe hb4 tR4
      have hp64 : val b32 vs < 18446744073709551616 := LV.out
      have hq64 : val b32 rs < 18446744073709551616 := by rw [VR.out]; have h1 := Nat.mod_lt (val b32 us) HZ.out; have h2 := LV.out; omega
      have aP := AV5.out
      have aQ := AR5.out
      have U1 := Lib.hid (toU64_arg aP hp64)
      have U2 := Lib.hid (toU64_arg aQ hq64)
      have HG1 : Hid (Nat.gcd (val b32 vs) (val b32 rs) = Nat.gcd (val b32 xs) (val b32 ys)) := by show _ = _; rw [VR.out, gm]; exact HGG.out
      have HG0 := gcd_lt hp64 hq64
      have S1 := Lib.hid (smallGCD_any _ _ w5 hp64 hq64)
      rw [HG1.out] at S1 HG0
      obtain ⟨g, eg⟩ : ∃ g : Nat, Hid (Nat.gcd (val b32 xs) (val b32 ys) = g) := ⟨_, rfl⟩
      rw [eg.out] at S1 HG0
      have TRK := Lib.hid tR5
      have HBK := Lib.hid hb5
      clear HG1 hp64 hq64 aP aQ
      go_wp2_with fail
      refine U1.out.mono ?_
      rintro e w' ⟨rfl, rfl⟩
      go_wp2_with fail
      refine U2.out.mono ?_
      rintro e w' ⟨rfl, rfl⟩
      go_wp2_with fail
      refine S1.out.mono ?_
      rintro e w' ⟨rfl, dn, rfl⟩
      go_wp2_with fail
      refine (toWords_l g HG0 _).mono ?_
      rintro e w8 ⟨A8, c8, rfl, r1, r2, r3, hb8⟩
      have HI := Lib.hid (integer_l false r1 (Dg_dig b32_one g) r2 r3)
      rw [val_dig b32_one, show zof false g = ((g : Nat) : Int) from rfl] at HI
      have tRZ := (TRK.out.to (bel_drewN (Below.refl _ _) dn)).to hb8
      have HBZ := Lib.hid ((bel_drewN HBK.out dn).trans (hb8.mono HBK.out.size))
      clear r1 hb8
      obtain ⟨z, ez⟩ : ∃ z : Int, Hid (((g : Nat) : Int) = z) := ⟨_, rfl⟩
      rw [ez.out] at HI
      go_wp2_with fail
      refine HI.out.mono ?_
      rintro e w9 ⟨A9, c9, rfl, s1, s2, s3, hb9⟩
      obtain ⟨q1, q2, q3, q4, q5⟩ := tRZ.to hb9
      have S2 := Lib.hid s1
      have HB3 := Lib.hid (HBZ.out.trans (hb9.mono HBZ.out.size))
      clear s1 hb9 tRZ
      go_wp2
      have tF := (⟨q1, q2, q3, q4, q5⟩ : Two w9 (w.heap.size + 1 + 1) _ _).set (.bool (decide (z < 0))) (.slice A9 (dig b32 z.natAbs).length c9)
      refine bodyPost_ret (v := .agg #[.bool (decide (z < 0)), .slice A9 (dig b32 z.natAbs).length c9]) (by simp [results, Try.f32, go_sem, tF.c0, tF.c1]) rfl ?_
      rw [eg.out, ez.out]
      exact zret_stored ⟨q1, q2, q3, q4, q5⟩ (by omega) S2.out s2 s3 HB3.out

end Go.Proofs.Ytbmnloelimmgiaa

namespace Go.Proofs.Ytbmnloelimmgiaa
set_option maxRecDepth 100000
open Go.RowKit Go.Shelf

/-- GCD in full. -/
theorem gcd_all (na nb : Bool) {A A' : Option Addr} {c c' : Nat} {xs ys : List Nat} {w : World} (hx : Arg w A c xs) (hy : Arg w A' c' ys) (hsx : xs.length ≤ 4294967293) (hsy : ys.length ≤ 4294967293) :
    Calls Try.prog 32 #[.agg #[.bool na, .slice A xs.length c], .agg #[.bool nb, .slice A' ys.length c']] w (ZRet w (Nat.gcd (val b32 xs) (val b32 ys) : Nat)) := by
  have mono : ∀ {us vs : List Nat}, Dg b32 us → Dg b32 vs → val b32 us ≤ val b32 vs → (trimL us).length ≤ (trimL vs).length := fun {us vs} du dv h => by
    have h1 := val_lt (dv.take (trimN vs))
    rw [show vs.take (trimN vs) = trimL vs from rfl, val_trimL] at h1
    rw [trimL_dig b32_one du]
    exact dig_length_le b32_one (by omega)
  rcases Nat.lt_or_ge (val b32 xs) (val b32 ys) with h | h
  · rcases Nat.eq_zero_or_pos (val b32 xs) with h0 | h0
    · exact gx_zt na nb hx hy hsx hsy h h0
    · rcases Nat.lt_or_ge 2 (trimL xs).length with h2 | h2
      · exact gx_rt na nb hx hy hsx hsy h h2
      · rcases Nat.lt_or_ge 2 (trimL ys).length with h3 | h3
        · exact gx_dt na nb hx hy hsx hsy h h0 h3 h2
        · exact gcd_small na nb hx hy h2 h3
  · rcases Nat.eq_zero_or_pos (val b32 ys) with h0 | h0
    · exact gx_zf na nb hx hy hsx hsy h h0
    · rcases Nat.lt_or_ge 2 (trimL ys).length with h2 | h2
      · exact gx_rf na nb hx hy hsx hsy h h2
      · rcases Nat.lt_or_ge 2 (trimL xs).length with h3 | h3
        · exact gx_df na nb hx hy hsx hsy h h0 h3 h2
        · exact gcd_small na nb hx hy h3 h2
end Go.Proofs.Ytbmnloelimmgiaa

namespace Go.Proofs.Ytbmnloelimmgiaa
set_option maxRecDepth 100000
open Go.RowKit Go.Shelf

end Go.Proofs.Ytbmnloelimmgiaa

namespace Go.Proofs.Ytbmnloelimmgiaa
set_option maxRecDepth 100000
open Go.RowKit Go.Shelf

theorem val_drop {b : Nat} {xs : List Nat} {q : Nat} (h : q < xs.length) : val b (xs.drop q) = xs[q] + b * val b (xs.drop (q + 1)) := by
  rw [List.drop_eq_getElem_cons h]; rfl

theorem Dg.drop {b : Nat} {xs : List Nat} (h : Dg b xs) (n : Nat) : Dg b (xs.drop n) := fun d hd => h d (List.mem_of_mem_drop hd)

theorem val_lt3 {xs : List Nat} (h : Dg b16 xs) (hl : xs.length ≤ 3) : val b16 xs < 281474976710656 :=
  Nat.lt_of_lt_of_le (val_lt h) (Nat.le_trans (Nat.pow_le_pow_right (by decide) hl) (by decide))

end Go.Proofs.Ytbmnloelimmgiaa

namespace Go.Proofs.Ytbmnloelimmgiaa
set_option maxRecDepth 100000
open Go.RowKit Go.Shelf

/-- An append of which it is known what it gives. -/
theorem wpList_append_run {P : Program} {ops : Array Oper} {Q : Exit → Act → World → Prop} {rest : List Oper} {o : Oper} {a : Act} {w w' : World} {v u v' : Value}
    (hgd : o.guard = none) (s x : Operand) (t : TypeId) (ho : o.op = .call { callee := .builtin .append, args := #[s, x], argTypes := #[t, t] })
    (hs : a.eval s = v) (hx : a.eval x = u) (hrun : (Builtin.append_ #[t, t] o.type #[v, u]).run P w = .ok v' w') (h : wpList P ops Q rest (a.put o.dst v') w') : wpList P ops Q (o :: rest) a w :=
  wpList_step fun _ hK => step_append_out hgd s x t ho hs hx hrun (hK _ _ h)

end Go.Proofs.Ytbmnloelimmgiaa

namespace Go.Proofs.Ytbmnloelimmgiaa
set_option maxRecDepth 100000
open Go.RowKit Go.Shelf

theorem Hr.of_ret {w' : World} {A : Option Addr} {c n k : Nat} (h : Rd .i64 w' w'.heap.size A (dig b16 n)) (hl : (dig b16 n).length ≤ c) (hc : c ≤ 9223372036854775807) (hn : n < b16 ^ k) (hk : k ≤ 4294967296) : Hr w' A c (dig b16 n) :=
  ⟨h, Dg_dig b16_one n, hl, hc, Nat.le_trans (dig_length_le b16_one hn) hk⟩

theorem Rd.cell {kd : IntKind} {w : World} {B b o : Nat} {xs : List Nat} (h : Rd kd w B (some ⟨b, o, none⟩) xs) {k : Nat} (hk : k < xs.length) : w.cell? ⟨b, o + k, none⟩ = some (.int kd (xs[k] : Nat)) := by
  obtain ⟨b', o', e, _, hc⟩ := h k hk
  injection e with e
  injection e with e1 e2
  subst e1 e2
  exact hc

theorem pow_cut {b n m : Nat} {X Y : Nat} (hX : X < b ^ n) (hY : Y < b ^ m) : X * Y < b ^ (n + m) := by
  rw [Nat.pow_add]; exact Nat.mul_lt_mul'' hX hY

theorem mul_lt_pow {xs ys : List Nat} (hx : Dg b16 xs) (hy : Dg b16 ys) (q : Nat) : val b16 (xs.drop q) * val b16 ys < b16 ^ (xs.length - q + ys.length) := by
  have h1 := val_lt (hx.drop q)
  rw [List.length_drop] at h1
  exact pow_cut h1 (val_lt hy)

end Go.Proofs.Ytbmnloelimmgiaa

namespace Go.Proofs.Ytbmnloelimmgiaa
set_option maxRecDepth 100000
open Go.RowKit Go.Shelf

/-- One digit more of a difference. -/
theorem digit_less {b k : Nat} {S : List Nat} (hl : S.length = k) {X Y l x y d l' : Nat} (h : val b S + Y = X + b ^ k * l) (hv : d + y + l = x + b * l') : val b (S ++ [d]) + (Y + b ^ k * y) = (X + b ^ k * x) + b ^ (k + 1) * l' := by
  rw [val_append, hl, Nat.pow_succ]
  simp only [val, Nat.mul_zero, Nat.add_zero]
  have h1 : b ^ k * (d + y + l) = b ^ k * (x + b * l') := by rw [hv]
  rw [Nat.mul_add, Nat.mul_add, Nat.mul_add, ← Nat.mul_assoc] at h1
  omega

theorem val_take_drop {b : Nat} (ys : List Nat) (k : Nat) : ∃ T, val b ys = val b (ys.take k) + b ^ (ys.take k).length * T := ⟨val b (ys.drop k), by rw [← val_append, List.take_append_drop]⟩

theorem sub_end {k l X : Nat} {S ys : List Nat} (hS : S.length = k) (hdg : Dg b16 S) (h : val b16 S + val b16 (ys.take k) = X + b16 ^ k * l) (hX : X < b16 ^ k) (hle : val b16 ys ≤ X) : val b16 S = X - val b16 ys := by
  have h1 := val_lt hdg
  rw [hS] at h1
  obtain ⟨T, hT⟩ := val_take_drop (b := b16) ys k
  have h0 : val b16 (ys.take k) ≤ val b16 ys := by rw [hT]; exact Nat.le_add_right _ _
  have hl : l = 0 := by
    refine Classical.byContradiction fun hn => ?_
    have : b16 ^ k * 1 ≤ b16 ^ k * l := Nat.mul_le_mul_left _ (by omega)
    omega
  subst hl
  by_cases hk : ys.length ≤ k
  · rw [List.take_of_length_le hk] at h; omega
  · have hlen : (ys.take k).length = k := by rw [List.length_take]; omega
    rw [hlen] at hT
    have hT0 : T = 0 := by
      refine Classical.byContradiction fun hn => ?_
      have : b16 ^ k * 1 ≤ b16 ^ k * T := Nat.mul_le_mul_left _ (by omega)
      omega
    subst hT0
    omega

end Go.Proofs.Ytbmnloelimmgiaa

namespace Go.Proofs.Ytbmnloelimmgiaa
set_option maxRecDepth 100000
open Go.RowKit Go.Shelf

theorem val_pad {b : Nat} (xs : List Nat) (k : Nat) : val b (xs ++ List.replicate k 0) = val b xs := by rw [val_append, val_zeros]; simp
theorem getD_pad (xs : List Nat) (k j : Nat) : (xs ++ List.replicate k 0).getD j 0 = xs.getD j 0 := by
  simp only [List.getD_eq_getElem?_getD, List.getElem?_append]
  split
  · rfl
  · rename_i h
    rw [List.getElem?_eq_none (by omega : xs.length ≤ j), List.getElem?_replicate]
    split <;> rfl
theorem dg_pad {b : Nat} (hb : 0 < b) {xs : List Nat} (h : Dg b xs) (k : Nat) : Dg b (xs ++ List.replicate k 0) := h.app (fun d hd => by rw [List.eq_of_mem_replicate hd]; exact hb)

theorem cmp_at {b : Nat} (hb : 0 < b) {xs ys : List Nat} {m k : Nat} (hx : Dg b xs) (hy : Dg b ys) (h1 : xs.length ≤ m) (h2 : ys.length ≤ m) (hk : k < m) (hs : ∀ j, k < j → xs.getD j 0 = ys.getD j 0) (hne : xs.getD k 0 ≠ ys.getD k 0) :
    cmpN (val b xs) (val b ys) = cmpN (xs.getD k 0) (ys.getD k 0) := by
  have e1 := val_pad (b := b) xs (m - xs.length)
  have e2 := val_pad (b := b) ys (m - ys.length)
  have l1 : (xs ++ List.replicate (m - xs.length) 0).length = m := by simp; omega
  have l2 : (ys ++ List.replicate (m - ys.length) 0).length = m := by simp; omega
  rw [← e1, ← e2, ← getD_pad xs (m - xs.length) k, ← getD_pad ys (m - ys.length) k]
  rw [← getD_pad xs (m - xs.length) k, ← getD_pad ys (m - ys.length) k] at hne
  exact cmpN_of (dg_pad hb hx _) (dg_pad hb hy _) (by rw [l1, l2]) (by rw [l1]; exact hk) (fun j hj _ => by rw [getD_pad, getD_pad]; exact hs j hj) hne
theorem eq_at {b : Nat} {xs ys : List Nat} {m : Nat} (h1 : xs.length ≤ m) (h2 : ys.length ≤ m) (hs : ∀ j, xs.getD j 0 = ys.getD j 0) : val b xs = val b ys := by
  rw [← val_pad (b := b) xs (m - xs.length), ← val_pad (b := b) ys (m - ys.length)]
  rw [eq_of_getD (xs := xs ++ List.replicate (m - xs.length) 0) (ys := ys ++ List.replicate (m - ys.length) 0) (by simp; omega) (fun j _ => by rw [getD_pad, getD_pad]; exact hs j)]

end Go.Proofs.Ytbmnloelimmgiaa

namespace Go.Proofs.Ytbmnloelimmgiaa
set_option maxRecDepth 100000
open Go.RowKit Go.Shelf

theorem Two.toB {W V : World} {g B : Nat} {a b : Value} (h : Two W g a b) (hb : Below B W V) (hg : g < B) : Two V g a b :=
  ⟨(hb.cell (p := ⟨g, 0, none⟩) hg).trans h.c0, (hb.cell (p := ⟨g, 1, none⟩) hg).trans h.c1, (hb.frozen (p := ⟨g, 0, none⟩) hg).trans h.f0, (hb.frozen (p := ⟨g, 1, none⟩) hg).trans h.f1, Nat.lt_of_lt_of_le h.lt hb.size⟩

end Go.Proofs.Ytbmnloelimmgiaa

namespace Go.Proofs.Ytbmnloelimmgiaa
set_option maxRecDepth 100000
open Go.RowKit Go.Shelf

theorem pow_max {b k l m n : Nat} (hb : 2 ≤ b) (h1 : m < b ^ k) (h2 : n < b ^ l) : m + n < b ^ (k + l + 1) := by
  have e1 : b ^ k ≤ b ^ (k + l) := Nat.pow_le_pow_right (by omega) (by omega)
  have e2 : b ^ l ≤ b ^ (k + l) := Nat.pow_le_pow_right (by omega) (by omega)
  have e3 : b ^ (k + l) * 2 ≤ b ^ (k + l) * b := Nat.mul_le_mul_left _ hb
  rw [Nat.pow_succ]; omega


end Go.Proofs.Ytbmnloelimmgiaa

namespace Go.Proofs.Ytbmnloelimmgiaa
set_option maxRecDepth 100000
open Go.RowKit Go.Shelf

theorem lo_word (m : Nat) (hm : m < 18446744073709551616) : ((m : Nat) : Int).tmod 4294967296 % 4294967296 = (m : Int) % 4294967296 := by
  rw [Int.tmod_eq_emod_of_nonneg (by omega)]; omega
theorem hi_word (m : Nat) (hm : m < 18446744073709551616) : IntKind.u64.wrap (((m : Nat) : Int).tdiv 4294967296) % 4294967296 = (m : Int) / 4294967296 := by
  rw [Int.tdiv_eq_ediv_of_nonneg (by omega), IntKind.wrap_u64]; omega

end Go.Proofs.Ytbmnloelimmgiaa

namespace Go.Proofs.Ytbmnloelimmgiaa
set_option maxRecDepth 100000
open Go.RowKit Go.Shelf

/-- Two cells that are an integer of at most 10000 words, in whatever form. -/
def Zl (W : World) (x y : Value) (z : Int) : Prop := ∃ n A c xs, x = .bool n ∧ y = .slice A xs.length c ∧ Arg W A c xs ∧ xs.length ≤ 10000 ∧ zof n (val b32 xs) = z

theorem Zl.to {W V : World} {x y : Value} {z : Int} (h : Zl W x y z) (hb : Below W.heap.size W V) : Zl V x y z := by
  obtain ⟨n, A, c, xs, h1, h2, h3, h4⟩ := h
  exact ⟨n, A, c, xs, h1, h2, h3.to hb, h4⟩
theorem Zl.zi {W : World} {x y : Value} {z : Int} (h : Zl W x y z) : Zi W x y z := by
  obtain ⟨n, A, c, xs, h1, h2, h3, _, h4⟩ := h
  exact ⟨n, A, c, xs, h1, h2, h3, h4⟩
theorem Zc.zl {W : World} {x y : Value} {z : Int} {k : Nat} (h : Zc W x y z) (hs : Sm k z) (hk : k ≤ 10000) : Zl W x y z := by
  obtain ⟨A, c, h1, h2, h3, h4, h5⟩ := h
  have hl := Nat.le_trans (dig_length_le b32_one hs) hk
  exact ⟨_, A, c, _, h1, h2, ⟨h3, Dg_dig b32_one _, h4, h5, by omega⟩, hl, by rw [val_dig b32_one]; exact zof_dec z⟩

section
variable {w : World} {x y x' y' : Value} {a b : Int}
end

theorem dig_len0 {b n : Nat} (hb : 1 < b) : (dig b n).length = 0 ↔ n = 0 :=
  ⟨fun h => (dig_nil hb).1 (List.eq_nil_of_length_eq_zero h), fun h => by rw [h]; rfl⟩

end Go.Proofs.Ytbmnloelimmgiaa

namespace Go.Proofs.Ytbmnloelimmgiaa
set_option maxRecDepth 100000
open Go.RowKit Go.Shelf

theorem cmp_signs {n m : Bool} {x y : Nat} (h : sgn (zof n x) = sgn (zof m y)) : (sgn (zof n x) < 0 → -cmpN x y = cmpZ (zof n x) (zof m y)) ∧ (¬ sgn (zof n x) < 0 → cmpN x y = cmpZ (zof n x) (zof m y)) := by
  have h1 := cmpZ_mag h
  rcases sgn_range (zof n x) with hs | hs | hs
  · rw [hs] at h1 ⊢; exact ⟨fun _ => by omega, fun h => by omega⟩
  · rw [hs] at h1 ⊢
    refine ⟨fun h => by omega, fun _ => ?_⟩
    rw [hs] at h
    have hx : x = 0 := by
      refine Classical.byContradiction fun hn => ?_
      cases n <;> simp only [sgn, zof, Bool.false_eq_true, if_false, if_true] at hs <;> (repeat' split at hs) <;> omega
    have hy : y = 0 := by
      refine Classical.byContradiction fun hn => ?_
      cases m <;> simp only [sgn, zof, Bool.false_eq_true, if_false, if_true] at h <;> (repeat' split at h) <;> omega
    subst hx hy
    rw [← h1]; simp [cmpN]
  · rw [hs] at h1 ⊢; exact ⟨fun h => by omega, fun _ => by omega⟩

end Go.Proofs.Ytbmnloelimmgiaa

namespace Go.Proofs.Ytbmnloelimmgiaa
set_option maxRecDepth 100000
open Go.RowKit Go.Shelf

/-- A call hands back a quotient and a remainder, both trimmed. -/
def HR2 (w : World) (q r : Nat) (e : Ending) (w' : World) : Prop := ∃ A c A' c', e = .returned (.tuple #[.slice A (dig b16 q).length c, .slice A' (dig b16 r).length c']) ∧ Rd .i64 w' w'.heap.size A (dig b16 q) ∧ (dig b16 q).length ≤ c ∧ c ≤ 9223372036854775807 ∧
  Rd .i64 w' w'.heap.size A' (dig b16 r) ∧ (dig b16 r).length ≤ c' ∧ c' ≤ 9223372036854775807 ∧ Below w.heap.size w w'

theorem tdiv_nat (a b : Nat) : ((a : Nat) : Int).tdiv ((b : Nat) : Int) = ((a / b : Nat) : Int) := by rw [Int.tdiv_eq_ediv_of_nonneg (by omega)]; rfl
theorem tmod_nat (a b : Nat) : ((a : Nat) : Int).tmod ((b : Nat) : Int) = ((a % b : Nat) : Int) := by rw [Int.tmod_eq_emod_of_nonneg (by omega)]; rfl

theorem ready_take {P : Program} {ops : Array Oper} {Q : Exit → Act → World → Prop} {md : Region.Mode} {S : World → Prop} {fuel i : Nat} {listed : Array Bool} {d : Option Tmp} {op : Op} {ty : TypeId} {pos : String} {after : Array Edge} {guard : Option (Nat × Bool)} {v : Value} {a : Act} {w : World}
    (ho : ops[i]? = some ⟨d, op, ty, pos, after, guard⟩) (hs : Region.noSelect ops = true) (hf : Region.free md ops listed i = true) (hr : (Region.ready md ops listed).contains i = true) (hw : Region.wanted ⟨d, op, ty, pos, after, guard⟩ (yielded ops a.tmps) = true)
    (hy : ∀ w, S w → (execOp a.eval ⟨d, op, ty, pos, after, guard⟩).run P w = .ok (.value v) w) (hS : S w) (h : wpAnyH P md ops (NoPanic Q) S fuel (listed.setIfInBounds i true) (a.put d v) w) : wpAnyH P md ops (NoPanic Q) S (fuel + 1) listed a w :=
  wpAnyH_take ho hs hf hr (fun _ _ _ h => h) (.inl ⟨hw, hy⟩) hS h

/-- One bit more of a long division. -/
theorem bit_step {P Y b : Nat} (hY : 0 < Y) (hb : b ≤ 1) : (if Y ≤ 2 * (P % Y) + b then 2 * (P / Y) + 1 else 2 * (P / Y)) = (2 * P + b) / Y ∧ (if Y ≤ 2 * (P % Y) + b then 2 * (P % Y) + b - Y else 2 * (P % Y) + b) = (2 * P + b) % Y := by
  have h1 := Nat.mod_add_div P Y
  have h2 := Nat.mod_lt P hY
  obtain ⟨q, eq⟩ : ∃ q, P / Y = q := ⟨_, rfl⟩
  obtain ⟨r, er⟩ : ∃ r, P % Y = r := ⟨_, rfl⟩
  rw [eq, er] at h1 ⊢
  rw [er] at h2
  have h3 : 2 * P + b = 2 * r + b + Y * (2 * q) := by
    rw [← h1, Nat.mul_add, Nat.mul_left_comm]; omega
  split
  · rename_i h
    have h4 : 2 * P + b = (2 * r + b - Y) + Y * (2 * q + 1) := by rw [h3, Nat.mul_add, Nat.mul_one]; omega
    rw [h4, Nat.add_mul_div_left _ _ hY, Nat.add_mul_mod_self_left, Nat.div_eq_of_lt (by omega), Nat.mod_eq_of_lt (by omega)]
    omega
  · rename_i h
    rw [h3, Nat.add_mul_div_left _ _ hY, Nat.add_mul_mod_self_left, Nat.div_eq_of_lt (by omega), Nat.mod_eq_of_lt (by omega)]
    omega

theorem one_len : (dig b16 1).length = 1 := by rw [show dig b16 1 = [1] from by decide]; rfl
theorem unit_new {V : World} : Hr (V.alloc (.cells #[.int .i64 1] 3)) (some ⟨V.heap.size, 0, none⟩) 1 (dig b16 1) ∧ Below V.heap.size V (V.alloc (.cells #[.int .i64 1] 3)) := by
  have hb : Below V.heap.size V (V.alloc (.cells #[.int .i64 1] 3)) := (Below.refl _ _).alloc (Nat.le_refl _) _
  have h1 : Rd .i64 (V.alloc (.cells #[.int .i64 1] 3)) (V.alloc (.cells #[.int .i64 1] 3)).heap.size (some ⟨V.heap.size, 0, none⟩) [1] := (Rd.new .i64 V 3 [1]).more (by simp)
  rw [show dig b16 1 = [1] from by decide]
  exact ⟨⟨h1, Dg.one (by decide), by simp, by decide, by simp⟩, hb⟩
theorem bit_lt {P Y b : Nat} (hY : 0 < Y) (hb : b ≤ 1) (h : P % Y + P % Y + b < Y) : P / Y + P / Y = (2 * P + b) / Y ∧ P % Y + P % Y + b = (2 * P + b) % Y := by
  have h1 := bit_step (P := P) hY hb
  rw [if_neg (by omega), if_neg (by omega)] at h1
  omega
theorem bit_ge {P Y b : Nat} (hY : 0 < Y) (hb : b ≤ 1) (h : Y ≤ P % Y + P % Y + b) : P / Y + P / Y + 1 = (2 * P + b) / Y ∧ P % Y + P % Y + b - Y = (2 * P + b) % Y := by
  have h1 := bit_step (P := P) hY hb
  rw [if_pos (by omega), if_pos (by omega)] at h1
  omega

end Go.Proofs.Ytbmnloelimmgiaa

namespace Go.Proofs.Ytbmnloelimmgiaa
set_option maxRecDepth 100000
open Go.RowKit Go.Shelf

theorem Rd.uniq {kd : IntKind} {w : World} {B : Nat} {A : Option Addr} {xs ys : List Nat} (h : Rd kd w B A xs) (k : Rd kd w B A ys) (hl : xs.length = ys.length) : xs = ys := by
  refine List.ext_getElem hl fun i h1 h2 => ?_
  obtain ⟨b, o, rfl, _, e1⟩ := h i h1
  obtain ⟨b', o', e, _, e2⟩ := k i h2
  simp only [Option.some.injEq, Addr.mk.injEq, and_true] at e
  obtain ⟨rfl, rfl⟩ := e
  rw [e1] at e2
  simp only [Option.some.injEq, Value.int.injEq, true_and] at e2
  exact Int.ofNat.inj e2

open Classical in
/-- The magnitude that a value is in a world. -/
noncomputable def magOf (w : World) (v : Value) : Nat := if h : ∃ n, ∃ A c, v = .slice A (dig b16 n).length c ∧ Rd .i64 w w.heap.size A (dig b16 n) then h.choose else 0
theorem magOf_eq {w : World} {A : Option Addr} {c n : Nat} (h : Rd .i64 w w.heap.size A (dig b16 n)) : magOf w (.slice A (dig b16 n).length c) = n := by
  have hex : ∃ m, ∃ A' c', Value.slice A (dig b16 n).length c = .slice A' (dig b16 m).length c' ∧ Rd .i64 w w.heap.size A' (dig b16 m) := ⟨n, A, c, rfl, h⟩
  unfold magOf
  rw [dif_pos hex]
  obtain ⟨A', c', e, h2⟩ := hex.choose_spec
  injection e with e1 e2 e3
  subst e1
  have h3 := Rd.uniq h2 h e2.symm
  have h4 : val b16 (dig b16 hex.choose) = val b16 (dig b16 n) := by rw [h3]
  rwa [val_dig b16_one, val_dig b16_one] at h4


end Go.Proofs.Ytbmnloelimmgiaa

namespace Go.Proofs.Ytbmnloelimmgiaa
set_option maxRecDepth 100000
open Go.RowKit Go.Shelf

/-- A call hands back two integers and no error. -/
def ZZ (w : World) (a b : Int) (e : Ending) (w' : World) : Prop := ∃ xq yq xr yr, e = .returned (.tuple #[.agg #[xq, yq], .agg #[xr, yr], .int .i64 0]) ∧ Zc w' xq yq a ∧ Zc w' xr yr b ∧ Below w.heap.size w w'


theorem ediv_one {a b q r : Int} (hb : b ≠ 0) (h : a = q * b + r) (h0 : 0 ≤ r) (h1 : r < b.natAbs) : a / b = q ∧ a % b = r := by
  have h2 := Int.emod_add_mul_ediv a b
  have h5 : a % b = r := by
    rw [h, Int.add_comm, Int.mul_comm, Int.add_mul_emod_self_left]
    rcases Int.lt_or_le b 0 with hn | hp
    · rw [← Int.emod_neg, Int.emod_eq_of_lt h0 (by omega)]
    · rw [Int.emod_eq_of_lt h0 (by omega)]
  refine ⟨?_, h5⟩
  have h6 : b * (a / b) = b * q := by rw [Int.mul_comm b q]; omega
  exact Int.eq_of_mul_eq_mul_left hb h6

/-- Division with a sign, by magnitudes. -/
theorem zdiv_f {X Y : Nat} (m : Bool) (hY : 0 < Y) : zof false X / zof m Y = zof m (X / Y) ∧ zof false X % zof m Y = zof false (X % Y) := by
  have h1 := Nat.mod_add_div X Y
  have h2 := Nat.mod_lt X hY
  obtain ⟨q, eq⟩ : ∃ q, X / Y = q := ⟨_, rfl⟩
  obtain ⟨r, er⟩ : ∃ r, X % Y = r := ⟨_, rfl⟩
  rw [eq, er] at h1 ⊢
  rw [er] at h2
  have h3 : (X : Int) = (q : Int) * (Y : Int) + (r : Int) := by rw [← h1, Int.mul_comm]; push_cast; omega
  cases m
  · exact ediv_one (by simp [zof]; omega) (by simpa [zof] using h3) (by simp [zof]) (by simp [zof]; omega)
  · exact ediv_one (by simp [zof]; omega) (by simp only [zof, if_true, Bool.false_eq_true, if_false, Int.neg_mul, Int.mul_neg]; omega) (by simp [zof]) (by simp [zof]; omega)
theorem zdiv_t {X Y : Nat} (m : Bool) (hY : 0 < Y) (hr : X % Y = 0) : zof true X / zof m Y = zof (!m) (X / Y) ∧ zof true X % zof m Y = zof false 0 := by
  have h1 := Nat.mod_add_div X Y
  obtain ⟨q, eq⟩ : ∃ q, X / Y = q := ⟨_, rfl⟩
  rw [hr, eq] at h1
  rw [eq]
  have h3 : (X : Int) = (q : Int) * (Y : Int) := by rw [← h1, Int.mul_comm]; push_cast; omega
  cases m
  · exact ediv_one (by simp [zof]; omega) (by simp only [zof, if_true, Bool.false_eq_true, if_false, Int.neg_mul, Int.mul_neg, Bool.not_false]; omega) (by simp [zof]) (by simp [zof]; omega)
  · exact ediv_one (by simp [zof]; omega) (by simp only [zof, if_true, Bool.false_eq_true, if_false, Int.neg_mul, Int.mul_neg, Bool.not_true]; omega) (by simp [zof]) (by simp [zof]; omega)
theorem zdiv_r {X Y : Nat} (m : Bool) (hY : 0 < Y) (hr : 0 < X % Y) : zof true X / zof m Y = zof (!m) (X / Y + 1) ∧ zof true X % zof m Y = zof false (Y - X % Y) := by
  have h1 := Nat.mod_add_div X Y
  have h2 := Nat.mod_lt X hY
  obtain ⟨q, eq⟩ : ∃ q, X / Y = q := ⟨_, rfl⟩
  obtain ⟨r, er⟩ : ∃ r, X % Y = r := ⟨_, rfl⟩
  rw [eq, er] at h1 ⊢
  rw [er] at h2 hr
  have h3 : (X : Int) = (q : Int) * (Y : Int) + (r : Int) := by rw [← h1, Int.mul_comm]; push_cast; omega
  cases m
  · exact ediv_one (by simp [zof]; omega) (by simp only [zof, if_true, Bool.false_eq_true, if_false, Int.neg_mul, Int.mul_neg, Bool.not_false]; push_cast [Nat.le_of_lt h2]; rw [Int.add_mul]; omega) (by simp [zof]) (by simp [zof]; omega)
  · exact ediv_one (by simp [zof]; omega) (by simp only [zof, if_true, Bool.false_eq_true, if_false, Int.neg_mul, Int.mul_neg, Bool.not_true]; push_cast [Nat.le_of_lt h2]; rw [Int.add_mul]; omega) (by simp [zof]) (by simp [zof]; omega)

end Go.Proofs.Ytbmnloelimmgiaa

namespace Go.Proofs.Ytbmnloelimmgiaa
set_option maxRecDepth 100000
open Go.RowKit Go.Shelf

/-- A call hands back two integers and a number that says what was wrong. -/
def ZE (w : World) (a b : Int) (k : Int) (e : Ending) (w' : World) : Prop := ∃ xq yq xr yr, e = .returned (.tuple #[.agg #[xq, yq], .agg #[xr, yr], .int .i64 k]) ∧ Zc w' xq yq a ∧ Zc w' xr yr b ∧ Below w.heap.size w w'

theorem zc_nil (W : World) : Zc W (.bool false) (.slice none 0 0) 0 := ⟨none, 0, rfl, rfl, Rd.nil, Nat.le_refl _, by decide⟩

theorem DRet.ze {w w' : World} {q r : Int} {e : Ending} (h : DRet w q r e w') : ZE w q r 0 e w' := by
  obtain ⟨A1, c1, A2, c2, rfl, h1, h2, h3, h4, h5, h6, h7⟩ := h
  exact ⟨_, _, _, _, rfl, ⟨A1, c1, rfl, rfl, h1, h3, h4⟩, ⟨A2, c2, rfl, rfl, h2, h5, h6⟩, h7⟩

set_option maxHeartbeats 2000000 in
theorem dx_zero (n m : Bool) {A A' : Option Addr} {c c' : Nat} {xs ys : List Nat} {w : World} (hx : Arg w A c xs) (hy : Arg w A' c' ys) (h0 : val b32 ys = 0) :
    Calls Try.prog 36 #[.agg #[.bool n, .slice A xs.length c], .agg #[.bool m, .slice A' ys.length c']] w (ZE w 0 0 7) := by
  have HX := Lib.hid hx
  have HY := Lib.hid hy
  have hq : ((((trimL ys).length : Nat) : Int) == 0) = true := by
    rw [trimL_dig b32_one hy.dg, h0]; rfl
  clear hx hy h0
  obtain ⟨W0, hW0⟩ : ∃ W0, W0 = (((w.alloc (.cells #[.bool n, .slice A xs.length c] 24)).alloc (.cells #[.bool m, .slice A' ys.length c'] 24)).alloc (.cells #[.bool false, .slice none 0 0] 24)).alloc (.cells #[.bool false, .slice none 0 0] 24) := ⟨_, rfl⟩
  have hb : Below w.heap.size w W0 := by rw [hW0]; exact ((((Below.refl _ _).alloc (Nat.le_refl _) _).alloc (by simp) _).alloc (by simp; omega) _).alloc (by simp; omega) _
  have tX : Zat W0 w.heap.size (.bool n) (.slice A xs.length c) := by rw [hW0]; exact (((Zat.new w _ _).alloc _).alloc _).alloc _
  have tY : Zat W0 (w.heap.size + 1) (.bool m) (.slice A' ys.length c') := by
    have h := Zat.new (w.alloc (.cells #[.bool n, .slice A xs.length c] 24)) (.bool m) (.slice A' ys.length c')
    rw [World.size_alloc] at h
    rw [hW0]; exact (h.alloc _).alloc _
  have tQ : Zat W0 (w.heap.size + 1 + 1) (.bool false) (.slice none 0 0) := by
    have h := Zat.new ((w.alloc (.cells #[.bool n, .slice A xs.length c] 24)).alloc (.cells #[.bool m, .slice A' ys.length c'] 24)) (.bool false) (.slice none 0 0)
    rw [World.size_alloc, World.size_alloc] at h
    rw [hW0]; exact h.alloc _
  have tR : Zat W0 (w.heap.size + 1 + 1 + 1) (.bool false) (.slice none 0 0) := by
    have h := Zat.new (((w.alloc (.cells #[.bool n, .slice A xs.length c] 24)).alloc (.cells #[.bool m, .slice A' ys.length c'] 24)).alloc (.cells #[.bool false, .slice none 0 0] 24)) (.bool false) (.slice none 0 0)
    rw [World.size_alloc, World.size_alloc, World.size_alloc] at h
    rw [hW0]; exact h
  have q1 := tX.two.c1
  have q2 := tY.two.c1
  have HW0 := Lib.hid hW0
  clear hW0
  go_enter Try.func36, Try.ntmps36
  go_wp2_with fail
  rw [← HW0.out]
  go_quiet ((first | (go_at_call 45; with_reducible exact Calls.quiet_of_same (trim_q (HX.out.to (hb.trans (bel_drewN (Below.refl _ _) _))))) | (go_at_call 45; with_reducible exact Calls.quiet_of_same (trim_q (HY.out.to (hb.trans (bel_drewN (Below.refl _ _) _)))))))
  rename_i nq
  have hb1 : Below w.heap.size w (W0.drewN nq) := bel_drewN hb _
  have tX1 : Two (W0.drewN nq) w.heap.size _ _ := tX.two.to (bel_drewN (Below.refl _ _) _)
  have tY1 : Two (W0.drewN nq) (w.heap.size + 1) _ _ := tY.two.to (bel_drewN (Below.refl _ _) _)
  have tQ1 : Two (W0.drewN nq) (w.heap.size + 1 + 1) _ _ := tQ.two.to (bel_drewN (Below.refl _ _) _)
  have tR1 : Two (W0.drewN nq) (w.heap.size + 1 + 1 + 1) _ _ := tR.two.to (bel_drewN (Below.refl _ _) _)
  generalize W0.drewN nq = W1 at hb1 tX1 tY1 tQ1 tR1 ⊢
  clear q1 q2 tX tY tQ tR hb HW0
  have HB := Lib.hid hb1
  have TQ := Lib.hid tQ1
  have TR := Lib.hid tR1
  obtain ⟨g1, g2, g3, g4, g5⟩ := tQ1
  obtain ⟨k1, k2, k3, k4, k5⟩ := tR1
  clear tX1 tY1 hb1 HX HY
  go_wp2
  have tF := TQ.out.set (.bool false) (.slice none 0 0)
  have K1 := Kept.of TQ.out (fun n e => by cases e) (fun n e => by cases e) (.bool false) (.slice none 0 0)
  have tG0 := K1.two _ _ _ (by omega) TR.out
  have tG := tG0.set (.bool false) (.slice none 0 0)
  have K2 := Kept.of tG0 (fun n e => by cases e) (fun n e => by cases e) (.bool false) (.slice none 0 0)
  have tH := K2.two _ _ _ (by omega) tF
  refine bodyPost_ret (v := .tuple #[.agg #[.bool false, .slice none 0 0], .agg #[.bool false, .slice none 0 0], .int .i64 7])
    (by simp [results, Try.f36, go_sem, tH.c0, tH.c1, tG.c0, tG.c1]) rfl ?_
  exact ⟨_, _, _, _, rfl, zc_nil _, zc_nil _, K2.bel _ _ (K1.bel _ _ HB.out (by omega)) (by omega)⟩

/-- The remainder, 0 where the divisor is 0. -/
def dr (a b : Int) : Int := if b = 0 then 0 else a % b
/-- What was wrong. -/
def de (b : Int) : Int := if b = 0 then 7 else 0

theorem dm_x {w : World} {x y x' y' : Value} {a b : Int} (ha : Zl w x y a) (hb : Zl w x' y' b) : Calls Try.prog 36 #[.agg #[x, y], .agg #[x', y']] w (ZE w (a / b) (dr a b) (de b)) := by
  obtain ⟨n, A, c, xs, rfl, rfl, h3, h4, rfl⟩ := ha
  obtain ⟨m, B, d, ys, rfl, rfl, k3, k4, rfl⟩ := hb
  rcases Nat.eq_zero_or_pos (val b32 ys) with hY | hY
  · have e0 : zof m (val b32 ys) = 0 := by rw [hY]; cases m <;> rfl
    unfold dr de
    rw [e0, if_pos rfl, if_pos rfl, Int.ediv_zero]
    exact dx_zero n m h3 k3 hY
  · have e0 : zof m (val b32 ys) ≠ 0 := by cases m <;> simp [zof] <;> omega
    unfold dr de
    rw [if_neg e0, if_neg e0]
    have hl : xs.length ≤ 4294967293 := by omega
    cases n
    · rw [(zdiv_f m hY).1, (zdiv_f m hY).2]
      cases m
      · exact (dx_ff h3 k3 hl hY).mono fun _ _ h => h.ze
      · exact (dx_ft h3 k3 hl hY).mono fun _ _ h => h.ze
    · rcases Nat.eq_zero_or_pos (val b32 xs % val b32 ys) with hr | hr
      · rw [(zdiv_t m hY hr).1, (zdiv_t m hY hr).2]
        cases m
        · have h := dx_tfz h3 k3 hl hY hr
          rw [hr] at h
          exact h.mono fun _ _ h => h.ze
        · have h := dx_ttz h3 k3 hl hY hr
          rw [hr] at h
          exact h.mono fun _ _ h => h.ze
      · rw [(zdiv_r m hY hr).1, (zdiv_r m hY hr).2]
        cases m
        · exact (dx_tfn h3 k3 hl hY hr).mono fun _ _ h => h.ze
        · exact (dx_ttn h3 k3 hl hY hr).mono fun _ _ h => h.ze

theorem gcd_x {w : World} {x y x' y' : Value} {a b : Int} (ha : Zl w x y a) (hb : Zl w x' y' b) : Calls Try.prog 32 #[.agg #[x, y], .agg #[x', y']] w (ZR w (Int.gcd a b : Nat)) := by
  obtain ⟨n, A, c, xs, rfl, rfl, h3, h4, rfl⟩ := ha
  obtain ⟨m, B, d, ys, rfl, rfl, k3, k4, rfl⟩ := hb
  have h := gcd_all n m h3 k3 (by omega) (by omega)
  rw [show Int.gcd (zof n (val b32 xs)) (zof m (val b32 ys)) = Nat.gcd (val b32 xs) (val b32 ys) from by unfold Int.gcd; rw [zof_abs, zof_abs]]
  exact h.mono fun _ _ h => h.zr
end Go.Proofs.Ytbmnloelimmgiaa

namespace Go.Proofs.Ytbmnloelimmgiaa
set_option maxRecDepth 100000
open Go.RowKit Go.Shelf

/-- The size of what the contracts take: 10000 words. -/
def BG : Nat := b32 ^ 10000
def Sg (z : Int) : Prop := z.natAbs < BG

theorem Sg.sm {z : Int} (h : Sg z) : Sm 10000 z := by
  unfold Sg BG at h
  unfold Sm
  exact h
theorem Sm.sg {k : Nat} {z : Int} (h : Sm k z) (hk : k ≤ 10000) : Sg z := by
  have h1 := h.mono hk
  unfold Sm at h1
  unfold Sg BG
  exact h1
theorem sg_lit {z : Int} (h : z.natAbs < 18446744073709551616) : Sg z := by
  have h1 : Sm 2 z := by
    unfold Sm
    rw [show b32 ^ 2 = 18446744073709551616 from by decide]
    exact h
  exact h1.sg (by decide)
theorem Zc.zs {W : World} {x y : Value} {z : Int} (h : Zc W x y z) (hs : Sg z) : Zl W x y z := h.zl hs.sm (Nat.le_refl _)
theorem zl_of {W V : World} {x y : Value} {z : Int} (h : Zl W x y z) (k : Zi W x y z → Zi V x y z) : Zl V x y z := by
  have h1 := k h.zi
  obtain ⟨n, A, c, xs, rfl, rfl, h3, h4, rfl⟩ := h
  obtain ⟨m, B, d, ys, e1, e2, k3, k5⟩ := h1
  simp only [Value.slice.injEq] at e2
  exact ⟨m, B, d, ys, e1, by rw [e2.1, e2.2.1, e2.2.2], k3, by omega, k5⟩
theorem Zl.fs {W : World} {x y : Value} {z : Int} (h : Zl W x y z) : Fs x y := h.zi.fs
theorem Zl.sg {W : World} {x y : Value} {z : Int} (h : Zl W x y z) : Sg z := by
  obtain ⟨n, A, c, xs, rfl, rfl, h3, h4, rfl⟩ := h
  exact (Sm.zof h3.dg h4).sg (Nat.le_refl _)

theorem int64_z {w : World} {x y : Value} {a : Int} (ha : Zi w x y a) : Calls Try.prog 54 #[.agg #[x, y]] w fun e w' => e = .returned (.tuple #[.int .i64 (i64v a), .bool (inI a)]) ∧ Below w.heap.size w w' := by
  obtain ⟨n, A, c, xs, rfl, rfl, h3, rfl⟩ := ha
  exact int64_any n h3

theorem from_z (v : Int) (h1 : -9223372036854775808 ≤ v) (h2 : v ≤ 9223372036854775807) (w : World) : Calls Try.prog 27 #[.int .i64 v] w (ZR w v) :=
  (fromInt64_any v h1 h2 w).mono fun _ _ h => h.zr

theorem zof_natAbs {n : Bool} {a : Nat} : (zof n a).natAbs = a := zof_abs n a

theorem gcd_z {w : World} {x y x' y' : Value} {a b : Int} (ha : Zl w x y a) (hb : Zl w x' y' b) (_sa : Sg a) (_sb : Sg b) : Calls Try.prog 32 #[.agg #[x, y], .agg #[x', y']] w (ZR w (Int.gcd a b : Nat)) := gcd_x ha hb

theorem dm_z {w : World} {x y x' y' : Value} {a b : Int} (ha : Zl w x y a) (hb : Zl w x' y' b) (hb0 : b ≠ 0) (_sa : Sg a) : Calls Try.prog 36 #[.agg #[x, y], .agg #[x', y']] w (DRet w (a / b) (a % b)) := by
  have h := dm_x ha hb
  unfold dr de at h
  rw [if_neg hb0, if_neg hb0] at h
  refine h.mono ?_
  rintro e w' ⟨xq, yq, xr, yr, rfl, ⟨A, c, rfl, rfl, q1, q2, q3⟩, ⟨A', c', rfl, rfl, r1, r2, r3⟩, hb⟩
  exact ⟨A, c, A', c', rfl, q1, r1, q2, q3, r2, r3, hb⟩

/-- Four cells of a rational's variable. -/
structure Four (W : World) (g : Nat) (a b c d : Value) : Prop where
  c0 : W.cell? ⟨g, 0, none⟩ = some a
  c1 : W.cell? ⟨g, 1, none⟩ = some b
  c2 : W.cell? ⟨g, 2, none⟩ = some c
  c3 : W.cell? ⟨g, 3, none⟩ = some d
  f0 : W.frozen? ⟨g, 0, none⟩ = false
  f1 : W.frozen? ⟨g, 1, none⟩ = false
  f2 : W.frozen? ⟨g, 2, none⟩ = false
  f3 : W.frozen? ⟨g, 3, none⟩ = false
  lt : g < W.heap.size

theorem Four.toB {W V : World} {g B : Nat} {a b c d : Value} (h : Four W g a b c d) (hb : Below B W V) (hg : g < B) : Four V g a b c d :=
  ⟨(hb.cell (p := ⟨g, 0, none⟩) hg).trans h.c0, (hb.cell (p := ⟨g, 1, none⟩) hg).trans h.c1, (hb.cell (p := ⟨g, 2, none⟩) hg).trans h.c2, (hb.cell (p := ⟨g, 3, none⟩) hg).trans h.c3,
   (hb.frozen (p := ⟨g, 0, none⟩) hg).trans h.f0, (hb.frozen (p := ⟨g, 1, none⟩) hg).trans h.f1, (hb.frozen (p := ⟨g, 2, none⟩) hg).trans h.f2, (hb.frozen (p := ⟨g, 3, none⟩) hg).trans h.f3, Nat.lt_of_lt_of_le h.lt hb.size⟩
theorem Four.to {W V : World} {g : Nat} {a b c d : Value} (h : Four W g a b c d) (hb : Below W.heap.size W V) : Four V g a b c d := h.toB hb h.lt

theorem Four.of {W : World} {g : Nat} {a b c d : Value} {t : TypeId} (h : W.heap[g]? = some (.cells #[a, b, c, d] t (0, 0))) : Four W g a b c d :=
  ⟨by simp [World.cell?, h], by simp [World.cell?, h], by simp [World.cell?, h], by simp [World.cell?, h], by simp [World.frozen?, h], by simp [World.frozen?, h], by simp [World.frozen?, h], by simp [World.frozen?, h], (Array.getElem?_eq_some_iff.1 h).1⟩
theorem Four.new (W : World) (a b c d : Value) (t : TypeId) : Four (W.alloc (.cells #[a, b, c, d] t)) W.heap.size a b c d := Four.of (World.alloc_heap_new W _)
theorem Four.alloc {W : World} {g : Nat} {a b c d : Value} (h : Four W g a b c d) (o : Obj) : Four (W.alloc o) g a b c d := h.to ((Below.refl _ _).alloc (Nat.le_refl _) _)

/-- The world behind a store of four cells. -/
def put4 (W : World) (g : Nat) (a b c d : Value) : World := (((W.setCell ⟨g, 0, none⟩ a).setCell ⟨g, 1, none⟩ b).setCell ⟨g, 2, none⟩ c).setCell ⟨g, 3, none⟩ d

/-- Four cells that are the rational r in canonical form. -/
def Qc (W : World) (a b c d : Value) (r : Rat) : Prop := Zc W a b r.num ∧ Zc W c d (if r.den = 1 then 0 else (r.den : Int))

theorem Zc.zero (W : World) : Zc W (.bool false) (.slice none 0 0) 0 := ⟨none, 0, rfl, rfl, Rd.nil, Nat.le_refl _, by decide⟩
theorem Qc.to {W V : World} {a b c d : Value} {r : Rat} (h : Qc W a b c d r) (hb : Below W.heap.size W V) : Qc V a b c d r := ⟨h.1.to hb, h.2.to hb⟩

/-- A call hands back the rational r, in canonical form. -/
def QR (w : World) (r : Rat) (e : Ending) (w' : World) : Prop := ∃ a b c d, e = .returned (.agg #[a, b, c, d]) ∧ Qc w' a b c d r ∧ Below w.heap.size w w'
end Go.Proofs.Ytbmnloelimmgiaa

namespace Go.Proofs.Ytbmnloelimmgiaa
set_option maxRecDepth 100000
open Go.RowKit Go.Shelf

theorem inI_one : inI 1 = true ∧ i64v 1 = 1 := inI_t (by decide) (by decide)

set_option maxHeartbeats 2000000 in
theorem isOne_z {w : World} {x y : Value} {a : Int} (ha : Zi w x y a) : Calls Try.prog 31 #[.agg #[x, y]] w fun e w' => e = .returned (.bool (decide (a = 1))) ∧ Below w.heap.size w w' := by
  have hb := Lib.hid ((Below.refl w.heap.size w).alloc (Nat.le_refl _) (.cells #[x, y] 24))
  have HI := Lib.hid (int64_z (ha.to hb.out))
  have hone : a = 1 → inI a = true ∧ i64v a = 1 := by rintro rfl; exact inI_one
  have hne : a ≠ 1 → inI a = true → i64v a ≠ 1 := fun h h1 h2 => by unfold i64v at h2; rw [h1] at h2; exact h h2
  obtain ⟨i, ei⟩ : ∃ i, i64v a = i := ⟨_, rfl⟩
  obtain ⟨so, es⟩ : ∃ s, inI a = s := ⟨_, rfl⟩
  rw [ei, es] at HI hone hne
  have HR : Hid ((so = true ∧ i = 1 ∧ decide (a = 1) = true) ∨ (so = true ∧ i ≠ 1 ∧ decide (a = 1) = false) ∨ (so = false ∧ decide (a = 1) = false)) := by
    by_cases h : a = 1
    · exact .inl ⟨(hone h).1, (hone h).2, decide_eq_true h⟩
    · cases so
      · exact .inr (.inr ⟨rfl, decide_eq_false h⟩)
      · exact .inr (.inl ⟨rfl, hne h rfl, decide_eq_false h⟩)
  clear hone hne ei es ha
  rcases HR.out with ⟨rfl, rfl, hr⟩ | ⟨rfl, hi, hr⟩ | ⟨rfl, hr⟩
  · rw [hr]
    clear hr HR
    go_enter Try.func31, Try.ntmps31
    go_wp2_with fail
    refine HI.out.mono ?_
    rintro e w' ⟨rfl, b⟩
    have HB := Lib.hid (hb.out.trans (b.mono hb.out.size))
    clear b HI
    go_wp2
    go_ret
    exact ⟨rfl, HB.out⟩
  · rw [hr]
    have hi2 : (i == 1) = false := by simpa using hi
    clear hr HR hi
    go_enter Try.func31, Try.ntmps31
    go_wp2_with fail
    refine HI.out.mono ?_
    rintro e w' ⟨rfl, b⟩
    have HB := Lib.hid (hb.out.trans (b.mono hb.out.size))
    clear b HI
    go_wp2
    go_ret
    exact ⟨rfl, HB.out⟩
  · rw [hr]
    clear hr HR
    go_enter Try.func31, Try.ntmps31
    go_wp2_with fail
    refine HI.out.mono ?_
    rintro e w' ⟨rfl, b⟩
    have HB := Lib.hid (hb.out.trans (b.mono hb.out.size))
    clear b HI
    go_wp2
    go_ret
    exact ⟨rfl, HB.out⟩

/-- Behind a store into a rational's variable. -/
structure Kept4 (g : Nat) (w V : World) : Prop where
  two : ∀ g' u v, g' ≠ g → Two w g' u v → Two V g' u v
  four : ∀ g' a b c d, g' ≠ g → Four w g' a b c d → Four V g' a b c d
  zc : ∀ x y z, Zc w x y z → Zc V x y z
  zi : ∀ x y z, Zi w x y z → Zi V x y z
  bel : ∀ B w0, Below B w0 w → B ≤ g → Below B w0 V
  size : V.heap.size = w.heap.size

theorem Kept4.zl {g : Nat} {w V : World} (kp : Kept4 g w V) {x y : Value} {z : Int} (h : Zl w x y z) : Zl V x y z := zl_of h (kp.zi _ _ _)
theorem Kept.zl {g : Nat} {w V : World} (kp : Kept g w V) {x y : Value} {z : Int} (h : Zl w x y z) : Zl V x y z := zl_of h (kp.zi _ _ _)

theorem cell_put4 {W : World} {g : Nat} {a b c d : Value} {p : Addr} (hp : p.block ≠ g) (a' b' c' d' : Value) : (put4 W g a' b' c' d').cell? p = W.cell? p := by
  unfold put4
  rw [World.cell?_setCell_other _ _ _ _ (by intro e; exact hp (by rw [← e])), World.cell?_setCell_other _ _ _ _ (by intro e; exact hp (by rw [← e])), World.cell?_setCell_other _ _ _ _ (by intro e; exact hp (by rw [← e])), World.cell?_setCell_other _ _ _ _ (by intro e; exact hp (by rw [← e]))]
theorem frozen_put4 {W : World} {g : Nat} {p : Addr} (a' b' c' d' : Value) : (put4 W g a' b' c' d').frozen? p = W.frozen? p := by
  unfold put4
  rw [World.frozen?_setCell, World.frozen?_setCell, World.frozen?_setCell, World.frozen?_setCell]
theorem size_put4 {W : World} {g : Nat} (a' b' c' d' : Value) : (put4 W g a' b' c' d').heap.size = W.heap.size := by unfold put4; simp [World.setCell]

/-- Behind it the variable holds what was stored. -/
theorem Four.set {W : World} {g : Nat} {a b c d : Value} (h : Four W g a b c d) (a' b' c' d' : Value) : Four (put4 W g a' b' c' d') g a' b' c' d' := by
  have n01 : (⟨g, 0, none⟩ : Addr) ≠ ⟨g, 1, none⟩ := by simp
  have h0 : ((W.setCell ⟨g, 0, none⟩ a')).cell? ⟨g, 0, none⟩ = some a' := World.cell?_setCell_same' _ _ _ (by rw [h.c0]; rfl)
  have h1 : ((W.setCell ⟨g, 0, none⟩ a').setCell ⟨g, 1, none⟩ b').cell? ⟨g, 1, none⟩ = some b' := World.cell?_setCell_same' _ _ _ (by rw [World.cell?_setCell_other _ _ _ _ (by simp), h.c1]; rfl)
  have h2 : (((W.setCell ⟨g, 0, none⟩ a').setCell ⟨g, 1, none⟩ b').setCell ⟨g, 2, none⟩ c').cell? ⟨g, 2, none⟩ = some c' := World.cell?_setCell_same' _ _ _ (by rw [World.cell?_setCell_other _ _ _ _ (by simp), World.cell?_setCell_other _ _ _ _ (by simp), h.c2]; rfl)
  have h3 : (put4 W g a' b' c' d').cell? ⟨g, 3, none⟩ = some d' := World.cell?_setCell_same' _ _ _ (by rw [World.cell?_setCell_other _ _ _ _ (by simp), World.cell?_setCell_other _ _ _ _ (by simp), World.cell?_setCell_other _ _ _ _ (by simp), h.c3]; rfl)
  refine ⟨?_, ?_, ?_, h3, by rw [frozen_put4]; exact h.f0, by rw [frozen_put4]; exact h.f1, by rw [frozen_put4]; exact h.f2, by rw [frozen_put4]; exact h.f3, by rw [size_put4]; exact h.lt⟩
  · unfold put4
    rw [World.cell?_setCell_other _ _ _ _ (by simp), World.cell?_setCell_other _ _ _ _ (by simp), World.cell?_setCell_other _ _ _ _ (by simp)]; exact h0
  · unfold put4
    rw [World.cell?_setCell_other _ _ _ _ (by simp), World.cell?_setCell_other _ _ _ _ (by simp)]; exact h1
  · unfold put4
    rw [World.cell?_setCell_other _ _ _ _ (by simp)]; exact h2

theorem Rd.put4 {kd : IntKind} {w : World} {B g : Nat} {A : Option Addr} {xs : List Nat} {a b c d : Value} (t : Four w g a b c d) (h1 : ∀ n : Int, a ≠ .int kd n) (h2 : ∀ n : Int, b ≠ .int kd n) (h3 : ∀ n : Int, c ≠ .int kd n) (h4 : ∀ n : Int, d ≠ .int kd n) (h : Rd kd w B A xs) (a' b' c' d' : Value) : Rd kd (put4 w g a' b' c' d') B A xs := by
  intro k hk
  obtain ⟨b0, o, rfl, hb, hc⟩ := h k hk
  refine ⟨b0, o, rfl, hb, ?_⟩
  have hne : ∀ (j : Nat) (u : Value), w.cell? ⟨g, j, none⟩ = some u → (∀ n : Int, u ≠ .int kd n) → (⟨g, j, none⟩ : Addr) ≠ ⟨b0, o + k, none⟩ := fun j u hu hn e => by
    rw [e, hc] at hu
    injection hu with hu
    exact hn _ hu.symm
  unfold Go.Proofs.Ytbmnloelimmgiaa.put4
  rw [World.cell?_setCell_other _ _ _ _ (hne 3 d t.c3 h4), World.cell?_setCell_other _ _ _ _ (hne 2 c t.c2 h3), World.cell?_setCell_other _ _ _ _ (hne 1 b t.c1 h2), World.cell?_setCell_other _ _ _ _ (hne 0 a t.c0 h1)]
  exact hc

/-- A rational's cells: flags and slices. -/
def Fq (a b c d : Value) : Prop := Fs a b ∧ Fs c d
theorem Fs.nint {kd : IntKind} {x y : Value} (h : Fs x y) : (∀ n : Int, x ≠ .int kd n) ∧ (∀ n : Int, y ≠ .int kd n) := by
  obtain ⟨n, A, k, c, rfl, rfl⟩ := h
  exact ⟨(fun n e => by cases e), (fun n e => by cases e)⟩

theorem Kept4.of {w : World} {g : Nat} {a b c d : Value} (t : Four w g a b c d) (f : Fq a b c d) (a' b' c' d' : Value) : Kept4 g w (put4 w g a' b' c' d') := by
  have hr : ∀ A xs, Rd .u32 w w.heap.size A xs → Rd .u32 (put4 w g a' b' c' d') (put4 w g a' b' c' d').heap.size A xs := fun A xs h => by
    rw [size_put4]
    exact Rd.put4 t f.1.nint.1 f.1.nint.2 f.2.nint.1 f.2.nint.2 h _ _ _ _
  refine ⟨fun g' u v hne t' => ?_, fun g' p q r s hne t' => ?_, ?_, ?_, fun B w0 h hg => ?_, size_put4 _ _ _ _⟩
  · exact ⟨(cell_put4 (a := a) (b := b) (c := c) (d := d) hne _ _ _ _).trans t'.c0, (cell_put4 (a := a) (b := b) (c := c) (d := d) hne _ _ _ _).trans t'.c1, (frozen_put4 _ _ _ _).trans t'.f0, (frozen_put4 _ _ _ _).trans t'.f1, by rw [size_put4]; exact t'.lt⟩
  · exact ⟨(cell_put4 (a := a) (b := b) (c := c) (d := d) hne _ _ _ _).trans t'.c0, (cell_put4 (a := a) (b := b) (c := c) (d := d) hne _ _ _ _).trans t'.c1, (cell_put4 (a := a) (b := b) (c := c) (d := d) hne _ _ _ _).trans t'.c2, (cell_put4 (a := a) (b := b) (c := c) (d := d) hne _ _ _ _).trans t'.c3,
      (frozen_put4 _ _ _ _).trans t'.f0, (frozen_put4 _ _ _ _).trans t'.f1, (frozen_put4 _ _ _ _).trans t'.f2, (frozen_put4 _ _ _ _).trans t'.f3, by rw [size_put4]; exact t'.lt⟩
  · rintro x y z ⟨A, c, h1, h2, h3, h4, h5⟩
    exact ⟨A, c, h1, h2, hr _ _ h3, h4, h5⟩
  · rintro x y z ⟨n, A, c, xs, h1, h2, ⟨r1, r2, r3, r4, r5⟩, h4⟩
    exact ⟨n, A, c, xs, h1, h2, ⟨hr _ _ r1, r2, r3, r4, r5⟩, h4⟩
  · exact (((h.setCell (p := ⟨g, 0, none⟩) hg _).setCell (p := ⟨g, 1, none⟩) hg _).setCell (p := ⟨g, 2, none⟩) hg _).setCell (p := ⟨g, 3, none⟩) hg _

section
variable {ac : Act} {w : World} {K : Act → World → Prop} {Q : Exit → Act → World → Prop} {d : Option Tmp} {ty : TypeId} {pos : String} {after : Array Edge} {guard : Option (Nat × Bool)}

theorem wp_alloc_four (h : ∀ (g : Nat) (V : World), Four V g (.bool false) (.slice none 0 0) (.bool false) (.slice none 0 0) → Below w.heap.size w V → w.heap.size ≤ g → K (ac.put d (.pointer (some ⟨g, 0, none⟩))) V) :
    Oper.wp Try.prog ⟨d, .alloc 26, ty, pos, after, guard⟩ ac w K Q := by
  have h1 := h _ _ (Four.new w (.bool false) (.slice none 0 0) (.bool false) (.slice none 0 0) 26) ((Below.refl _ _).alloc (Nat.le_refl _) _) (Nat.le_refl _)
  go_simp
  exact h1

theorem wp_store_four {g : Nat} {a b c e a0 b0 c0 e0 : Value} {p v : Operand} (hp : ac.eval p = .pointer (some ⟨g, 0, none⟩)) (hv : ac.eval v = .agg #[a, b, c, e]) (t : Four w g a0 b0 c0 e0) (f0 : Fq a0 b0 c0 e0) (f1 : Fq a b c e)
    (h : ∀ V : World, Four V g a b c e → Kept4 g w V → K (ac.put d undef) V) :
    Oper.wp Try.prog ⟨d, .store 26 p v, ty, pos, after, guard⟩ ac w K Q := by
  have h1 := h _ (t.set a b c e) (Kept4.of t f0 a b c e)
  obtain ⟨⟨n1, A1, k1, l1, rfl, rfl⟩, ⟨n2, A2, k2, l2, rfl, rfl⟩⟩ := f1
  have u0 := t.c0
  have u1 := t.c1
  have u2 := t.c2
  have u3 := t.c3
  have v0 := t.f0
  have v1 := t.f1
  have v2 := t.f2
  have v3 := t.f3
  clear h t
  unfold put4 at h1
  simp only [Oper.wp, execOp, hp, hv]
  go_simp
  exact h1
end
end Go.Proofs.Ytbmnloelimmgiaa

namespace Go.Proofs.Ytbmnloelimmgiaa
set_option maxRecDepth 100000
open Go.RowKit Go.Shelf

theorem Zi.zero (W : World) : Zi W (.bool false) (.slice none 0 0) 0 := ⟨false, none, 0, [], rfl, rfl, ⟨Rd.nil, Dg.nil, by simp, by decide, by simp⟩, rfl⟩

theorem Four.far {w : World} {g g' : Nat} {a b c d : Value} (t : Four w g' a b c d) (hne : g' ≠ g) (u v : Value) : Four ((w.setCell ⟨g, 0, none⟩ u).setCell ⟨g, 1, none⟩ v) g' a b c d := by
  refine ⟨?_, ?_, ?_, ?_, ?_, ?_, ?_, ?_, by simpa [World.setCell] using t.lt⟩
  all_goals first
    | (rw [World.frozen?_setCell, World.frozen?_setCell]; first | exact t.f0 | exact t.f1 | exact t.f2 | exact t.f3)
    | (rw [World.cell?_setCell_other _ _ _ _ (by simp [Ne.symm hne]), World.cell?_setCell_other _ _ _ _ (by simp [Ne.symm hne])]; first | exact t.c0 | exact t.c1 | exact t.c2 | exact t.c3)

theorem pack2 {V : World} {g : Nat} {x0 y0 : Value} (t : Two V g x0 y0) (f : Fs x0 y0) (a b : Value) : ∃ V', (V.setCell ⟨g, 0, none⟩ a).setCell ⟨g, 1, none⟩ b = V' ∧ Two V' g a b ∧ Kept g V V' ∧ ∀ g' p q r s, g' ≠ g → Four V g' p q r s → Four V' g' p q r s :=
  ⟨_, rfl, t.set a b, Kept.of t f.nint.1 f.nint.2 a b, fun _ _ _ _ _ hne h => h.far hne a b⟩

theorem pack4 {V : World} {g : Nat} {a0 b0 c0 d0 : Value} (t : Four V g a0 b0 c0 d0) (f : Fq a0 b0 c0 d0) (a b c d : Value) : ∃ V', (((V.setCell ⟨g, 0, none⟩ a).setCell ⟨g, 1, none⟩ b).setCell ⟨g, 2, none⟩ c).setCell ⟨g, 3, none⟩ d = V' ∧ Four V' g a b c d ∧ Kept4 g V V' :=
  ⟨_, rfl, t.set a b c d, Kept4.of t f a b c d⟩

theorem Fq.nil : Fq (.bool false) (.slice none 0 0) (.bool false) (.slice none 0 0) := ⟨Fs.nil, Fs.nil⟩

set_option maxHeartbeats 4000000 in
theorem fromInteger_z {w : World} {x y : Value} {a : Int} (ha : Zi w x y a) : Calls Try.prog 16 #[.agg #[x, y]] w (QR w (a : Rat)) := by
  obtain ⟨W0, hW0⟩ : ∃ W0, W0 = (w.alloc (.cells #[x, y] 24)).alloc (.cells #[.bool false, .slice none 0 0, .bool false, .slice none 0 0] 26) := ⟨_, rfl⟩
  have hb : Below w.heap.size w W0 := by rw [hW0]; exact ((Below.refl _ _).alloc (Nat.le_refl _) _).alloc (by simp) _
  have tX : Two W0 w.heap.size x y := by rw [hW0]; exact (Two.new w _ _ _).alloc _
  have tR : Four W0 (w.heap.size + 1) (.bool false) (.slice none 0 0) (.bool false) (.slice none 0 0) := by
    have h := Four.new (w.alloc (.cells #[x, y] 24)) (.bool false) (.slice none 0 0) (.bool false) (.slice none 0 0) 26
    rw [World.size_alloc] at h
    rw [hW0]; exact h
  have HW0 := Lib.hid hW0
  have HA := Lib.hid (add_z (ha.to hb) (Zi.zero W0))
  rw [Int.add_zero] at HA
  have HB0 := Lib.hid hb
  clear hW0 ha hb
  go_enter Try.func16, Try.ntmps16
  go_wp2_with fail
  rw [← HW0.out]
  have k0 := tX.c0
  have k1 := tX.c1
  go_wp2_with fail
  refine HA.out.mono ?_
  rintro e V ⟨xr, yr, rfl, rz, bb⟩
  have t4 := tR.to bb
  have HB := Lib.hid (HB0.out.trans (bb.mono HB0.out.size))
  have RZ := Lib.hid rz
  obtain ⟨A3, c3, rfl, rfl, -⟩ := rz
  obtain ⟨V2, eV, u, kp⟩ := pack4 t4 Fq.nil (.bool (decide (a < 0))) (.slice A3 (dig b32 a.natAbs).length c3) (.bool false) (.slice none 0 0)
  obtain ⟨v0, v1, v2, v3, v4, v5, v6, v7, _⟩ := t4
  have EV := Lib.hid eV
  have KP := Lib.hid kp
  have U := Lib.hid u
  clear k0 k1 eV kp u bb HA tX tR
  go_wp2
  rw [EV.out]
  refine bodyPost_ret (v := .agg #[.bool (decide (a < 0)), .slice A3 (dig b32 a.natAbs).length c3, .bool false, .slice none 0 0]) (by simp [results, Try.f16, go_sem, U.out.c0, U.out.c1, U.out.c2, U.out.c3]) rfl ?_
  exact ⟨_, _, _, _, rfl, ⟨KP.out.zc _ _ _ RZ.out, Zc.zero V2⟩, KP.out.bel _ _ HB.out (by omega)⟩
end Go.Proofs.Ytbmnloelimmgiaa

namespace Go.Proofs.Ytbmnloelimmgiaa
set_option maxRecDepth 100000
open Go.RowKit Go.Shelf

/-- The divisor that brings a/b into canonical form. -/
def cmn (a b : Int) : Int := if b < 0 then -(Int.gcd a b : Int) else (Int.gcd a b : Int)

theorem cmn_num (a b : Int) (hb : b ≠ 0) : a / cmn a b = (Rat.divInt a b).num := by
  rw [Rat.num_divInt]
  unfold cmn
  have hg : ((b.gcd a : Nat) : Int) ∣ a := Int.gcd_dvd_right ..
  split
  · rename_i h
    rw [Int.sign_eq_neg_one_of_neg h, Int.ediv_neg, Int.gcd_comm a b, Int.neg_mul, Int.one_mul, Int.neg_ediv_of_dvd hg]
  · rename_i h
    rw [Int.sign_eq_one_of_pos (by omega), Int.gcd_comm a b, Int.one_mul]
theorem cmn_den (a b : Int) (hb : b ≠ 0) : b / cmn a b = ((Rat.divInt a b).den : Int) := by
  rw [Rat.den_divInt, if_neg hb]
  unfold cmn
  have hg : ((b.gcd a : Nat) : Int) ∣ b := Int.gcd_dvd_left ..
  rw [Int.gcd_comm a b, Int.natCast_ediv]
  split
  · rename_i h
    rw [Int.ediv_neg, show ((b.natAbs : Nat) : Int) = -b from by omega, Int.neg_ediv_of_dvd hg]
  · rename_i h
    rw [show ((b.natAbs : Nat) : Int) = b from by omega]
theorem cmn_ne (a b : Int) (hb : b ≠ 0) : cmn a b ≠ 0 := by
  have h : Int.gcd a b ≠ 0 := fun h => hb (Int.gcd_eq_zero_iff.1 h).2
  unfold cmn
  split <;> omega

theorem divInt_one (a : Int) : Rat.divInt a 1 = (a : Rat) := by
  apply Rat.ext
  · rw [Rat.num_divInt]; simp
  · rw [Rat.den_divInt]; simp

theorem sign_v {w : World} {x y : Value} {a v : Int} (h : Zl w x y a) (hv : sgn a = v) : Calls Try.prog 29 #[.agg #[x, y]] w fun e w' => e = .returned (.int .i64 v) ∧ Below w.heap.size w w' := by
  subst hv; exact sign_z h.zi
theorem isOne_v {w : World} {x y : Value} {a : Int} {v : Bool} (ha : Zl w x y a) (hv : decide (a = 1) = v) : Calls Try.prog 31 #[.agg #[x, y]] w fun e w' => e = .returned (.bool v) ∧ Below w.heap.size w w' := by
  subst hv; exact isOne_z ha.zi
theorem Sg.num {a b : Int} (sa : Sg a) (hb : b ≠ 0) : Sg (Rat.divInt a b).num := by
  rw [← cmn_num a b hb]
  unfold Sg at *
  have h1 : (a / cmn a b).natAbs ≤ a.natAbs := Int.natAbs_ediv_le_natAbs _ _
  omega
theorem Sg.den {a b : Int} (sb : Sg b) (hb : b ≠ 0) : Sg ((Rat.divInt a b).den : Int) := by
  rw [← cmn_den a b hb]
  unfold Sg at *
  have h1 : (b / cmn a b).natAbs ≤ b.natAbs := Int.natAbs_ediv_le_natAbs _ _
  omega
end Go.Proofs.Ytbmnloelimmgiaa
