/- Parts: RefMul, RefSub, RefCmp, Diff, U64, From, Same. -/
import Derived.Test.YtlnjnoingiohjaaMa3
import Derived.Test.YtlnjnoingiohjaaMa4
import Derived.BigQuiet
import Derived.Deep.AppendSrc
import Derived.Deep.QuietTactic
import Derived.Deep.Upon
import Derived.RegionTactic
set_option linter.unusedVariables false

namespace Go.Proofs.Ytlnjnoingiohjaa
open Go.RowKit Go.Shelf

theorem Hr.of_ret {w' : World} {A : Option Addr} {c n k : Nat} (h : Rd .i64 w' w'.heap.size A (dig b16 n)) (hl : (dig b16 n).length ≤ c) (hc : c ≤ 9223372036854775807) (hn : n < b16 ^ k) (hk : k ≤ 4294967296) : Hr w' A c (dig b16 n) :=
  ⟨h, Dg_dig b16_one n, hl, hc, Nat.le_trans (dig_length_le b16_one hn) hk⟩

/-- A zero ahead of a row: in new memory. -/
theorem append_zero {wr : World} {base : Nat} (hbase : base ≤ wr.heap.size) {A1 : Option Addr} {c1 : Nat} {O : List Nat} (h : Rd .i64 wr wr.heap.size A1 O) (hs : O.length ≤ 4294967296) {i : TypeInfo} (hi : Try.prog.info? 3 = some i) (hz0 : i.zero = some (.int .i64 0)) (hz1 : i.size = 1) (hz2 : i.bytes = 8) :
    ∃ A2 c2 w1, (Builtin.append_ #[50, 50] 50 #[.slice (some ⟨wr.heap.size, 0, none⟩) 1 1, .slice A1 O.length c1]).run Try.prog (wr.alloc (.cells #[.int .i64 0] 3)) = .ok (.slice A2 (0 :: O).length c2) w1 ∧
      w1.ownsRow base 3 1 (.slice A2 (0 :: O).length c2) (0 :: O).length (ints .i64 (0 :: O)) ∧ Below wr.heap.size wr w1 := by
  have hown : (wr.alloc (.cells #[.int .i64 0] 3)).ownsRow base 3 1 (.slice (some ⟨wr.heap.size, 0, none⟩) 1 1) 1 (ints .i64 [0]) := by
    have h := World.ownsRow_lit (base := base) (e := 3) (size := 1) wr #[.int .i64 0] 1 hbase (by decide) (by simp)
    simpa [ints] using h
  have hb : Below wr.heap.size wr (wr.alloc (.cells #[.int .i64 0] 3)) := (Below.refl _ _).alloc (Nat.le_refl _) _
  cases A1 with
  | none =>
    have hO : O = [] := by
      cases O with
      | nil => rfl
      | cons d r => obtain ⟨b, o, e, _⟩ := h 0 (by simp); cases e
    subst hO
    exact ⟨some ⟨wr.heap.size, 0, none⟩, 1, _, run_append_nothing _ 50 50 50 3 i Try.underlying50 hi _ 1 1 (Nat.le_refl _) _ (Src.ofNil _ Try.underlying50 c1), by simpa using hown, hb⟩
  | some a =>
    obtain ⟨v', w1, hrun, hown', hgrow, _, _⟩ := run_append_own_at (P := Try.prog) (wr.alloc (.cells #[.int .i64 0] 3)) base 50 50 3 i (.int .i64 0) 1 8
      Try.underlying50 hi hz0 hz1 hz2 rfl (by decide) _ 1 _ hown a O.length c1 (ints .i64 O) (by simp [ints]) (Rd.news h hb) (by
        intro u hu
        obtain ⟨d, _, rfl⟩ := List.mem_map.1 hu
        rfl) (by unfold maxLen; omega) (by omega) (by simp; omega)
    obtain ⟨A2, c2, rfl⟩ := own_shape hown'
    have e1 : 1 + O.length = (0 :: O).length := by simp; omega
    rw [e1] at hrun hown'
    refine ⟨A2, c2, w1, hrun, by simpa [ints] using hown', hb.grown hgrow (by simp) (fun j e => ?_)⟩
    have : wr.heap.size = j := by simpa [Value.ownBlock] using e
    omega

/-- An append of which it is known what it gives. -/
theorem wpList_append_run {P : Program} {ops : Array Oper} {Q : Exit → Act → World → Prop} {rest : List Oper} {o : Oper} {a : Act} {w w' : World} {v u v' : Value}
    (hgd : o.guard = none) (s x : Operand) (t : TypeId) (ho : o.op = .call { callee := .builtin .append, args := #[s, x], argTypes := #[t, t] })
    (hs : a.eval s = v) (hx : a.eval x = u) (hrun : (Builtin.append_ #[t, t] o.type #[v, u]).run P w = .ok v' w') (h : wpList P ops Q rest (a.put o.dst v') w') : wpList P ops Q (o :: rest) a w :=
  wpList_step fun _ hK => step_append_out hgd s x t ho hs hx hrun (hK _ _ h)

theorem Rd.cell {kd : IntKind} {w : World} {B b o : Nat} {xs : List Nat} (h : Rd kd w B (some ⟨b, o, none⟩) xs) {k : Nat} (hk : k < xs.length) : w.cell? ⟨b, o + k, none⟩ = some (.int kd (xs[k] : Nat)) := by
  obtain ⟨b', o', e, _, hc⟩ := h k hk
  injection e with e
  injection e with e1 e2
  subst e1 e2
  exact hc

theorem pow_cut {b n m : Nat} {X Y : Nat} (hX : X < b ^ n) (hY : Y < b ^ m) : X * Y < b ^ (n + m) := by
  rw [Nat.pow_add]; exact Nat.mul_lt_mul'' hX hY

theorem mul_lt_pow {xs ys : List Nat} (hx : Dg b16 xs) (hy : Dg b16 ys) (q : Nat) : val b16 (xs.drop q) * val b16 ys < b16 ^ (xs.length - q + ys.length) := by
  have h1 := val_lt (hx.drop q)
  rw [List.length_drop] at h1
  exact pow_cut h1 (val_lt hy)

set_option maxRecDepth 100000 in
set_option maxHeartbeats 4000000 in
theorem rmul_long {A A' : Option Addr} {c c' : Nat} {xs ys : List Nat} {w : World} (hx : Hr w A c xs) (hy : Hr w A' c' ys) (hl : xs.length + ys.length ≤ 1000000) (h3 : ¬ xs.length + ys.length ≤ 3) :
    Calls Try.prog 55 #[.slice A xs.length c, .slice A' ys.length c'] w (HRet w (val b16 xs * val b16 ys)) := by
  obtain ⟨i0, hi, hz0, hz1, hz2⟩ := info_parts infoInt
  obtain ⟨n, en⟩ : ∃ n, Hid (val b16 xs * val b16 ys = n) := ⟨_, rfl⟩
  rw [en.out]
  have HX := Lib.hid hx
  have HY := Lib.hid hy
  have HI := Lib.hid (⟨hi, hz0, hz1, hz2⟩ : _ ∧ _ ∧ _ ∧ _)
  clear hx hy hi hz0 hz1 hz2
  have h3' : ¬ ((xs.length : Int) + (ys.length : Int) ≤ 3) := by omega
  go_enter Try.func55, Try.ntmps55
  go_wp2
  go_loopw [5, 6] (fun v i wr => ∃ (k : Nat) (O : List Nat) (A1 : Option Addr) (c1 : Nat), v = .slice A1 O.length c1 ∧ i = .int .i64 ((k : Int) - 1) ∧ k ≤ xs.length ∧ Hr wr A1 c1 O ∧ val b16 O = val b16 (xs.drop k) * val b16 ys ∧ O.length ≤ xs.length - k + ys.length ∧ Below w.heap.size w wr) (fun _ i _ => ((intOf i) + 1).toNat)
  case atStart => exact ⟨xs.length, [], none, 0, rfl, rfl, Nat.le_refl _, ⟨Rd.nil, Dg.nil, by simp, by decide, by simp⟩, by simp [val], by simp, Below.refl _ _⟩
  case round =>
    obtain ⟨k, O, A1, c1, rfl, hik, hk, hO, hval, hlen, hb⟩ := hrel
    rcases Nat.eq_zero_or_pos k with rfl | hk0
    · rw [List.drop_zero, en.out] at hval
      subst hik
      have HT := Lib.hid (rtrim_any A1 c1 _ O wr hO.rd hO.le hO.cap)
      have hta := trimL_dig b16_one hO.dg
      rw [hval] at hta
      have htn : trimN O = (dig b16 n).length := by rw [← hta, trimL_length]
      have hrt : Rd .i64 wr wr.heap.size A1 (dig b16 n) := by rw [← hta]; exact hO.rd.take _
      have hle : (dig b16 n).length ≤ c1 := by rw [← htn]; exact Nat.le_trans (trimN_le O) hO.le
      have hcap := hO.cap
      rw [htn] at HT
      have HF := Lib.hid hrt
      have HB := Lib.hid hb
      clear hrt hb hO hta hval htn hlen hk
      go_wp2_with fail
      refine HT.out.mono ?_
      rintro e w' ⟨rfl, rfl⟩
      go_wp2
      go_ret
      exact ⟨A1, c1, rfl, HF.out, hle, hcap, HB.out⟩
    · obtain ⟨q, rfl⟩ : ∃ q, k = q + 1 := ⟨k - 1, by omega⟩
      rw [show (((q + 1 : Nat) : Int) - 1) = (q : Int) from by omega] at hik
      subst hik
      have hq : q < xs.length := by omega
      obtain ⟨i1, i2, i3, i4⟩ := HI.out
      have hsm : O.length ≤ 4294967296 := by omega
      have AZ := append_zero (base := w.heap.size) (c1 := c1) (hb.size) hO.rd hsm i1 i2 i3 i4
      obtain ⟨A2, c2, w1, hrun, hown, hb1⟩ := AZ
      have hb2 := hb.trans (hb1.mono hb.size)
      obtain ⟨hc1, hc2⟩ := own_caps hown
      have hO2 : Hr w1 A2 c2 (0 :: O) := ⟨Rd.of_own hown (Nat.le_refl _), Dg.cons (by decide) hO.dg, hc1, hc2, by simp; omega⟩
      obtain ⟨b, o, rfl, _, hcx⟩ := (HX.out.to hb2).rd.at_ hq
      have e1 := hcx q hq
      have hd := HX.out.dg.at_ hq
      obtain ⟨x, ex⟩ : ∃ x, Hid (xs[q] = x) := ⟨xs[q], rfl⟩
      rw [ex.out] at e1 hd
      unfold b16 at hd
      have HV0 : Hid (val b16 (0 :: O) = b16 * (val b16 (xs.drop (q + 1)) * val b16 ys)) := by show _ = _; rw [val, hval, Nat.zero_add]
      have HVX : Hid (val b16 (xs.drop q) = x + b16 * val b16 (xs.drop (q + 1))) := by show _ = _; rw [val_drop hq, ex.out]
      have HRUN := Lib.hid hrun
      have HO2 := Lib.hid hO2
      have HB2 := Lib.hid hb2
      have hlen2 : (0 :: O).length ≤ xs.length - q + ys.length := by simp; omega
      obtain ⟨O2, eO2⟩ : ∃ L, Hid (0 :: O = L) := ⟨_, rfl⟩
      rw [eO2.out] at HRUN HO2 HV0 hlen2
      have hki : (0 : Int) ≤ (q : Int) := by omega
      have hki' : (q : Int) < (xs.length : Int) := by omega
      clear hrun hO2 hb2 hown hb1 hO hval hb hcx hc1 hc2 hlen eO2
      go_wp2_with (at_builtin; refine wpList_append_run rfl (.tmp 27) (.tmp 28) 50 rfl (by rfl) (by rfl) HRUN.out ?_; clear HRUN)
      have hx16 : x ≤ 65535 := by omega
      clear e1 h3' h3
      go_loopw [5, 7] (fun v kk wr2 => ∃ (k : Nat) (R : List Nat) (A3 : Option Addr) (c3 : Nat), v = .slice A3 R.length c3 ∧ kk = .int .i64 k ∧ k ≤ 66559 ∧ Hr wr2 A3 c3 R ∧ val b16 R = b16 * (val b16 (xs.drop (q + 1)) * val b16 ys) + min k x * val b16 ys ∧ R.length ≤ xs.length - q + ys.length ∧ Below w.heap.size w wr2) (fun _ kk _ => 66559 - (intOf kk).toNat)
      case atStart => exact ⟨0, O2, A2, c2, rfl, rfl, by omega, HO2.out, by rw [HV0.out]; simp, hlen2, HB2.out⟩
      case round =>
        obtain ⟨k, R, A3, c3, rfl, rfl, hk2, hR, hvR, hlR, hbR⟩ := hrel
        have e1 := (HX.out.to hbR).rd.cell hq
        rw [ex.out] at e1
        by_cases hkx : k < x
        · obtain ⟨f, hf, hf1, hf2, hfe⟩ : ∃ f, f ≤ 1024 ∧ 1 ≤ f ∧ min (k + 1024) x = min k x + f ∧ ((f < 1024 ∧ (x : Int) - (k : Int) = (f : Int)) ∨ (k + 1024 ≤ x ∧ f = 1024)) := by
            rcases Nat.lt_or_ge (x - k) 1024 with h | h
            · exact ⟨x - k, by omega, by omega, by omega, .inl ⟨h, by omega⟩⟩
            · exact ⟨1024, by omega, by omega, by omega, .inr ⟨by omega, rfl⟩⟩
          have HT := Lib.hid fun (F : Int) (hF : F = (f : Int)) => by
            have h := times_any (HY.out.to hbR) f hf
            rw [← hF] at h
            exact h
          have hTl : val b16 ys * f < b16 ^ (ys.length + 1) := by
            have h1 := val_lt HY.out.dg
            have h2 : val b16 ys * f < b16 ^ ys.length * 65536 := Nat.mul_lt_mul'' h1 (by omega)
            rw [Nat.pow_succ]; exact h2
          obtain ⟨M, eM⟩ : ∃ M, Hid (b16 * (val b16 (xs.drop (q + 1)) * val b16 ys) + min (k + 1024) x * val b16 ys = M) := ⟨_, rfl⟩
          have HVN : Hid (val b16 R + val b16 ys * f = b16 * (val b16 (xs.drop (q + 1)) * val b16 ys) + min (k + 1024) x * val b16 ys) := by
            show _ = _
            rw [hvR, hf2, Nat.add_mul, Nat.mul_comm f]; omega
          have HLN : Hid (b16 * (val b16 (xs.drop (q + 1)) * val b16 ys) + min (k + 1024) x * val b16 ys < b16 ^ (xs.length - q + ys.length)) := by
            show _ < _
            refine Nat.lt_of_le_of_lt ?_ (mul_lt_pow HX.out.dg HY.out.dg q)
            rw [HVX.out, Nat.add_mul, Nat.mul_assoc]
            have : min (k + 1024) x * val b16 ys ≤ x * val b16 ys := Nat.mul_le_mul_right _ (by omega)
            omega
          rw [eM.out] at HVN HLN
          have HR := Lib.hid hR
          have HBR := Lib.hid hbR
          have HTL := Lib.hid hTl
          clear hR hbR hvR hlR hTl hf1 hf2
          rcases hfe with ⟨h1, hfe⟩ | ⟨h1, rfl⟩
          all_goals
            go_wp2_with fail
            refine (HT.out _ (by omega)).mono ?_
            rintro e w4 ⟨A4, c4, rfl, r4, l4, m4, b4⟩
            have HR4 := Hr.of_ret r4 l4 m4 HTL.out (by omega)
            have HA := Lib.hid (radd_any (HR.out.to b4) HR4)
            rw [val_dig b16_one, HVN.out] at HA
            have HB4 := Lib.hid (HBR.out.trans (b4.mono HBR.out.size))
            clear r4 l4 m4 b4 HR4
            go_wp2_with fail
            refine HA.out.mono ?_
            rintro e w5 ⟨A5, c5, rfl, r5, l5, m5, b5⟩
            have HR5 := Lib.hid (Hr.of_ret r5 l5 m5 HLN.out (by omega))
            have HB5 := Lib.hid (HB4.out.trans (b5.mono HB4.out.size))
            have hl5 := dig_length_le b16_one HLN.out
            clear r5 l5 m5 b5
            go_wp2
            go_roundw
            case rel => exact ⟨k + 1024, _, A5, c5, rfl, by simp, by omega, HR5.out, by rw [val_dig b16_one]; exact eM.out.symm, hl5, HB5.out⟩
            case measure => simp [intOf]; omega
        · have HVN : Hid (val b16 R = val b16 (xs.drop q) * val b16 ys) := by
            show _ = _
            rw [hvR, HVX.out, Nat.add_mul, Nat.mul_assoc, show min k x = x from by omega]; omega
          have HR := Lib.hid hR
          have HBR := Lib.hid hbR
          clear hR hbR hvR
          go_wp2
          go_roundw
          case rel => exact ⟨q, R, A3, c3, rfl, by simp, by omega, HR.out, HVN.out, hlR, HBR.out⟩
          case measure => simp [intOf]

theorem rmul_any {A A' : Option Addr} {c c' : Nat} {xs ys : List Nat} {w : World} (hx : Hr w A c xs) (hy : Hr w A' c' ys) (hl : xs.length + ys.length ≤ 1000000) :
    Calls Try.prog 55 #[.slice A xs.length c, .slice A' ys.length c'] w (HRet w (val b16 xs * val b16 ys)) := by
  by_cases h3 : xs.length + ys.length ≤ 3
  · have h1 := Lib.hid (small_any hx (by omega))
    have h2 := Lib.hid (small_any hy (by omega))
    have hlt : val b16 xs * val b16 ys < 281474976710656 :=
      Nat.lt_of_lt_of_le (pow_cut (val_lt hx.dg) (val_lt hy.dg)) (Nat.le_trans (Nat.pow_le_pow_right (by decide) h3) (by decide))
    obtain ⟨p, ep⟩ : ∃ p, val b16 xs * val b16 ys = p := ⟨_, rfl⟩
    have hB := Lib.hid (back_any p (by omega) w)
    have h3' : (xs.length : Int) + (ys.length : Int) ≤ 3 := by omega
    have hm : ((val b16 xs : Nat) : Int) * ((val b16 ys : Nat) : Int) = (p : Int) := by rw [← ep]; simp
    have g := wrap_nat p (by omega)
    rw [ep]
    obtain ⟨X, eX⟩ : ∃ X, val b16 xs = X := ⟨_, rfl⟩
    obtain ⟨Y, eY⟩ : ∃ Y, val b16 ys = Y := ⟨_, rfl⟩
    rw [eX] at h1 hm
    rw [eY] at h2 hm
    have hxc := hx.le
    have hxc2 := hx.cap
    have hyc := hy.le
    have hyc2 := hy.cap
    clear hlt ep eX eY hx hy
    go_enter Try.func55, Try.ntmps55
    go_wp2_with fail
    refine h1.out.mono ?_
    rintro e w' ⟨rfl, rfl⟩
    go_wp2_with fail
    refine h2.out.mono ?_
    rintro e w' ⟨rfl, rfl⟩
    go_wp2_with fail
    refine hB.out.mono ?_
    rintro e w' ⟨A4, c4, rfl, r4, l4, m4, b4⟩
    have HF := Lib.hid r4
    have HBB := Lib.hid b4
    clear r4 b4
    go_wp2
    go_ret
    exact ⟨A4, c4, rfl, HF.out, l4, m4, HBB.out⟩
  · exact rmul_long hx hy hl h3
end Go.Proofs.Ytlnjnoingiohjaa

namespace Go.Proofs.Ytlnjnoingiohjaa
open Go.RowKit Go.Shelf

/-- One digit more of a difference. -/
theorem digit_less {b k : Nat} {S : List Nat} (hl : S.length = k) {X Y l x y d l' : Nat} (h : val b S + Y = X + b ^ k * l) (hv : d + y + l = x + b * l') : val b (S ++ [d]) + (Y + b ^ k * y) = (X + b ^ k * x) + b ^ (k + 1) * l' := by
  rw [val_append, hl, Nat.pow_succ]
  simp only [val, Nat.mul_zero, Nat.add_zero]
  have h1 : b ^ k * (d + y + l) = b ^ k * (x + b * l') := by rw [hv]
  rw [Nat.mul_add, Nat.mul_add, Nat.mul_add, ← Nat.mul_assoc] at h1
  omega

theorem val_take_drop {b : Nat} (ys : List Nat) (k : Nat) : ∃ T, val b ys = val b (ys.take k) + b ^ (ys.take k).length * T := ⟨val b (ys.drop k), by rw [← val_append, List.take_append_drop]⟩

theorem sub_end {k l X : Nat} {S ys : List Nat} (hS : S.length = k) (hdg : Dg b16 S) (h : val b16 S + val b16 (ys.take k) = X + b16 ^ k * l) (hX : X < b16 ^ k) (hle : val b16 ys ≤ X) : val b16 S = X - val b16 ys := by
  have h1 := val_lt hdg
  rw [hS] at h1
  obtain ⟨T, hT⟩ := val_take_drop (b := b16) ys k
  have h0 : val b16 (ys.take k) ≤ val b16 ys := by rw [hT]; exact Nat.le_add_right _ _
  have hl : l = 0 := by
    refine Classical.byContradiction fun hn => ?_
    have : b16 ^ k * 1 ≤ b16 ^ k * l := Nat.mul_le_mul_left _ (by omega)
    omega
  subst hl
  by_cases hk : ys.length ≤ k
  · rw [List.take_of_length_le hk] at h; omega
  · have hlen : (ys.take k).length = k := by rw [List.length_take]; omega
    rw [hlen] at hT
    have hT0 : T = 0 := by
      refine Classical.byContradiction fun hn => ?_
      have : b16 ^ k * 1 ≤ b16 ^ k * T := Nat.mul_le_mul_left _ (by omega)
      omega
    subst hT0
    omega

set_option maxRecDepth 100000 in
set_option maxHeartbeats 4000000 in
theorem rsub_any {A A' : Option Addr} {c c' : Nat} {xs ys : List Nat} {w : World} (hx : Hr w A c xs) (hy : Hr w A' c' ys) (hge : val b16 ys ≤ val b16 xs) :
    Calls Try.prog 53 #[.slice A xs.length c, .slice A' ys.length c'] w (HRet w (val b16 xs - val b16 ys)) := by
  obtain ⟨i0, hi, hz0, hz1, hz2⟩ := info_parts infoInt
  obtain ⟨n, en⟩ : ∃ n, Hid (val b16 xs - val b16 ys = n) := ⟨_, rfl⟩
  rw [en.out]
  have HX := Lib.hid hx
  have HY := Lib.hid hy
  have hxs := hx.small
  have hys := hy.small
  have hxl := hx.le
  have hxc := hx.cap
  have hyl := hy.le
  have hyc := hy.cap
  clear hx hy
  have HGE := Lib.hid hge
  clear hge
  go_enter Try.func53, Try.ntmps53
  go_wp2
  go_loopw [5, 6, 7] (fun v q i wr => ∃ (k r : Nat) (S : List Nat) (A1 : Option Addr) (c1 : Nat), v = .slice A1 k c1 ∧ q = .int .i64 r ∧ i = .int .i64 k ∧ r ≤ 1 ∧ k ≤ xs.length ∧ S.length = k ∧ Dg b16 S ∧ val b16 S + val b16 (ys.take k) = val b16 (xs.take k) + b16 ^ k * r ∧
      wr.ownsRow w.heap.size 3 1 (.slice A1 k c1) k (ints .i64 S) ∧ Below w.heap.size w wr) (fun _ _ i _ => xs.length - (intOf i).toNat)
  case atStart => exact ⟨0, 0, [], none, 0, rfl, rfl, rfl, by omega, by omega, rfl, Dg.nil, by simp [val], by simpa [ints] using World.ownsRow_nil _ _ _ _, Below.refl _ _⟩
  case round =>
    obtain ⟨k, r, S, A1, c1, rfl, rfl, rfl, hr, hk, hS, hdg, hval, hown, hb⟩ := hrel
    by_cases hend : ¬ k < xs.length
    · obtain rfl : k = xs.length := by omega
      have hv : val b16 S = n := by
        rw [val_le_take (b := b16) xs _ (Nat.le_refl _)] at hval
        rw [← en.out]
        exact sub_end hS hdg hval (val_lt HX.out.dg) HGE.out
      obtain ⟨hc1, hc2⟩ := own_caps hown
      have hrd := Rd.of_own hown (Nat.le_refl _)
      have HT := Lib.hid (rtrim_any A1 c1 _ S wr hrd (by omega) hc2)
      have hta := trimL_dig b16_one hdg
      rw [hv] at hta
      have htn : trimN S = (dig b16 n).length := by rw [← hta, trimL_length]
      have hrt : Rd .i64 wr wr.heap.size A1 (dig b16 n) := by rw [← hta]; exact hrd.take _
      have hle : (dig b16 n).length ≤ c1 := by rw [← htn]; have := trimN_le S; omega
      rw [hS, htn] at HT
      have HF := Lib.hid hrt
      have HB := Lib.hid hb
      clear hrt hb hown hrd hta hval hdg htn hv
      go_wp2_with fail
      refine HT.out.mono ?_
      rintro e w' ⟨rfl, rfl⟩
      go_wp2
      go_ret
      exact ⟨A1, c1, rfl, HF.out, hle, hc2, HB.out⟩
    · have hkm : k < xs.length := by omega
      have hki : (0 : Int) ≤ (k : Int) := by omega
      obtain ⟨x, ex⟩ : ∃ x, Hid (xs.getD k 0 = x) := ⟨_, rfl⟩
      obtain ⟨y, ey⟩ : ∃ y, Hid (ys.getD k 0 = y) := ⟨_, rfl⟩
      have hu := getD_dg (by decide) HX.out.dg k
      have hz := getD_dg (by decide) HY.out.dg k
      have HA1 := Lib.hid (at_int (c := c) (HX.out.to hb).rd (by omega) (k : Int) (by omega) (by omega))
      have HA2 := Lib.hid (at_int (c := c') (HY.out.to hb).rd (by omega) (k : Int) (by omega) (by omega))
      rw [show ((k : Int)).toNat = k from by omega] at HA1 HA2
      rw [ex.out] at hu HA1
      rw [ey.out] at hz HA2
      unfold b16 at hu hz
      obtain ⟨d, r', t, hd, hr', et, hdig, hcase⟩ : ∃ (d r' : Nat) (t : Int), d < 65536 ∧ r' ≤ 1 ∧ (x : Int) - (y : Int) - (r : Int) = t ∧ d + y + r = x + 65536 * r' ∧ ((r' = 0 ∧ t = (d : Int)) ∨ (r' = 1 ∧ t < 0 ∧ t + 65536 = (d : Int))) := by
        by_cases hlt : y + r ≤ x
        · exact ⟨x - y - r, 0, _, by omega, by omega, rfl, by omega, .inl ⟨rfl, by omega⟩⟩
        · exact ⟨x + 65536 - y - r, 1, _, by omega, by omega, rfl, by omega, .inr ⟨rfl, by omega, by omega⟩⟩
      have ht1 : -65537 ≤ t := by omega
      have ht2 : t < 65536 := by omega
      have NEXTV : val b16 (S ++ [d]) + val b16 (ys.take (k + 1)) = val b16 (xs.take (k + 1)) + b16 ^ (k + 1) * r' := by
        rw [val_take_succ, val_take_succ, ex.out, ey.out]
        exact digit_less hS hval hdig
      have NV := Lib.hid NEXTV
      have w1 : IntKind.i64.wrap ((x : Int) - (y : Int)) = (x : Int) - (y : Int) := IntWalk.i64_in _ (by omega)
      have w2 : IntKind.i64.wrap ((x : Int) - (y : Int) - (r : Int)) = t := by rw [et]; exact IntWalk.i64_in _ (by omega)
      have hs1 := hb.size
      have NEXT : ∀ v' w1, w1.ownsRow w.heap.size 3 1 v' (k + 1) (ints .i64 S ++ [.int .i64 ((d : Nat) : Int)]) → (wr.alloc (.cells #[.int .i64 ((d : Nat) : Int)] 3)).grownBy w1 (Value.slice A1 k c1).ownBlock →
          ∃ (A2 : Option Addr) (c2 : Nat), v' = .slice A2 (k + 1) c2 ∧ w1.ownsRow w.heap.size 3 1 (.slice A2 (k + 1) c2) (k + 1) (ints .i64 (S ++ [d])) ∧ Below w.heap.size w w1 := by
        intro v' w1 hown' hgrow
        obtain ⟨A2, c2, rfl⟩ := own_shape hown'
        refine ⟨A2, c2, rfl, ?_, (hb.alloc hs1 _).grown hgrow (by simp; omega) (fun j e => (hown.lt j e).1)⟩
        simpa [ints] using hown'
      have hownA := hown.alloc (.cells #[.int .i64 ((d : Nat) : Int)] 3)
      have HN := Lib.hid NEXT
      have HSD := Lib.hid hdg
      clear NEXT NEXTV hb hown ex ey hval hdg hend hdig et
      rcases hcase with ⟨rfl, rfl⟩ | ⟨rfl, t1, t2⟩
      · clear ht1 ht2
        go_wp2_with fail
        refine HA1.out.mono ?_
        rintro e w' ⟨rfl, rfl⟩
        go_wp2_with fail
        refine HA2.out.mono ?_
        rintro e w' ⟨rfl, rfl⟩
        go_wp2_with (at_builtin; refine wpList_append_own _ rfl (.tmp 28) (.tmp 30) 50 rfl w.heap.size 3 i0 (.int .i64 0) 1 8 Try.underlying50 hi hz0 hz1 hz2 rfl (by decide) (.slice A1 k c1) k _ rfl hownA ⟨wr.heap.size, 0, none⟩ 1 1 [.int .i64 ((d : Nat) : Int)] rfl rfl (cell_one_new _ _ _) (by simp [Value.oneCell']) (by unfold maxLen; omega) (by omega) (by simp; omega) ?_; intro v' w1 hown' hgrow _; obtain ⟨A2, c2, rfl, n1, n2⟩ := HN.out _ _ hown' hgrow; have N1 := Lib.hid n1; have N2 := Lib.hid n2; clear n1 n2 hown' hgrow)
        go_roundw
        case rel => exact ⟨k + 1, 0, S ++ [d], A2, c2, rfl, by simp, by simp, by omega, by omega, by simp [hS], HSD.out.app (Dg.one (by unfold b16; omega)), NV.out, N1.out, N2.out⟩
        case measure => simp [intOf]; omega
      · go_wp2_with fail
        refine HA1.out.mono ?_
        rintro e w' ⟨rfl, rfl⟩
        go_wp2_with fail
        refine HA2.out.mono ?_
        rintro e w' ⟨rfl, rfl⟩
        go_wp2_with (at_builtin; refine wpList_append_own _ rfl (.tmp 28) (.tmp 30) 50 rfl w.heap.size 3 i0 (.int .i64 0) 1 8 Try.underlying50 hi hz0 hz1 hz2 rfl (by decide) (.slice A1 k c1) k _ rfl hownA ⟨wr.heap.size, 0, none⟩ 1 1 [.int .i64 ((d : Nat) : Int)] rfl rfl (cell_one_new _ _ _) (by simp [Value.oneCell']) (by unfold maxLen; omega) (by omega) (by simp; omega) ?_; intro v' w1 hown' hgrow _; obtain ⟨A2, c2, rfl, n1, n2⟩ := HN.out _ _ hown' hgrow; have N1 := Lib.hid n1; have N2 := Lib.hid n2; clear n1 n2 hown' hgrow)
        go_roundw
        case rel => exact ⟨k + 1, 1, S ++ [d], A2, c2, rfl, by simp, by simp, by omega, by omega, by simp [hS], HSD.out.app (Dg.one (by unfold b16; omega)), NV.out, N1.out, N2.out⟩
        case measure => simp [intOf]; omega
end Go.Proofs.Ytlnjnoingiohjaa

namespace Go.Proofs.Ytlnjnoingiohjaa
open Go.RowKit Go.Shelf

theorem val_pad {b : Nat} (xs : List Nat) (k : Nat) : val b (xs ++ List.replicate k 0) = val b xs := by rw [val_append, val_zeros]; simp
theorem getD_pad (xs : List Nat) (k j : Nat) : (xs ++ List.replicate k 0).getD j 0 = xs.getD j 0 := by
  simp only [List.getD_eq_getElem?_getD, List.getElem?_append]
  split
  · rfl
  · rename_i h
    rw [List.getElem?_eq_none (by omega : xs.length ≤ j), List.getElem?_replicate]
    split <;> rfl
theorem dg_pad {b : Nat} (hb : 0 < b) {xs : List Nat} (h : Dg b xs) (k : Nat) : Dg b (xs ++ List.replicate k 0) := h.app (fun d hd => by rw [List.eq_of_mem_replicate hd]; exact hb)

theorem cmp_at {b : Nat} (hb : 0 < b) {xs ys : List Nat} {m k : Nat} (hx : Dg b xs) (hy : Dg b ys) (h1 : xs.length ≤ m) (h2 : ys.length ≤ m) (hk : k < m) (hs : ∀ j, k < j → xs.getD j 0 = ys.getD j 0) (hne : xs.getD k 0 ≠ ys.getD k 0) :
    cmpN (val b xs) (val b ys) = cmpN (xs.getD k 0) (ys.getD k 0) := by
  have e1 := val_pad (b := b) xs (m - xs.length)
  have e2 := val_pad (b := b) ys (m - ys.length)
  have l1 : (xs ++ List.replicate (m - xs.length) 0).length = m := by simp; omega
  have l2 : (ys ++ List.replicate (m - ys.length) 0).length = m := by simp; omega
  rw [← e1, ← e2, ← getD_pad xs (m - xs.length) k, ← getD_pad ys (m - ys.length) k]
  rw [← getD_pad xs (m - xs.length) k, ← getD_pad ys (m - ys.length) k] at hne
  exact cmpN_of (dg_pad hb hx _) (dg_pad hb hy _) (by rw [l1, l2]) (by rw [l1]; exact hk) (fun j hj _ => by rw [getD_pad, getD_pad]; exact hs j hj) hne
theorem eq_at {b : Nat} {xs ys : List Nat} {m : Nat} (h1 : xs.length ≤ m) (h2 : ys.length ≤ m) (hs : ∀ j, xs.getD j 0 = ys.getD j 0) : val b xs = val b ys := by
  rw [← val_pad (b := b) xs (m - xs.length), ← val_pad (b := b) ys (m - ys.length)]
  rw [eq_of_getD (xs := xs ++ List.replicate (m - xs.length) 0) (ys := ys ++ List.replicate (m - ys.length) 0) (by simp; omega) (fun j _ => by rw [getD_pad, getD_pad]; exact hs j)]

set_option maxRecDepth 100000 in
set_option maxHeartbeats 2000000 in
theorem rcmp_any {A A' : Option Addr} {c c' : Nat} {xs ys : List Nat} {w : World} (hx : Hr w A c xs) (hy : Hr w A' c' ys) :
    Calls Try.prog 52 #[.slice A xs.length c, .slice A' ys.length c'] w fun e w' => e = .returned (.int .i64 (cmpN (val b16 xs) (val b16 ys))) ∧ w' = w := by
  obtain ⟨n, en⟩ : ∃ n, Hid (cmpN (val b16 xs) (val b16 ys) = n) := ⟨_, rfl⟩
  rw [en.out]
  have HX := Lib.hid hx
  have HY := Lib.hid hy
  have hxs := hx.small
  have hys := hy.small
  clear hx hy
  obtain ⟨m, em⟩ : ∃ m, m = max xs.length ys.length := ⟨_, rfl⟩
  have hm1 : xs.length ≤ m := by omega
  have hm2 : ys.length ≤ m := by omega
  have hm3 : m ≤ 4294967296 := by omega
  have EM := Lib.hid em
  clear em
  rcases Nat.lt_or_ge xs.length ys.length with h0 | h0
  all_goals
    go_enter Try.func52, Try.ntmps52
    go_wp2
    go_loopw [5] (fun i wr => ∃ k : Nat, i = .int .i64 ((k : Int) - 1) ∧ k ≤ m ∧ (∀ j, k ≤ j → xs.getD j 0 = ys.getD j 0) ∧ wr = w) (fun i _ => ((intOf i) + 1).toNat)
    case atStart => exact ⟨m, by have := EM.out; congr 1; omega, Nat.le_refl _, (fun j hj => by rw [getD_over (by omega), getD_over (by omega)]), rfl⟩
    case round =>
      obtain ⟨k, hik, hk, hs, rfl⟩ := hrel
      rcases Nat.eq_zero_or_pos k with rfl | hk0
      · obtain rfl := hik
        have hn : (0 : Int) = n := by rw [← en.out, eq_at hm1 hm2 (fun j => hs j (Nat.zero_le _)), cmpN_refl]
        subst hn
        clear hs hk
        go_wp2
        go_ret
        exact ⟨rfl, rfl⟩
      · obtain ⟨q, rfl⟩ : ∃ q, k = q + 1 := ⟨k - 1, by omega⟩
        rw [show (((q + 1 : Nat) : Int) - 1) = (q : Int) from by omega] at hik
        subst hik
        obtain ⟨x, ex⟩ : ∃ x, Hid (xs.getD q 0 = x) := ⟨_, rfl⟩
        obtain ⟨y, ey⟩ : ∃ y, Hid (ys.getD q 0 = y) := ⟨_, rfl⟩
        have hu := getD_dg (by decide) HX.out.dg q
        have hz := getD_dg (by decide) HY.out.dg q
        have HA1 := Lib.hid (at_int (c := c) HX.out.rd (by omega) (q : Int) (by omega) (by omega))
        have HA2 := Lib.hid (at_int (c := c') HY.out.rd (by omega) (q : Int) (by omega) (by omega))
        rw [show ((q : Int)).toNat = q from by omega] at HA1 HA2
        rw [ex.out] at hu HA1
        rw [ey.out] at hz HA2
        unfold b16 at hu hz
        have HE : Hid (x ≠ y → n = cmpN x y) := fun hne => by
          rw [← en.out, cmp_at (by decide) HX.out.dg HY.out.dg hm1 hm2 (by omega : q < m) (fun j hj => hs j hj) (by rw [ex.out, ey.out]; exact hne), ex.out, ey.out]
        have HS : Hid (x = y → ∀ j, q ≤ j → xs.getD j 0 = ys.getD j 0) := fun he j hj => by
          rcases Nat.eq_or_lt_of_le hj with rfl | hlt
          · rw [ex.out, ey.out, he]
          · exact hs j hlt
        clear hs ex ey
        rcases Nat.lt_trichotomy x y with hlt | heq | hgt
        · have hn : n = -1 := by rw [HE.out (by omega), cmpN_lt hlt]
          subst hn
          clear hk
          go_wp2_with fail
          refine HA1.out.mono ?_
          rintro e w' ⟨rfl, rfl⟩
          go_wp2_with fail
          refine HA2.out.mono ?_
          rintro e w' ⟨rfl, rfl⟩
          go_wp2
          go_ret
          exact ⟨rfl, rfl⟩
        · subst heq
          go_wp2_with fail
          refine HA1.out.mono ?_
          rintro e w' ⟨rfl, rfl⟩
          go_wp2_with fail
          refine HA2.out.mono ?_
          rintro e w' ⟨rfl, rfl⟩
          go_wp2_with fail
          refine HA1.out.mono ?_
          rintro e w' ⟨rfl, rfl⟩
          go_wp2_with fail
          refine HA2.out.mono ?_
          rintro e w' ⟨rfl, rfl⟩
          go_wp2
          go_roundw
          case rel => exact ⟨q, by simp, by omega, HS.out trivial, trivial⟩
          case measure => simp [intOf]
        · have hn : n = 1 := by rw [HE.out (by omega), cmpN_gt hgt]
          subst hn
          clear hk
          go_wp2_with fail
          refine HA1.out.mono ?_
          rintro e w' ⟨rfl, rfl⟩
          go_wp2_with fail
          refine HA2.out.mono ?_
          rintro e w' ⟨rfl, rfl⟩
          go_wp2_with fail
          refine HA1.out.mono ?_
          rintro e w' ⟨rfl, rfl⟩
          go_wp2_with fail
          refine HA2.out.mono ?_
          rintro e w' ⟨rfl, rfl⟩
          go_wp2
          go_ret
          exact ⟨rfl, rfl⟩
end Go.Proofs.Ytlnjnoingiohjaa

namespace Go.Proofs.Ytlnjnoingiohjaa
open Go.RowKit Go.Shelf

theorem compare_l {A A' : Option Addr} {c c' : Nat} {xs ys : List Nat} {w : World} (hx : Arg w A c xs) (hy : Arg w A' c' ys) :
    Calls Try.prog 58 #[.slice A (trimL xs).length c, .slice A' (trimL ys).length c'] w fun e w' => e = .returned (.int .i64 (cmpN (val b32 xs) (val b32 ys))) ∧ Below w.heap.size w w' := by
  have h := compare_any A A' c c' (trimL xs) (trimL ys) w hx.trim.rd hy.trim.rd (trim_trimmed b32_one hx.dg) (trim_trimmed b32_one hy.dg) hx.trim.dg hy.trim.dg hx.trim.le hx.cap hy.trim.le hy.cap
  rwa [val_trimL, val_trimL] at h

set_option maxHeartbeats 2000000 in
theorem sum_less (n : Bool) {A A' : Option Addr} {c c' : Nat} {xs ys : List Nat} {w : World} (hx : Arg w A c xs) (hy : Arg w A' c' ys) (hlt : val b32 xs < val b32 ys) :
    Calls Try.prog 50 #[.agg #[.bool n, .slice A xs.length c], .bool (!n), .slice A' ys.length c'] w (ZRet w (zof (!n) (val b32 ys - val b32 xs))) := by
  have h1 : (n == !n) = false := by cases n <;> rfl
  have HX := Lib.hid hx
  have HY := Lib.hid hy
  have HLT := Lib.hid hlt
  clear hx hy hlt
  obtain ⟨m, HM⟩ : ∃ m, Hid (m = !n) := ⟨_, rfl⟩
  rw [← HM.out] at h1 ⊢
  obtain ⟨W0, hW0⟩ : ∃ W0, W0 = (w.alloc (.cells #[.bool n, .slice A xs.length c] 24)).alloc (.cells #[.bool false, .slice none 0 0] 24) := ⟨_, rfl⟩
  have hb : Below w.heap.size w W0 := by rw [hW0]; exact ((Below.refl _ _).alloc (Nat.le_refl _) _).alloc (by simp) _
  have tX : Two W0 w.heap.size (.bool n) (.slice A xs.length c) := by rw [hW0]; exact (Two.new w _ _ _).alloc _
  have tR : Two W0 (w.heap.size + 1) (.bool false) (.slice none 0 0) := by
    have h := Two.new (w.alloc (.cells #[.bool n, .slice A xs.length c] 24)) (.bool false) (.slice none 0 0) 24
    rw [World.size_alloc] at h
    rw [hW0]; exact h
  have HW0 := Lib.hid hW0
  clear hW0
  go_enter Try.func50, Try.ntmps50
  go_wp2_with fail
  rw [← HW0.out]
  obtain ⟨q1, q2, q3, q4, q5⟩ := tX
  refine (trim_l (HX.out.to hb)).mono ?_
  rintro e w' ⟨rfl, rfl⟩
  go_wp2_with fail
  refine (trim_l (HY.out.to hb)).mono ?_
  rintro e w' ⟨rfl, rfl⟩
  go_wp2_with fail
  refine (compare_l (HX.out.to hb) (HY.out.to hb)).mono ?_
  rw [cmpN_lt HLT.out]
  rintro e w1 ⟨rfl, hb1⟩
  have tX1 := (⟨q1, q2, q3, q4, q5⟩ : Two W0 w.heap.size _ _).to hb1
  have tR1 := tR.to hb1
  replace hb := hb.trans (hb1.mono hb.size)
  clear q1 q2 q3 q4 q5 tR hb1 HW0
  have h0 : 0 ≤ ((val b32 (trimL ys) : Nat) : Int) + -1 * (val b32 (trimL xs) : Nat) := by have := HLT.out; rw [val_trimL, val_trimL]; omega
  have HC := Lib.hid (combine_l (q := -1) (.inr rfl) (HY.out.to hb).trim (HX.out.to hb).trim h0)
  clear h0 tX1
  go_wp2_with fail
  refine HC.out.mono ?_
  rintro e w2 ⟨A1, c1, zs, rfl, r1, r2, r3, r5, _, r6, hb2⟩
  have hv : val b32 zs = val b32 ys - val b32 xs := by
    rw [val_trimL, val_trimL] at r6
    omega
  have HI := Lib.hid (integer_l m r1 r5 r2 r3)
  rw [hv] at HI
  have tR2 := tR1.to hb2
  have HB := Lib.hid (hb.trans (hb2.mono hb.size))
  clear r1 r6 hb2 hv hb tR1
  obtain ⟨z, ez⟩ : ∃ z, Hid (zof m (val b32 ys - val b32 xs) = z) := ⟨_, rfl⟩
  rw [ez.out] at HI ⊢
  go_wp2_with fail
  refine HI.out.mono ?_
  rintro e w3 ⟨A3, c3, rfl, s1, s2, s3, hb3⟩
  obtain ⟨q1, q2, q3, q4, q5⟩ := tR2.to hb3
  have S1 := Lib.hid s1
  have HB3 := Lib.hid (HB.out.trans (hb3.mono HB.out.size))
  clear s1 hb3 tR2
  go_wp2
  have tF := (⟨q1, q2, q3, q4, q5⟩ : Two w3 (w.heap.size + 1) _ _).set (.bool (decide (z < 0))) (.slice A3 (dig b32 z.natAbs).length c3)
  refine bodyPost_ret (v := .agg #[.bool (decide (z < 0)), .slice A3 (dig b32 z.natAbs).length c3]) (by simp [results, Try.f50, go_sem, tF.c0, tF.c1]) rfl ?_
  rw [ez.out]
  exact zret_stored ⟨q1, q2, q3, q4, q5⟩ (by omega) S1.out s2 s3 HB3.out

set_option maxHeartbeats 2000000 in
theorem sum_more (n : Bool) {A A' : Option Addr} {c c' : Nat} {xs ys : List Nat} {w : World} (hx : Arg w A c xs) (hy : Arg w A' c' ys) (hlt : val b32 ys ≤ val b32 xs) :
    Calls Try.prog 50 #[.agg #[.bool n, .slice A xs.length c], .bool (!n), .slice A' ys.length c'] w (ZRet w (zof n (val b32 xs - val b32 ys))) := by
  have h1 : (n == !n) = false := by cases n <;> rfl
  have HX := Lib.hid hx
  have HY := Lib.hid hy
  have HLT := Lib.hid hlt
  clear hx hy hlt
  obtain ⟨m, HM⟩ : ∃ m, Hid (m = !n) := ⟨_, rfl⟩
  rw [← HM.out] at h1 ⊢
  obtain ⟨W0, hW0⟩ : ∃ W0, W0 = (w.alloc (.cells #[.bool n, .slice A xs.length c] 24)).alloc (.cells #[.bool false, .slice none 0 0] 24) := ⟨_, rfl⟩
  have hb : Below w.heap.size w W0 := by rw [hW0]; exact ((Below.refl _ _).alloc (Nat.le_refl _) _).alloc (by simp) _
  have tX : Two W0 w.heap.size (.bool n) (.slice A xs.length c) := by rw [hW0]; exact (Two.new w _ _ _).alloc _
  have tR : Two W0 (w.heap.size + 1) (.bool false) (.slice none 0 0) := by
    have h := Two.new (w.alloc (.cells #[.bool n, .slice A xs.length c] 24)) (.bool false) (.slice none 0 0) 24
    rw [World.size_alloc] at h
    rw [hW0]; exact h
  have HW0 := Lib.hid hW0
  clear hW0
  go_enter Try.func50, Try.ntmps50
  go_wp2_with fail
  rw [← HW0.out]
  obtain ⟨q1, q2, q3, q4, q5⟩ := tX
  refine (trim_l (HX.out.to hb)).mono ?_
  rintro e w' ⟨rfl, rfl⟩
  go_wp2_with fail
  refine (trim_l (HY.out.to hb)).mono ?_
  rintro e w' ⟨rfl, rfl⟩
  go_wp2_with fail
  refine (compare_l (HX.out.to hb) (HY.out.to hb)).mono ?_
  obtain ⟨cv, hcv, hcv0⟩ : ∃ cv, cmpN (val b32 xs) (val b32 ys) = cv ∧ 0 ≤ cv := ⟨_, rfl, by have := HLT.out; unfold cmpN; split <;> (try split) <;> omega⟩
  rw [hcv]
  clear hcv
  rintro e w1 ⟨rfl, hb1⟩
  have tX1 := (⟨q1, q2, q3, q4, q5⟩ : Two W0 w.heap.size _ _).to hb1
  have tR1 := tR.to hb1
  replace hb := hb.trans (hb1.mono hb.size)
  clear q1 q2 q3 q4 q5 tR hb1 HW0
  have h0 : 0 ≤ ((val b32 (trimL xs) : Nat) : Int) + -1 * (val b32 (trimL ys) : Nat) := by have := HLT.out; rw [val_trimL, val_trimL]; omega
  replace hb := hb.drew
  have hb1 : Below w1.heap.size w1 w1.drew := (Below.refl _ _).drew
  replace tX1 := tX1.to hb1
  have HC := Lib.hid (combine_l (w := w1.drew) (q := -1) (.inr rfl) (HX.out.to hb).trim (HY.out.to hb).trim h0)
  have cX1 := tX1.c0
  clear h0
  go_wp2_with fail
  refine wp_region_any (by kernel_rfl) ?_
  refine (show wpAny _ _ _ _ _ _ _ (World.drew _) from ?_)
  refine wpAny_take (i := 0) (v := .pointer (some ⟨w.heap.size, 0, none⟩)) rfl (by kernel_rfl) (by kernel_rfl) (by kernel_rfl) (fun _ _ _ h => h) (Or.inl ⟨by rfl, fun _ => by go_simp⟩) ?_
  refine wpAny_take (i := 2) (v := .slice A (trimL xs).length c) rfl (by kernel_rfl) (by kernel_rfl) (by kernel_rfl) (fun _ _ _ h => h) (Or.inl ⟨by rfl, fun _ => by go_simp⟩) ?_
  refine wpAny_take (i := 3) (v := .slice A' (trimL ys).length c') rfl (by kernel_rfl) (by kernel_rfl) (by kernel_rfl) (fun _ _ _ h => h) (Or.inl ⟨by rfl, fun _ => by go_simp⟩) ?_
  refine wpAny_ready (rs := [1, 4]) (by kernel_rfl) (by simp) (AllReady.cons rfl (fun K hK => ?_) (AllReady.cons rfl (fun K hK => ?_) AllReady.nil))
  · go_simp; refine hK _ _ ?_; clear hK K
    refine wpAny_ready (rs := [4]) (by kernel_rfl) (by simp) (AllReady.cons rfl (fun K hK => ?_) AllReady.nil)
    go_simp
    refine HC.out.mono ?_
    rintro e w2 ⟨A1, c1, zs, rfl, r1, r2, r3, r5, _, r6, hb2⟩
    have hv : val b32 zs = val b32 xs - val b32 ys := by
      have := HLT.out
      rw [val_trimL, val_trimL] at r6
      omega
    have HI := Lib.hid (integer_l n r1 r5 r2 r3)
    rw [hv] at HI
    have tR2 := (tR1.to hb1).to hb2
    have tX2 := tX1.to hb2
    have HB := Lib.hid (hb.trans (hb2.mono hb.size))
    have cX2 := tX2.c0
    clear r1 r6 hb2 hv hb tR1 tX1 tX2
    refine hK _ _ ?_; clear hK K
    refine wpAny_ready (rs := [5]) (by kernel_rfl) (by simp) (AllReady.cons rfl (fun K hK => ?_) AllReady.nil)
    obtain ⟨z, ez⟩ : ∃ z, Hid (zof n (val b32 xs - val b32 ys) = z) := ⟨_, rfl⟩
    rw [ez.out] at HI
    go_simp
    refine HI.out.mono ?_
    rintro e w3 ⟨A3, c3, rfl, s1, s2, s3, hb3⟩
    obtain ⟨q1, q2, q3, q4, q5⟩ := tR2.to hb3
    have S1 := Lib.hid s1
    have HB3 := Lib.hid (HB.out.trans (hb3.mono HB.out.size))
    clear s1 hb3 tR2
    refine hK _ _ ?_; clear hK K
    refine wpAny_ready (rs := [6]) (by kernel_rfl) (by simp) (AllReady.cons rfl (fun K hK => ?_) AllReady.nil)
    go_simp; refine hK _ _ ?_; clear hK K
    refine wpAny_done (by kernel_rfl) ?_ _
    go_wp2
    have tF := (⟨q1, q2, q3, q4, q5⟩ : Two w3 (w.heap.size + 1) _ _).set (.bool (decide (z < 0))) (.slice A3 (dig b32 z.natAbs).length c3)
    refine bodyPost_ret (v := .agg #[.bool (decide (z < 0)), .slice A3 (dig b32 z.natAbs).length c3]) (by simp [results, Try.f50, go_sem, tF.c0, tF.c1]) rfl ?_
    rw [ez.out]
    exact zret_stored ⟨q1, q2, q3, q4, q5⟩ (by omega) S1.out s2 s3 HB3.out
  · go_simp
    refine HC.out.mono ?_
    rintro e w2 ⟨A1, c1, zs, rfl, r1, r2, r3, r5, _, r6, hb2⟩
    have hv : val b32 zs = val b32 xs - val b32 ys := by
      have := HLT.out
      rw [val_trimL, val_trimL] at r6
      omega
    have HI := Lib.hid (integer_l n r1 r5 r2 r3)
    rw [hv] at HI
    have tR2 := (tR1.to hb1).to hb2
    have tX2 := tX1.to hb2
    have HB := Lib.hid (hb.trans (hb2.mono hb.size))
    have cX2 := tX2.c0
    clear r1 r6 hb2 hv hb tR1 tX1 tX2
    refine hK _ _ ?_; clear hK K
    refine wpAny_ready (rs := [1]) (by kernel_rfl) (by simp) (AllReady.cons rfl (fun K hK => ?_) AllReady.nil)
    go_simp; refine hK _ _ ?_; clear hK K
    refine wpAny_ready (rs := [5]) (by kernel_rfl) (by simp) (AllReady.cons rfl (fun K hK => ?_) AllReady.nil)
    obtain ⟨z, ez⟩ : ∃ z, Hid (zof n (val b32 xs - val b32 ys) = z) := ⟨_, rfl⟩
    rw [ez.out] at HI
    go_simp
    refine HI.out.mono ?_
    rintro e w3 ⟨A3, c3, rfl, s1, s2, s3, hb3⟩
    obtain ⟨q1, q2, q3, q4, q5⟩ := tR2.to hb3
    have S1 := Lib.hid s1
    have HB3 := Lib.hid (HB.out.trans (hb3.mono HB.out.size))
    clear s1 hb3 tR2
    refine hK _ _ ?_; clear hK K
    refine wpAny_ready (rs := [6]) (by kernel_rfl) (by simp) (AllReady.cons rfl (fun K hK => ?_) AllReady.nil)
    go_simp; refine hK _ _ ?_; clear hK K
    refine wpAny_done (by kernel_rfl) ?_ _
    go_wp2
    have tF := (⟨q1, q2, q3, q4, q5⟩ : Two w3 (w.heap.size + 1) _ _).set (.bool (decide (z < 0))) (.slice A3 (dig b32 z.natAbs).length c3)
    refine bodyPost_ret (v := .agg #[.bool (decide (z < 0)), .slice A3 (dig b32 z.natAbs).length c3]) (by simp [results, Try.f50, go_sem, tF.c0, tF.c1]) rfl ?_
    rw [ez.out]
    exact zret_stored ⟨q1, q2, q3, q4, q5⟩ (by omega) S1.out s2 s3 HB3.out
end Go.Proofs.Ytlnjnoingiohjaa

namespace Go.Proofs.Ytlnjnoingiohjaa
open Go.RowKit Go.Shelf

theorem ret_u64 {a b : Int} (h : a = b) : Ending.returned (.int .u64 a) = Ending.returned (.int .u64 b) := by rw [h]

theorem or_words (a b : Nat) (ha : a < 4294967296) (hb : b < 4294967296) : bits .or .u64 (bits .or .u64 0 (a : Int)) ((b : Int) * 4294967296) = ((a + b * 4294967296 : Nat) : Int) := by
  have h1 : bits .or .u64 0 (a : Int) = (a : Int) := by
    have h := bits_or_u64_nat 0 a (by omega) (by omega)
    rw [Nat.zero_or] at h
    exact h
  rw [h1, show ((b : Int) * 4294967296) = ((b * 4294967296 : Nat) : Int) from by simp, bits_or_u64_nat a (b * 4294967296) (by omega) (by omega)]
  have h2 := Nat.shiftLeft_add_eq_or_of_lt (i := 32) (b := a) (by omega) b
  rw [Nat.shiftLeft_eq] at h2
  rw [Nat.or_comm, show b * 4294967296 = b * 2 ^ 32 from rfl, ← h2, Nat.add_comm]

theorem or_word (a : Nat) (ha : a < 4294967296) : bits .or .u64 0 (a : Int) = (a : Int) := by
  have h := bits_or_u64_nat 0 a (by omega) (by omega)
  rw [Nat.zero_or] at h
  exact h

set_option maxHeartbeats 1000000 in
theorem toUint64_two (A : Option Addr) (c a b : Nat) (w : World) (hx : Rd .u32 w w.heap.size A [a, b]) (ha : a < 4294967296) (hb : b < 4294967296) :
    Calls Try.prog 45 #[.slice A 2 c] w fun e w' => e = .returned (.int .u64 ((a + b * 4294967296 : Nat) : Int)) ∧ w = w' := by
  obtain ⟨B, o, rfl, _, hc⟩ := hx.at_ (k := 0) (by simp)
  have h0 := hc 0 (by simp)
  have h1 := hc 1 (by simp)
  simp only [List.getElem_cons_zero, List.getElem_cons_succ, Nat.add_zero] at h0 h1
  clear hc hx
  go_enter Try.func45, Try.ntmps45
  go_wp2
  refine wp_loop_rounds 3 ?_
  rw [rounds_succ]
  go_wp2
  rw [rounds_succ]
  go_wp2
  rw [rounds_succ]
  go_wp2
  go_ret
  exact ⟨ret_u64 (or_words a b ha hb), rfl⟩

set_option maxHeartbeats 1000000 in
theorem toUint64_one (A : Option Addr) (c a : Nat) (w : World) (hx : Rd .u32 w w.heap.size A [a]) (ha : a < 4294967296) :
    Calls Try.prog 45 #[.slice A 1 c] w fun e w' => e = .returned (.int .u64 (a : Nat)) ∧ w = w' := by
  obtain ⟨B, o, rfl, _, hc⟩ := hx.at_ (k := 0) (by simp)
  have h0 := hc 0 (by simp)
  simp only [List.getElem_cons_zero, Nat.add_zero] at h0
  clear hc hx
  go_enter Try.func45, Try.ntmps45
  go_wp2
  refine wp_loop_rounds 2 ?_
  rw [rounds_succ]
  go_wp2
  rw [rounds_succ]
  go_wp2
  go_ret
  exact ⟨ret_u64 (or_word a ha), rfl⟩

set_option maxHeartbeats 1000000 in
theorem toUint64_nil (A : Option Addr) (c : Nat) (w : World) :
    Calls Try.prog 45 #[.slice A 0 c] w fun e w' => e = .returned (.int .u64 0) ∧ w = w' := by
  go_enter Try.func45, Try.ntmps45
  go_wp2
  refine wp_loop_rounds 1 ?_
  rw [rounds_succ]
  go_wp2
  go_ret
  exact ⟨rfl, rfl⟩

theorem toUint64_any {A : Option Addr} {c : Nat} {xs : List Nat} {w : World} (hx : Rd .u32 w w.heap.size A xs) (hd : Dg b32 xs) (hl : xs.length ≤ 2) :
    Calls Try.prog 45 #[.slice A xs.length c] w fun e w' => e = .returned (.int .u64 (val b32 xs : Nat)) ∧ w = w' := by
  match xs, hl with
  | [], _ => exact toUint64_nil A c w
  | [a], _ => exact toUint64_one A c a w hx (hd a (by simp))
  | [a, b], _ =>
    have h := toUint64_two A c a b w hx (hd a (by simp)) (hd b (by simp))
    rw [show val b32 [a, b] = a + b * 4294967296 from by simp only [val, b32]; omega]
    exact h

set_option maxHeartbeats 1000000 in
theorem smallGCD_any (x y : Nat) (w : World) (hx : x < 18446744073709551616) (hy : y < 18446744073709551616) :
    Calls Try.prog 63 #[.int .u64 (x : Nat), .int .u64 (y : Nat)] w fun e w' => e = .returned (.int .u64 (Nat.gcd x y : Nat)) ∧ ∃ d, w' = w.drewN d := by
  obtain ⟨g, eg⟩ : ∃ g, Hid (Nat.gcd x y = g) := ⟨_, rfl⟩
  rw [eg.out]
  go_enter Try.func63, Try.ntmps63
  go_wp2
  go_loopw [0, 1] (fun u v wr => ∃ a b d : Nat, u = .int .u64 (a : Nat) ∧ v = .int .u64 (b : Nat) ∧ a < 18446744073709551616 ∧ b < 18446744073709551616 ∧ Hid (Nat.gcd a b = g) ∧ wr = w.drewN d) (fun _ v _ => (intOf v).toNat)
  case atStart => exact ⟨x, y, 0, rfl, rfl, hx, hy, eg, rfl⟩
  case round =>
    obtain ⟨a, b, d, rfl, rfl, ha, hb, hg, rfl⟩ := hrel
    rcases Nat.eq_zero_or_pos b with h0 | h0
    · subst h0
      have ht : ((0 : Int) != 0) = false := rfl
      have HG : Hid (a = g) := by have h := hg.out; rw [Nat.gcd_zero_right] at h; exact h
      clear hg
      go_wp2
      go_ret
      exact ⟨ret_u64 (by rw [HG.out]), d, rfl⟩
    · have ht : ((b : Int) != 0) = true := by rw [bne_iff_ne]; omega
      have hlt : a % b < b := Nat.mod_lt _ h0
      have HG : Hid (Nat.gcd b (a % b) = g) := by
        have h := hg.out
        rw [Nat.gcd_comm, Nat.gcd_rec] at h
        rw [Nat.gcd_comm]; exact h
      have hb1 : (1 : Int) ≤ (b : Int) := by omega
      obtain ⟨m, em⟩ : ∃ m, Hid (a % b = m) := ⟨_, rfl⟩
      rw [em.out] at HG hlt
      have hm : ((a : Int).tmod (b : Int)) = (m : Int) := by rw [Int.tmod_eq_emod_of_nonneg (by omega), ← em.out]; simp
      clear hg
      go_wp2
      go_quiet (fail)
      clear hm
      go_wp2
      go_roundw
      case rel => exact ⟨b, m, _, rfl, rfl, hb, by omega, HG, by rw [World.drewN_drewN]⟩
      case measure => simp [intOf]; omega
end Go.Proofs.Ytlnjnoingiohjaa

namespace Go.Proofs.Ytlnjnoingiohjaa
open Go.RowKit Go.Shelf

theorem toWords_l (n : Nat) (hn : n < 18446744073709551616) (w : World) :
    Calls Try.prog 48 #[.int .u64 (n : Nat)] w fun e w' => ∃ A c, e = .returned (.slice A (dig b32 n).length c) ∧ Rd .u32 w' w'.heap.size A (dig b32 n) ∧ (dig b32 n).length ≤ c ∧ c ≤ 9223372036854775807 ∧ Below w.heap.size w w' := by
  refine (toWords_any n hn w).mono ?_
  rintro e w' ⟨v, rfl, ⟨A, c, rfl, h1, h2, h3⟩, hb⟩
  exact ⟨A, c, rfl, h1, h2, h3, hb⟩

theorem wrap_neg_neg (m : Nat) (hm : m < 18446744073709551616) : IntKind.u64.wrap (-IntKind.u64.wrap (-(m : Int))) = (m : Int) := by
  rw [IntKind.wrap_u64, IntKind.wrap_u64]; omega

theorem zof_dig (neg : Bool) (n : Nat) : zof neg (val b32 (dig b32 n)) = zof neg n := by rw [val_dig b32_one]

set_option maxHeartbeats 1000000 in
theorem fromInt64_pos (m : Nat) (hm : m < 9223372036854775808) (w : World) :
    Calls Try.prog 15 #[.int .i64 (m : Nat)] w (ZRet w ((m : Nat))) := by
  have t0 := Two.new w (.bool false) (.slice none 0 0) 24
  have HB0 := Lib.hid ((Below.refl w.heap.size w).alloc (Nat.le_refl _) (.cells #[.bool false, .slice none 0 0] 24))
  have hm' : m < 18446744073709551616 := by omega
  go_enter Try.func15, Try.ntmps15
  go_wp2_with fail
  refine (toWords_l m hm' _).mono ?_
  rintro e w2 ⟨A1, c1, rfl, r1, r2, r3, hb2⟩
  have HI := Lib.hid (integer_l false r1 (Dg_dig b32_one m) r2 r3)
  rw [zof_dig] at HI
  have tR2 := t0.to hb2
  have HB := Lib.hid (HB0.out.trans (hb2.mono HB0.out.size))
  clear r1 hb2 t0
  obtain ⟨z, ez⟩ : ∃ z, Hid (zof false m = z) := ⟨_, rfl⟩
  rw [ez.out] at HI
  go_wp2_with fail
  refine HI.out.mono ?_
  rintro e w3 ⟨A3, c3, rfl, s1, s2, s3, hb3⟩
  obtain ⟨q1, q2, q3, q4, q5⟩ := tR2.to hb3
  have S1 := Lib.hid s1
  have HB3 := Lib.hid (HB.out.trans (hb3.mono HB.out.size))
  clear s1 hb3 tR2
  go_wp2
  have tF := (⟨q1, q2, q3, q4, q5⟩ : Two w3 w.heap.size _ _).set (.bool (decide (z < 0))) (.slice A3 (dig b32 z.natAbs).length c3)
  refine bodyPost_ret (v := .agg #[.bool (decide (z < 0)), .slice A3 (dig b32 z.natAbs).length c3]) (by simp [results, Try.f15, go_sem, tF.c0, tF.c1]) rfl ?_
  rw [show ((m : Nat) : Int) = z from by rw [← ez.out]; rfl]
  exact zret_stored ⟨q1, q2, q3, q4, q5⟩ (Nat.le_refl _) S1.out s2 s3 HB3.out

set_option maxHeartbeats 1000000 in
theorem fromInt64_neg (m : Nat) (hm0 : 0 < m) (hm : m ≤ 9223372036854775808) (w : World) :
    Calls Try.prog 15 #[.int .i64 (-(m : Int))] w (ZRet w (-(m : Int))) := by
  have t0 := Two.new w (.bool false) (.slice none 0 0) 24
  have HB0 := Lib.hid ((Below.refl w.heap.size w).alloc (Nat.le_refl _) (.cells #[.bool false, .slice none 0 0] 24))
  have hm' : m < 18446744073709551616 := by omega
  go_enter Try.func15, Try.ntmps15
  go_wp2_with fail
  rw [wrap_neg_neg m hm']
  refine (toWords_l m hm' _).mono ?_
  rintro e w2 ⟨A1, c1, rfl, r1, r2, r3, hb2⟩
  have HI := Lib.hid (integer_l true r1 (Dg_dig b32_one m) r2 r3)
  rw [zof_dig] at HI
  have tR2 := t0.to hb2
  have HB := Lib.hid (HB0.out.trans (hb2.mono HB0.out.size))
  clear r1 hb2 t0
  obtain ⟨z, ez⟩ : ∃ z, Hid (zof true m = z) := ⟨_, rfl⟩
  rw [ez.out] at HI
  go_wp2_with fail
  refine HI.out.mono ?_
  rintro e w3 ⟨A3, c3, rfl, s1, s2, s3, hb3⟩
  obtain ⟨q1, q2, q3, q4, q5⟩ := tR2.to hb3
  have S1 := Lib.hid s1
  have HB3 := Lib.hid (HB.out.trans (hb3.mono HB.out.size))
  clear s1 hb3 tR2
  go_wp2
  have tF := (⟨q1, q2, q3, q4, q5⟩ : Two w3 w.heap.size _ _).set (.bool (decide (z < 0))) (.slice A3 (dig b32 z.natAbs).length c3)
  refine bodyPost_ret (v := .agg #[.bool (decide (z < 0)), .slice A3 (dig b32 z.natAbs).length c3]) (by simp [results, Try.f15, go_sem, tF.c0, tF.c1]) rfl ?_
  rw [show (-(m : Int) : Int) = z from by rw [← ez.out]; rfl]
  exact zret_stored ⟨q1, q2, q3, q4, q5⟩ (Nat.le_refl _) S1.out s2 s3 HB3.out

theorem fromInt64_any (n : Int) (h1 : -9223372036854775808 ≤ n) (h2 : n ≤ 9223372036854775807) (w : World) :
    Calls Try.prog 15 #[.int .i64 n] w (ZRet w n) := by
  rcases Int.lt_or_le n 0 with h | h
  · obtain ⟨m, rfl⟩ : ∃ m : Nat, n = -(m : Int) := ⟨n.natAbs, by omega⟩
    exact fromInt64_neg m (by omega) (by omega) w
  · obtain ⟨m, rfl⟩ := Int.eq_ofNat_of_zero_le h
    exact fromInt64_pos m (by omega) w

/-- The law's own short name for it. -/
theorem n_any (n : Int) (h1 : -9223372036854775808 ≤ n) (h2 : n ≤ 9223372036854775807) (w : World) :
    Calls Try.prog 42 #[.int .i64 n] w (ZRet w n) := by
  have t0 := Two.new w (.bool false) (.slice none 0 0) 24
  have HB0 := Lib.hid ((Below.refl w.heap.size w).alloc (Nat.le_refl _) (.cells #[.bool false, .slice none 0 0] 24))
  have HF := Lib.hid (fromInt64_any n h1 h2)
  clear h1 h2
  go_enter Try.func42, Try.ntmps42
  go_wp2_with fail
  refine (HF.out _).mono ?_
  rintro e w3 ⟨A3, c3, rfl, s1, s2, s3, hb3⟩
  obtain ⟨q1, q2, q3, q4, q5⟩ := t0.to hb3
  have S1 := Lib.hid s1
  have HB3 := Lib.hid (HB0.out.trans (hb3.mono HB0.out.size))
  clear s1 hb3 t0
  go_wp2
  have tF := (⟨q1, q2, q3, q4, q5⟩ : Two w3 w.heap.size _ _).set (.bool (decide (n < 0))) (.slice A3 (dig b32 n.natAbs).length c3)
  refine bodyPost_ret (v := .agg #[.bool (decide (n < 0)), .slice A3 (dig b32 n.natAbs).length c3]) (by simp [results, Try.f42, go_sem, tF.c0, tF.c1]) rfl ?_
  exact zret_stored ⟨q1, q2, q3, q4, q5⟩ (Nat.le_refl _) S1.out s2 s3 HB3.out
end Go.Proofs.Ytlnjnoingiohjaa

namespace Go.Proofs.Ytlnjnoingiohjaa
open Go.RowKit Go.Shelf

theorem ret_bool {a b : Bool} (h : a = b) : Ending.returned (.bool a) = Ending.returned (.bool b) := by rw [h]
theorem bel_drewN {B : Nat} {a w : World} (h : Below B a w) (n : Nat) : Below B a (w.drewN n) := ⟨h.os, h.tape, h.output, h.size, h.block⟩

theorem take_ne {xs ys : List Nat} {k : Nat} (h1 : k < xs.length) (h2 : k < ys.length) (hne : xs[k] ≠ ys[k]) : xs ≠ ys := by
  rintro rfl
  exact hne rfl

theorem take_eq_succ {xs ys : List Nat} {k : Nat} (h1 : k < xs.length) (h2 : k < ys.length) (h : xs.take k = ys.take k) (he : xs[k] = ys[k]) : xs.take (k + 1) = ys.take (k + 1) := by
  rw [take_snoc xs k h1, take_snoc ys k h2, h, he]

set_option maxHeartbeats 1000000 in
theorem same_neg (n m : Bool) (hnm : (n != m) = true) {A A' : Option Addr} {c c' k k' : Nat} (w : World) :
    Calls Try.prog 14 #[.agg #[.bool n, .slice A k c], .agg #[.bool m, .slice A' k' c']] w fun e w' => e = .returned (.bool false) ∧ Below w.heap.size w w' := by
  cases n <;> cases m
  · exact absurd hnm (by decide)
  · clear hnm
    go_enter Try.func14, Try.ntmps14
    go_wp2
    go_ret
    exact ⟨rfl, ((Below.refl _ _).alloc (Nat.le_refl _) _).alloc (by simp) _⟩
  · clear hnm
    go_enter Try.func14, Try.ntmps14
    go_wp2
    go_ret
    exact ⟨rfl, ((Below.refl _ _).alloc (Nat.le_refl _) _).alloc (by simp) _⟩
  · exact absurd hnm (by decide)

set_option maxHeartbeats 1000000 in
theorem same_len (n : Bool) {A A' : Option Addr} {c c' k k' : Nat} (w : World) (hk : k ≤ 9223372036854775807) (hk' : k' ≤ 9223372036854775807) (hne : k ≠ k') :
    Calls Try.prog 14 #[.agg #[.bool n, .slice A k c], .agg #[.bool n, .slice A' k' c']] w fun e w' => e = .returned (.bool false) ∧ Below w.heap.size w w' := by
  have h0 : (n != n) = false := by simp
  have h1 : ((k : Int) != (k' : Int)) = true := by rw [bne_iff_ne]; omega
  clear hne
  go_enter Try.func14, Try.ntmps14
  go_wp2
  go_ret
  exact ⟨rfl, ((Below.refl _ _).alloc (Nat.le_refl _) _).alloc (by simp) _⟩

set_option maxHeartbeats 2000000 in
theorem same_words (n : Bool) {A A' : Option Addr} {c c' : Nat} {xs ys : List Nat} {w : World} (hx : Rd .u32 w w.heap.size A xs) (hy : Rd .u32 w w.heap.size A' ys) (hl : xs.length = ys.length)
    (hc : xs.length ≤ c) (hc63 : c ≤ 9223372036854775807) (hc' : xs.length ≤ c') (hc63' : c' ≤ 9223372036854775807) :
    Calls Try.prog 14 #[.agg #[.bool n, .slice A xs.length c], .agg #[.bool n, .slice A' xs.length c']] w fun e w' => e = .returned (.bool (decide (xs = ys))) ∧ Below w.heap.size w w' := by
  have h0 : (n != n) = false := by simp
  have h1 : ((xs.length : Int) != (xs.length : Int)) = false := by simp
  have hl63 : xs.length ≤ 9223372036854775807 := by omega
  have HL := Lib.hid hl
  have HX := Lib.hid hx
  have HY := Lib.hid hy
  obtain ⟨W0, hW0⟩ : ∃ W0, W0 = (w.alloc (.cells #[.bool n, .slice A xs.length c] 24)).alloc (.cells #[.bool n, .slice A' xs.length c'] 24) := ⟨_, rfl⟩
  have hb : Below w.heap.size w W0 := by rw [hW0]; exact ((Below.refl _ _).alloc (Nat.le_refl _) _).alloc (by simp) _
  have tX : Two W0 w.heap.size (.bool n) (.slice A xs.length c) := by rw [hW0]; exact (Two.new w _ _ _).alloc _
  have tY : Two W0 (w.heap.size + 1) (.bool n) (.slice A' xs.length c') := by
    have h := Two.new (w.alloc (.cells #[.bool n, .slice A xs.length c] 24)) (.bool n) (.slice A' xs.length c') 24
    rw [World.size_alloc] at h
    rw [hW0]; exact h
  have HW0 := Lib.hid hW0
  clear hl hx hy hW0
  go_enter Try.func14, Try.ntmps14
  go_wp2
  rw [← HW0.out]
  go_loopw [5] (fun i wr => ∃ k : Nat, i = .int .i64 k ∧ k ≤ xs.length ∧ xs.take k = ys.take k ∧ ∃ d, wr = W0.drewN d) (fun i _ => xs.length - (intOf i).toNat)
  case atStart => exact ⟨0, rfl, Nat.zero_le _, by simp, 0, rfl⟩
  case round =>
    obtain ⟨k, rfl, hk, ht, d, rfl⟩ := hrel
    have HT := Lib.hid ht
    have tX' := (tX.to (Below.refl _ _))
    obtain ⟨q1, q2, q3, q4, q5⟩ := tX
    obtain ⟨p1, p2, p3, p4, p5⟩ := tY
    clear ht tX'
    by_cases hlt : k < xs.length
    · have hlt' : k < ys.length := by have := HL.out; omega
      obtain ⟨b1, o1, rfl, _, hc1⟩ := (HX.out.to hb).at_ hlt
      obtain ⟨b2, o2, rfl, _, hc2⟩ := (HY.out.to hb).at_ hlt'
      have e1 := hc1 k hlt
      have e2 := hc2 k hlt'
      have hki : (0 : Int) ≤ (k : Int) := by omega
      have hki' : (k : Int) < (xs.length : Int) := by omega
      clear hc1 hc2
      by_cases he : xs[k] = ys[k]
      · have ht : ((xs[k] : Int) != (ys[k] : Int)) = false := by rw [he]; simp
        have HE := Lib.hid he
        clear he
        go_wp2
        go_quiet (fail)
        go_wp2
        go_roundw
        case rel => exact ⟨k + 1, by simp, by omega, take_eq_succ hlt hlt' HT.out HE.out, _, rfl⟩
        case measure => simp [intOf]; omega
      · have ht : ((xs[k] : Int) != (ys[k] : Int)) = true := by rw [bne_iff_ne]; omega
        have HE := Lib.hid he
        clear he
        go_wp2
        go_quiet (fail)
        go_wp2
        go_ret
        exact ⟨ret_bool (decide_eq_false (take_ne hlt hlt' HE.out)).symm, bel_drewN (bel_drewN hb _) _⟩
    · obtain rfl : k = xs.length := by omega
      clear hlt
      go_wp2
      go_ret
      have h1 := HT.out
      have h2 := HL.out
      rw [List.take_of_length_le (Nat.le_refl _), List.take_of_length_le (by omega)] at h1
      exact ⟨ret_bool (decide_eq_true h1).symm, bel_drewN hb _⟩

/-- Same, whatever the signs and the words. -/
theorem same_any (n m : Bool) {A A' : Option Addr} {c c' : Nat} {xs ys : List Nat} {w : World} (hx : Rd .u32 w w.heap.size A xs) (hy : Rd .u32 w w.heap.size A' ys)
    (hc : xs.length ≤ c) (hc63 : c ≤ 9223372036854775807) (hc' : ys.length ≤ c') (hc63' : c' ≤ 9223372036854775807) :
    Calls Try.prog 14 #[.agg #[.bool n, .slice A xs.length c], .agg #[.bool m, .slice A' ys.length c']] w fun e w' => e = .returned (.bool (decide (n = m ∧ xs = ys))) ∧ Below w.heap.size w w' := by
  by_cases hnm : n = m
  · subst hnm
    by_cases hl : xs.length = ys.length
    · have h := same_words n hx hy hl hc hc63 (by omega) hc63'
      rw [show decide (n = n ∧ xs = ys) = decide (xs = ys) from by simp, ← hl]
      exact h
    · rw [show decide (n = n ∧ xs = ys) = false from by simp; rintro rfl; exact hl rfl]
      exact same_len n w (by omega) (by omega) hl
  · rw [show decide (n = m ∧ xs = ys) = false from by simp [hnm]]
    exact same_neg n m (by cases n <;> cases m <;> simp_all) w
end Go.Proofs.Ytlnjnoingiohjaa
