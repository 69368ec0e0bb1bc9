/- Parts: KDivide. -/
import Derived.Test.YtoaghihhobggoaaDv14
import Derived.Test.YtoaghihhobggoaaDv19
set_option linter.unusedVariables false
set_option linter.unusedSimpArgs false

namespace Go.Proofs.Ytoaghihhobggoaa
open Go.RowKit Go.Shelf

/-- What divide promises. -/
def DivRet2 (w : World) (q m : Nat) (e : Ending) (w' : World) : Prop := ∃ A1 c1 qs A2 c2 rs, e = .returned (.tuple #[.slice A1 qs.length c1, .slice A2 rs.length c2]) ∧ Arg w' A1 c1 qs ∧ Arg w' A2 c2 rs ∧ val b32 qs = q ∧ val b32 rs = m ∧ Below w.heap.size w w'

theorem DivRet.two {w : World} {q m k : Nat} {e : Ending} {w' : World} (h : DivRet w q m e w') (hq : q < b32 ^ k) (hk : k ≤ 4294967295) : DivRet2 w q m e w' := by
  obtain ⟨A1, c1, rs, A2, c2, rfl, r1, r2, r3, r4, r5, r6, r7, r8, r9, hb⟩ := h
  have := dig_length_le b32_one hq
  exact ⟨A1, c1, dig b32 q, A2, c2, rs, rfl, ⟨r1, Dg_dig b32_one _, r5, r6, by omega⟩, ⟨r2, r3, r7, r8, r9⟩, val_dig b32_one q, r4, hb⟩

set_option maxRecDepth 100000 in
set_option maxHeartbeats 4000000 in
theorem divide_word {A A' : Option Addr} {c c' : Nat} {xs : List Nat} {d : Nat} {w : World} (hx : Arg w A c xs) (hy : Arg w A' c' [d]) (tx : trimL xs = xs) (ty : trimL [d] = [d]) (hd0 : 0 < d) (hlt : val b32 [d] ≤ val b32 xs) (hl : 2 < xs.length) :
    Calls Try.prog 59 #[.slice A xs.length c, .slice A' 1 c'] w (DivRet2 w (val b32 xs / d) (val b32 xs % d)) := by
  have HC := Lib.hid (compare_l hx hy)
  rw [tx, ty] at HC
  obtain ⟨cv, hcv, hcv0⟩ : ∃ cv, cmpN (val b32 xs) (val b32 [d]) = cv ∧ 0 ≤ cv := ⟨_, rfl, by unfold cmpN; split <;> (try split) <;> omega⟩
  rw [hcv] at HC
  have HX := Lib.hid hx
  have HY := Lib.hid hy
  have hd : d < 4294967296 := hy.dg d (by simp)
  have hxs := hx.small
  clear hcv hx hy tx ty hlt
  go_enter Try.func59, Try.ntmps59
  go_wp2_with fail
  refine HC.out.mono ?_
  rintro e w0 ⟨rfl, hb0⟩
  have HCL := Lib.hid (clone_any c (HX.out.to hb0).rd (by omega))
  go_wp2_with fail
  refine HCL.out.mono ?_
  rintro e w1 ⟨v, rfl, hown, hb1⟩
  obtain ⟨j, hj⟩ : ∃ j, xs.length = j + 1 := ⟨xs.length - 1, by omega⟩
  have hown2 := hown
  rw [hj] at hown2
  obtain ⟨g, cap, rfl⟩ := ownsRow_succ hown2
  rw [← hj] at hown2
  obtain ⟨hbf, hg1, hg2, hg3⟩ := Buf.of_own rfl hown2
  obtain ⟨b2, o2, eA, _, hc2⟩ := ((HY.out.to hb0).to hb1).rd.at_ (k := 0) (by simp)
  have cy := hc2 0 (by simp)
  simp only [List.getElem_cons_zero, Nat.add_zero] at cy
  have HD := Lib.hid (callsIn_wide.1 (divWord_any g cap cap d xs w1 hbf HX.out.dg hd0 hd hbf.le hg3))
  have hb01 := hb0.trans (hb1.mono hb0.size)
  rw [eA]
  have HB := Lib.hid hb01
  have hszg : w.heap.size ≤ g := Nat.le_trans hb0.size hg1
  rw [← hj]
  clear hown hown2 hc2 eA HCL hb0 hb1 hj hb01
  go_wp2_with fail
  refine HD.out.mono ?_
  rintro e w2 ⟨rfl, hbf2, hg⟩
  have hdl : (divs d xs).1.length = xs.length := divs_length d xs
  have hb2 := HB.out.trans (Grown.below hg hszg HB.out.size)
  obtain ⟨hq1, hq3⟩ := divs_quot hd0 xs
  have hdd := divs_dg hd0 HX.out.dg
  have hq2 := divs_lt hd0 xs
  obtain ⟨r, er⟩ : ∃ r, (divs d xs).2 = r := ⟨_, rfl⟩
  rw [er] at hq2 hq3 ⊢
  have hA1 : Arg w2 (some ⟨g, 0, none⟩) cap (divs d xs).1 := ⟨hbf2.rd hbf2.lt, hdd, hbf2.le, hg3, by rw [hdl]; exact hxs⟩
  have hnew := Rd.new .u32 w2 52 [r]
  have HRES : Hid (DivRet2 w (val b32 xs / d) (val b32 xs % d) (.returned (.tuple #[.slice (some ⟨g, 0, none⟩) xs.length cap, .slice (some ⟨w2.heap.size, 0, none⟩) 1 1])) (w2.alloc (.cells #[.int .u32 (r : Nat)] 52))) :=
    ⟨some ⟨g, 0, none⟩, cap, (divs d xs).1, some ⟨w2.heap.size, 0, none⟩, 1, [r], by rw [hdl]; rfl, hA1.to ((Below.refl _ _).alloc (Nat.le_refl _) _), ⟨hnew.more (by simp), Dg.one (by unfold b32; omega), by simp, by omega, by simp⟩, hq1, by simp [val, hq3], hb2.alloc hb2.size _⟩
  clear hA1 hnew hbf2 hg hbf hdl hq1 hq3 hdd hb2 er
  go_wp2
  go_ret2
  exact HRES.out

set_option maxRecDepth 100000 in
set_option maxHeartbeats 4000000 in
theorem divide_far {A A' : Option Addr} {c c' : Nat} {xs ys : List Nat} {w : World} (hx : Arg w A c xs) (hy : Arg w A' c' ys) (tx : trimL xs = xs) (ty : trimL ys = ys) (hlt : val b32 ys ≤ val b32 xs) (hl : 2 < xs.length) (n2 : Nat) (hl2 : ys.length = n2 + 2) (hle : ys.length ≤ xs.length) (htop : ys.getD (n2 + 1) 0 ≠ 0) (hsm : xs.length ≤ 4294967294) :
    Calls Try.prog 59 #[.slice A xs.length c, .slice A' ys.length c'] w (DivRet2 w (val b32 xs / val b32 ys) (val b32 xs % val b32 ys)) := by
  have HC := Lib.hid (compare_l hx hy)
  rw [tx, ty] at HC
  obtain ⟨cv, hcv, hcv0⟩ : ∃ cv, cmpN (val b32 xs) (val b32 ys) = cv ∧ 0 ≤ cv := ⟨_, rfl, by unfold cmpN; split <;> (try split) <;> omega⟩
  rw [hcv] at HC
  have HX := Lib.hid hx
  have HY := Lib.hid hy
  have hly : 2 ≤ ys.length := by omega
  have HL2 := Lib.hid hl2
  clear hcv hx hy tx ty hlt hl2
  go_enter Try.func59, Try.ntmps59
  go_wp2_with fail
  refine HC.out.mono ?_
  rintro e w0 ⟨rfl, hb0⟩
  have HD := Lib.hid (callsIn_wide.1 (divideLong_any (HX.out.to hb0) (HY.out.to hb0) n2 HL2.out hle htop))
  have HB := Lib.hid hb0
  clear hb0
  go_wp2_with fail
  refine HD.out.mono ?_
  rintro e w1 ⟨g1, g2, qs, rs, rfl, b1, b2, d1, d2, l2, l1, v1, v2, o1, o2, hne, hb1⟩
  have HRES : Hid (DivRet2 w (val b32 xs / val b32 ys) (val b32 xs % val b32 ys) (.returned (.tuple #[.slice (some ⟨g1, 0, none⟩) qs.length qs.length, .slice (some ⟨g2, 0, none⟩) rs.length rs.length])) w1) :=
    ⟨some ⟨g1, 0, none⟩, _, qs, some ⟨g2, 0, none⟩, _, rs, rfl, ⟨b1.rd b1.lt, d1, Nat.le_refl _, by omega, by omega⟩, ⟨b2.rd b2.lt, d2, Nat.le_refl _, by omega, by omega⟩, v1, v2, HB.out.trans (hb1.mono HB.out.size)⟩
  clear b1 b2 d1 d2 v1 v2 hb1 l1 l2
  go_wp2
  go_ret2
  exact HRES.out

theorem trimmed_top {xs : List Nat} {n : Nat} (hd : Dg b32 xs) (ht : trimL xs = xs) (hn : xs.length = n + 1) : xs.getD n 0 ≠ 0 := by
  intro h0
  have e1 := top_one b32 xs n hn
  rw [h0, Nat.mul_zero, Nat.add_zero] at e1
  have l1 : val b32 (xs.take n) < b32 ^ n := by
    have := val_lt (hd.take n)
    rwa [List.length_take, Nat.min_eq_left (by omega)] at this
  have h2 := dig_length_le b32_one (show val b32 xs < b32 ^ n by omega)
  rw [← trimL_dig b32_one hd, ht] at h2
  omega

/-- divide in full. -/
theorem divide_all {A A' : Option Addr} {c c' : Nat} {xs ys : List Nat} {w : World} (hx : Arg w A c xs) (hy : Arg w A' c' ys) (h0 : 0 < val b32 ys) (hsm : xs.length ≤ 4294967294) :
    Calls Try.prog 59 #[.slice A (trimL xs).length c, .slice A' (trimL ys).length c'] w (DivRet2 w (val b32 xs / val b32 ys) (val b32 xs % val b32 ys)) := by
  have tt : ∀ {zs : List Nat}, Dg b32 zs → trimL (trimL zs) = trimL zs := fun h => by rw [trimL_dig b32_one h, trimL_of_dig b32_one]
  have hxt := hx.trim
  have hyt := hy.trim
  have txx := tt hx.dg
  have tyy := tt hy.dg
  have hsm2 : (trimL xs).length ≤ 4294967294 := Nat.le_trans (trimL_le xs) hsm
  rw [← val_trimL (b := b32) xs, ← val_trimL (b := b32) ys]
  rw [← val_trimL (b := b32) ys] at h0
  generalize trimL xs = us at *
  generalize trimL ys = vs at *
  have hq : val b32 us / val b32 vs < b32 ^ us.length := Nat.lt_of_le_of_lt (Nat.div_le_self _ _) (val_lt hxt.dg)
  rcases Nat.lt_or_ge (val b32 us) (val b32 vs) with h | h
  · exact (divide_less hxt hyt txx tyy h).mono fun e w' hh => hh.two hq hxt.small
  · have hle : vs.length ≤ us.length := by
      have h1 := val_lt hxt.dg
      rw [← tyy, trimL_dig b32_one hyt.dg]
      exact dig_length_le b32_one (by omega)
    rcases Nat.lt_or_ge 2 us.length with hl | hl
    · match vs, hyt, tyy, h0, hle with
      | [], _, _, h0, _ => simp [val] at h0
      | [d], hyt, tyy, h0, _ =>
        have e1 : val b32 [d] = d := by simp [val]
        have := divide_word hxt hyt txx tyy (by rw [← e1]; exact h0) h hl
        rw [e1]
        exact this
      | d :: e :: t, hyt, tyy, h0, hle =>
        refine divide_far hxt hyt txx tyy h hl t.length (by simp) hle (trimmed_top hyt.dg tyy (by simp)) hsm2
    · exact (divide_two hxt hyt txx tyy h h0 hl (by omega)).mono fun e w' hh => hh.two hq hxt.small
end Go.Proofs.Ytoaghihhobggoaa
