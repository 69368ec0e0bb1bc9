/- Parts: 2. -/
import Derived.Test.YtgkfbhdaheoecaaGreatFo5
import Derived.Test.YtgkfbhdaheoecaaGreatFo20
import Derived.Test.YtgkfbhdaheoecaaGreatFo22
set_option linter.unusedVariables false
set_option linter.unusedSimpArgs false
set_option maxRecDepth 100000
set_option maxHeartbeats 40000000

namespace Go.Proofs.YtgkfbhdaheoecaaGreat
open Go.RowKit Go.Shelf

theorem canon_same (n : Bool) {xs : List Nat} (hd : Dg b32 xs) : decide (n = decide (zof n (val b32 xs) < 0) /\ xs = dig b32 (zof n (val b32 xs)).natAbs) = canon n xs := by
  rw [zof_abs]
  unfold canon
  split
  · rename_i h
    obtain rfl : xs = [] := List.eq_nil_of_length_eq_zero h
    cases n <;> simp [val, zof, dig_zero]
  · rename_i h
    rw [decide_eq_decide]
    constructor
    · rintro ⟨_, h2⟩
      rw [h2] at h ⊢
      exact dig_last b32_one h
    · intro h2
      have ht : trimN xs = xs.length := by
        rcases List.eq_nil_or_concat xs with h3 | ⟨ys, d, h3⟩
        · rw [h3] at h; exact absurd rfl h
        · rw [List.concat_eq_append] at h3
          rw [h3] at h2 ⊢
          simp at h2
          rw [trimN_snoc _ _ h2]; simp
      have hx : xs = dig b32 (val b32 xs) := by
        rw [<- trimL_dig b32_one hd, trimL, ht, List.take_length]
      have hv : val b32 xs ≠ 0 := fun e => h (by rw [hx, e]; rfl)
      exact ⟨(zof_neg n hv).symm, hx⟩

theorem isCan_x {w : World} {x y : Value} {n : Bool} {xs : List Nat} (h : Zx w x y n xs) : Calls Tryz.prog 34 #[.agg #[x, y]] w fun e w' => e = .returned (.bool (canon n xs)) /\ Below w.heap.size w w' := by
  obtain ⟨A, c, rfl, rfl, r⟩ := h
  exact isCanonical_any n r
end Go.Proofs.YtgkfbhdaheoecaaGreat

namespace Go.Proofs.YtgkfbhdaheoecaaGreat
open Go.RowKit Go.Shelf

theorem zx_zc {w : World} {x y : Value} {n : Bool} {xs : List Nat} (h : Zx w x y n xs) (hc : canon n xs = true) : Zc w x y (zof n (val b32 xs)) := by
  obtain ⟨A, c, rfl, rfl, r⟩ := h
  have h := canon_same n r.dg
  rw [hc] at h
  obtain ⟨h1, h2⟩ := of_decide_eq_true h
  have r1 := r.rd
  have r2 := r.le
  have r3 := r.cap
  rw [h2] at r1 r2
  exact ⟨A, c, by rw [<- h1], by rw [<- h2], r1, r2, r3⟩
theorem isCan_v {w : World} {x y : Value} {n : Bool} {xs : List Nat} {v : Bool} (h : Zx w x y n xs) (hv : canon n xs = v) : Calls Tryz.prog 34 #[.agg #[x, y]] w fun e w' => e = .returned (.bool v) /\ Below w.heap.size w w' := by
  subst hv; exact isCan_x h
theorem same_w {w : World} {x y x' y' : Value} {n : Bool} {xs : List Nat} {a : Int} {v : Bool} (h : Zx w x y n xs) (h' : Zc w x' y' a) (hv : decide (n = decide (a < 0) /\ xs = dig b32 a.natAbs) = v) : Calls Tryz.prog 18 #[.agg #[x, y], .agg #[x', y']] w fun e w' => e = .returned (.bool v) /\ Below w.heap.size w w' := by
  subst hv
  obtain ⟨A, c, rfl, rfl, r⟩ := h
  obtain ⟨A', c', rfl, rfl, k1, k2, k3⟩ := h'
  exact same_any n (decide (a < 0)) r.rd k1 r.le r.cap k2 k3

/-- Whether words are a rational's canonical form. -/
def formQ (n : Bool) (xs : List Nat) (m : Bool) (ys : List Nat) : Bool :=
  canon n xs && (canon m ys && (decide (zof m (val b32 ys) = 0) || decide (0 < zof m (val b32 ys) /\ zof m (val b32 ys) ≠ 1 /\ Int.gcd (zof n (val b32 xs)) (zof m (val b32 ys)) = 1)))

theorem words_of {a : Int} {n : Bool} {xs : List Nat} (h1 : n = decide (a < 0)) (h2 : xs = dig b32 a.natAbs) : zof n (val b32 xs) = a := by
  rw [h1, h2, zof_dig, zof_dec]

theorem form_is {n m : Bool} {xs ys : List Nat} (dx : Dg b32 xs) (dy : Dg b32 ys) {r : Rat} (hr : rv (zof n (val b32 xs)) (zof m (val b32 ys)) = r) :
    (decide (n = decide (r.num < 0) /\ xs = dig b32 r.num.natAbs) && decide (m = decide ((if r.den = 1 then 0 else (r.den : Int)) < 0) /\ ys = dig b32 (if r.den = 1 then 0 else (r.den : Int)).natAbs)) = formQ n xs m ys := by
  rw [Bool.eq_iff_iff]
  unfold formQ
  rw [<- canon_same n dx, <- canon_same m dy]
  simp only [Bool.and_eq_true, Bool.or_eq_true, decide_eq_true_eq]
  constructor
  · rintro ⟨⟨h1, h2⟩, ⟨h3, h4⟩⟩
    have e1 := words_of h1 h2
    have e2 := words_of h3 h4
    rw [e1, e2]
    refine ⟨⟨h1, h2⟩, ⟨h3, h4⟩, ?_⟩
    by_cases hd : r.den = 1
    · rw [if_pos hd]; exact .inl rfl
    · rw [if_neg hd]
      have := r.den_pos
      exact .inr ⟨by omega, by omega, r.reduced⟩
  · rintro ⟨⟨h1, h2⟩, ⟨h3, h4⟩, h5⟩
    have key : r.num = zof n (val b32 xs) /\ (if r.den = 1 then 0 else (r.den : Int)) = zof m (val b32 ys) := by
      generalize zof n (val b32 xs) = p at hr h5
      generalize zof m (val b32 ys) = q at hr h5
      rcases h5 with h5 | ⟨h5, h6, h7⟩
      · subst h5
        subst hr
        have e : rv p 0 = ((p : Int) : Rat) := by unfold rv; rw [if_pos rfl]
        rw [e]
        exact ⟨rfl, by rw [show ((p : Int) : Rat).den = 1 from rfl, if_pos rfl]⟩
      · obtain ⟨d, rfl⟩ := Int.eq_ofNat_of_zero_le (Int.le_of_lt h5)
        have hd : d ≠ 0 := by omega
        have e : rv p (d : Int) = Rat.mk' p d hd h7 := by
          unfold rv
          rw [if_neg (by omega), <- Rat.mk_eq_divInt (nz := hd) (c := h7)]
        rw [<- hr, e]
        refine ⟨rfl, ?_⟩
        show (if d = 1 then 0 else (d : Int)) = d
        rw [if_neg (by omega)]
    rw [key.1, key.2]
    exact ⟨⟨h1, h2⟩, ⟨h3, h4⟩⟩


set_option maxRecDepth 100000 in
theorem isCanF_1 {w : World} {a1 a2 a3 a4 : Value} {n m : Bool} {xs ys : List Nat} (hA : Qx w a1 a2 a3 a4 n xs m ys) (hc : canon n xs = false) :
    Calls Tryz.prog 13 #[.agg #[a1, a2, a3, a4]] w (fun e w' => e = .returned (.bool false) /\ Below w.heap.size w w') := by
  have HC := Lib.hid hc
  clear hc
  obtain ⟨W0, hW0⟩ : ∃ W0, W0 = w.alloc (.cells #[a1, a2, a3, a4] 26) := ⟨_, rfl⟩
  have hbw : Below w.heap.size w W0 := by rw [hW0]; exact ((Below.refl _ _).alloc (Nat.le_refl _) _)
  have tA : Four W0 (w.heap.size) a1 a2 a3 a4 := by
    have h := Four.new w a1 a2 a3 a4 26
    rw [hW0]; exact h
  replace hA := hA.to hbw
  have HW0 := Lib.hid hW0
  have HB := Lib.hid hbw
  clear hW0 hbw
  go_enter Tryz.func13, Tryz.ntmps13
  go_wp2_with fail
  rw [<- HW0.out]
  clear HW0
  have kktA0 := tA.c0
  have kktA1 := tA.c1
  have kktA2 := tA.c2
  have kktA3 := tA.c3
  go_wp2_with fail
  refine (isCan_v hA.1 HC.out).mono ?_
  rintro e V1 ⟨rfl, bb⟩
  clear kktA0 kktA1 kktA2 kktA3
  replace tA := tA.to bb
  replace hA := hA.to bb
  replace HB := Lib.hid (HB.out.trans (bb.mono HB.out.size))
  clear bb
  clear tA
  go_wp2
  go_ret
  exact ⟨rfl, HB.out⟩


set_option maxRecDepth 100000 in
theorem isCanF_2 {w : World} {a1 a2 a3 a4 : Value} {n m : Bool} {xs ys : List Nat} (hA : Qx w a1 a2 a3 a4 n xs m ys) (hc : canon n xs = true) (hd : canon m ys = false) :
    Calls Tryz.prog 13 #[.agg #[a1, a2, a3, a4]] w (fun e w' => e = .returned (.bool false) /\ Below w.heap.size w w') := by
  have HC := Lib.hid hc
  have HD := Lib.hid hd
  clear hc hd
  obtain ⟨W0, hW0⟩ : ∃ W0, W0 = w.alloc (.cells #[a1, a2, a3, a4] 26) := ⟨_, rfl⟩
  have hbw : Below w.heap.size w W0 := by rw [hW0]; exact ((Below.refl _ _).alloc (Nat.le_refl _) _)
  have tA : Four W0 (w.heap.size) a1 a2 a3 a4 := by
    have h := Four.new w a1 a2 a3 a4 26
    rw [hW0]; exact h
  replace hA := hA.to hbw
  have HW0 := Lib.hid hW0
  have HB := Lib.hid hbw
  clear hW0 hbw
  go_enter Tryz.func13, Tryz.ntmps13
  go_wp2_with fail
  rw [<- HW0.out]
  clear HW0
  have kktA0 := tA.c0
  have kktA1 := tA.c1
  have kktA2 := tA.c2
  have kktA3 := tA.c3
  go_wp2_with fail
  refine (isCan_v hA.1 HC.out).mono ?_
  rintro e V1 ⟨rfl, bb⟩
  clear kktA0 kktA1 kktA2 kktA3
  replace tA := tA.to bb
  replace hA := hA.to bb
  replace HB := Lib.hid (HB.out.trans (bb.mono HB.out.size))
  clear bb
  have kktA0 := tA.c0
  have kktA1 := tA.c1
  have kktA2 := tA.c2
  have kktA3 := tA.c3
  go_wp2_with fail
  refine (isCan_v hA.2 HD.out).mono ?_
  rintro e V2 ⟨rfl, bb⟩
  clear kktA0 kktA1 kktA2 kktA3
  replace tA := tA.to bb
  replace hA := hA.to bb
  replace HB := Lib.hid (HB.out.trans (bb.mono HB.out.size))
  clear bb
  clear tA
  go_wp2
  go_ret
  exact ⟨rfl, HB.out⟩


set_option maxRecDepth 100000 in
theorem isCanF_3 {w : World} {a1 a2 : Value} {m : Bool} {A : Option Addr} {l c : Nat} {p q : Int} (h1 : Zc w a1 a2 p) (h2 : Zc w (.bool m) (.slice A l c) q) (sp : Sg p) (sq : Sg q) (hq : sgn q = -1) (hl : ((l : Int) == 0) = false) :
    Calls Tryz.prog 13 #[.agg #[a1, a2, .bool m, .slice A l c]] w (fun e w' => e = .returned (.bool false) /\ Below w.heap.size w w') := by
  have SP := Lib.hid sp
  have SQ := Lib.hid sq
  have HQ := Lib.hid hq
  clear sp sq hq
  obtain ⟨W0, hW0⟩ : ∃ W0, W0 = w.alloc (.cells #[a1, a2, .bool m, .slice A l c] 26) := ⟨_, rfl⟩
  have hbw : Below w.heap.size w W0 := by rw [hW0]; exact ((Below.refl _ _).alloc (Nat.le_refl _) _)
  have tA : Four W0 (w.heap.size) a1 a2 (.bool m) (.slice A l c) := by
    have h := Four.new w a1 a2 (.bool m) (.slice A l c) 26
    rw [hW0]; exact h
  replace h1 := h1.to hbw
  replace h2 := h2.to hbw
  have HW0 := Lib.hid hW0
  have HB := Lib.hid hbw
  clear hW0 hbw
  go_enter Tryz.func13, Tryz.ntmps13
  go_wp2_with fail
  rw [<- HW0.out]
  clear HW0
  have kktA0 := tA.c0
  have kktA1 := tA.c1
  have kktA2 := tA.c2
  have kktA3 := tA.c3
  go_wp2_with fail
  refine (isCan_c h1 SP.out.sm (by decide)).mono ?_
  rintro e V1 ⟨rfl, bb⟩
  clear kktA0 kktA1 kktA2 kktA3
  replace tA := tA.to bb
  replace h2 := h2.to bb
  replace HB := Lib.hid (HB.out.trans (bb.mono HB.out.size))
  clear bb
  have kktA0 := tA.c0
  have kktA1 := tA.c1
  have kktA2 := tA.c2
  have kktA3 := tA.c3
  go_wp2_with fail
  refine (isCan_c h2 SQ.out.sm (by decide)).mono ?_
  rintro e V2 ⟨rfl, bb⟩
  clear kktA0 kktA1 kktA2 kktA3
  replace tA := tA.to bb
  replace h2 := h2.to bb
  replace HB := Lib.hid (HB.out.trans (bb.mono HB.out.size))
  clear bb
  have kktA0 := tA.c0
  have kktA1 := tA.c1
  have kktA2 := tA.c2
  have kktA3 := tA.c3
  go_wp2_with fail
  refine (sign_v (h2.zs SQ.out) HQ.out).mono ?_
  rintro e V3 ⟨rfl, bb⟩
  clear kktA0 kktA1 kktA2 kktA3
  replace tA := tA.to bb
  replace HB := Lib.hid (HB.out.trans (bb.mono HB.out.size))
  clear bb
  clear tA
  go_wp2
  go_ret
  exact ⟨rfl, HB.out⟩


theorem isCan_f {w : World} {a1 a2 a3 a4 : Value} {n m : Bool} {xs ys : List Nat} (hA : Qx w a1 a2 a3 a4 n xs m ys) (l1 : xs.length <= 10000) (l2 : ys.length <= 10000) {v : Bool} (hv : formQ n xs m ys = v) :
    Calls Tryz.prog 13 #[.agg #[a1, a2, a3, a4]] w fun e w' => e = .returned (.bool v) /\ Below w.heap.size w w' := by
  subst hv
  unfold formQ
  cases hc1 : canon n xs with
  | false => simp only [Bool.false_and]; exact isCanF_1 hA hc1
  | true =>
    cases hc2 : canon m ys with
    | false => simp only [Bool.false_and, Bool.and_false]; exact isCanF_2 hA hc1 hc2
    | true =>
      have z1 := zx_zc hA.1 hc1
      have z2 := zx_zc hA.2 hc2
      have s1 : Sg (zof n (val b32 xs)) := by
        obtain ⟨⟨_, _, _, _, r⟩, _⟩ := hA
        exact (Sm.zof r.dg l1).sg (Nat.le_refl _)
      have s2 : Sg (zof m (val b32 ys)) := by
        obtain ⟨_, ⟨_, _, _, _, r⟩⟩ := hA
        exact (Sm.zof r.dg l2).sg (Nat.le_refl _)
      simp only [Bool.true_and]
      generalize zof n (val b32 xs) = p at z1 s1
      generalize zof m (val b32 ys) = q at z2 s2
      by_cases h0 : q = 0
      · rw [decide_eq_true h0, Bool.true_or]
        exact isCanQ_0 z1 z2 s1 h0
      · rw [decide_eq_false h0, Bool.false_or]
        by_cases hp : 0 < q
        · have h := isCanQ z1 z2 s1 s2 hp
          rw [show decide (0 < q /\ q ≠ 1 /\ Int.gcd p q = 1) = decide (q ≠ 1 /\ Int.gcd p q = 1) from by rw [decide_eq_decide]; exact ⟨fun h => h.2, fun h => ⟨hp, h⟩⟩]
          exact h
        · rw [decide_eq_false (fun h => hp h.1)]
          have hl : (dig b32 q.natAbs).length ≠ 0 := fun h => by
            have h1 := (dig_nil b32_one).1 (List.eq_nil_of_length_eq_zero h)
            omega
          have hl2 : (((dig b32 q.natAbs).length : Int) == 0) = false := by rw [beq_eq_false_iff_ne]; omega
          have z2' := z2
          obtain ⟨A, c, rfl, rfl, _⟩ := z2'
          exact isCanF_3 z1 z2 s1 s2 (sgn_neg (by omega)) hl2


set_option maxRecDepth 100000 in
theorem isF_1 {w : World} {a1 a2 a3 a4 b1 b2 b3 b4 : Value} {n m : Bool} {xs ys : List Nat} {r : Rat} (hA : Qx w a1 a2 a3 a4 n xs m ys) (hB : Qc w b1 b2 b3 b4 r) (hc : decide (n = decide (r.num < 0) /\ xs = dig b32 r.num.natAbs) = false) :
    Calls Tryz.prog 9 #[.agg #[a1, a2, a3, a4], .agg #[b1, b2, b3, b4]] w (fun e w' => e = .returned (.bool false) /\ Below w.heap.size w w') := by
  have HC := Lib.hid hc
  clear hc
  obtain ⟨W0, hW0⟩ : ∃ W0, W0 = (w.alloc (.cells #[a1, a2, a3, a4] 26)).alloc (.cells #[b1, b2, b3, b4] 26) := ⟨_, rfl⟩
  have hbw : Below w.heap.size w W0 := by rw [hW0]; exact (((Below.refl _ _).alloc (Nat.le_refl _) _).alloc (by simp) _)
  have tA : Four W0 (w.heap.size) a1 a2 a3 a4 := by
    have h := Four.new w a1 a2 a3 a4 26
    rw [hW0]; exact (h.alloc _)
  have tB : Four W0 (w.heap.size + 1) b1 b2 b3 b4 := by
    have h := Four.new (w.alloc (.cells #[a1, a2, a3, a4] 26)) b1 b2 b3 b4 26
    rw [World.size_alloc] at h
    rw [hW0]; exact h
  replace hA := hA.to hbw
  replace hB := hB.to hbw
  have HW0 := Lib.hid hW0
  have HB := Lib.hid hbw
  clear hW0 hbw
  go_enter Tryz.func9, Tryz.ntmps9
  go_wp2_with fail
  rw [<- HW0.out]
  clear HW0
  have kktA0 := tA.c0
  have kktA1 := tA.c1
  have kktA2 := tA.c2
  have kktA3 := tA.c3
  have kktB0 := tB.c0
  have kktB1 := tB.c1
  have kktB2 := tB.c2
  have kktB3 := tB.c3
  go_wp2_with fail
  refine (same_w hA.1 hB.1 HC.out).mono ?_
  rintro e V1 ⟨rfl, bb⟩
  clear kktA0 kktA1 kktA2 kktA3 kktB0 kktB1 kktB2 kktB3
  replace tA := tA.to bb
  replace tB := tB.to bb
  replace HB := Lib.hid (HB.out.trans (bb.mono HB.out.size))
  clear bb
  clear tA tB
  go_wp2
  go_ret
  exact ⟨rfl, HB.out⟩


set_option maxRecDepth 100000 in
theorem isF_2 {w : World} {a1 a2 a3 a4 b1 b2 b3 b4 : Value} {n m : Bool} {xs ys : List Nat} {r : Rat} (hA : Qx w a1 a2 a3 a4 n xs m ys) (hB : Qc w b1 b2 b3 b4 r) (hc : decide (n = decide (r.num < 0) /\ xs = dig b32 r.num.natAbs) = true) {v : Bool} (hd : decide (m = decide ((if r.den = 1 then 0 else (r.den : Int)) < 0) /\ ys = dig b32 (if r.den = 1 then 0 else (r.den : Int)).natAbs) = v) :
    Calls Tryz.prog 9 #[.agg #[a1, a2, a3, a4], .agg #[b1, b2, b3, b4]] w (fun e w' => e = .returned (.bool v) /\ Below w.heap.size w w') := by
  have HC := Lib.hid hc
  have HD := Lib.hid hd
  clear hc hd
  obtain ⟨W0, hW0⟩ : ∃ W0, W0 = (w.alloc (.cells #[a1, a2, a3, a4] 26)).alloc (.cells #[b1, b2, b3, b4] 26) := ⟨_, rfl⟩
  have hbw : Below w.heap.size w W0 := by rw [hW0]; exact (((Below.refl _ _).alloc (Nat.le_refl _) _).alloc (by simp) _)
  have tA : Four W0 (w.heap.size) a1 a2 a3 a4 := by
    have h := Four.new w a1 a2 a3 a4 26
    rw [hW0]; exact (h.alloc _)
  have tB : Four W0 (w.heap.size + 1) b1 b2 b3 b4 := by
    have h := Four.new (w.alloc (.cells #[a1, a2, a3, a4] 26)) b1 b2 b3 b4 26
    rw [World.size_alloc] at h
    rw [hW0]; exact h
  replace hA := hA.to hbw
  replace hB := hB.to hbw
  have HW0 := Lib.hid hW0
  have HB := Lib.hid hbw
  clear hW0 hbw
  go_enter Tryz.func9, Tryz.ntmps9
  go_wp2_with fail
  rw [<- HW0.out]
  clear HW0
  have kktA0 := tA.c0
  have kktA1 := tA.c1
  have kktA2 := tA.c2
  have kktA3 := tA.c3
  have kktB0 := tB.c0
  have kktB1 := tB.c1
  have kktB2 := tB.c2
  have kktB3 := tB.c3
  go_wp2_with fail
  refine (same_w hA.1 hB.1 HC.out).mono ?_
  rintro e V1 ⟨rfl, bb⟩
  clear kktA0 kktA1 kktA2 kktA3 kktB0 kktB1 kktB2 kktB3
  replace tA := tA.to bb
  replace tB := tB.to bb
  replace hA := hA.to bb
  replace hB := hB.to bb
  replace HB := Lib.hid (HB.out.trans (bb.mono HB.out.size))
  clear bb
  have kktA0 := tA.c0
  have kktA1 := tA.c1
  have kktA2 := tA.c2
  have kktA3 := tA.c3
  have kktB0 := tB.c0
  have kktB1 := tB.c1
  have kktB2 := tB.c2
  have kktB3 := tB.c3
  go_wp2_with fail
  refine (same_w hA.2 hB.2 HD.out).mono ?_
  rintro e V2 ⟨rfl, bb⟩
  clear kktA0 kktA1 kktA2 kktA3 kktB0 kktB1 kktB2 kktB3
  replace tA := tA.to bb
  replace tB := tB.to bb
  replace HB := Lib.hid (HB.out.trans (bb.mono HB.out.size))
  clear bb
  clear tA tB
  go_wp2
  go_ret
  exact ⟨rfl, HB.out⟩


theorem is_f {w : World} {a1 a2 a3 a4 b1 b2 b3 b4 : Value} {n m : Bool} {xs ys : List Nat} (hA : Qx w a1 a2 a3 a4 n xs m ys) (hB : Qc w b1 b2 b3 b4 (rv (zof n (val b32 xs)) (zof m (val b32 ys)))) {v : Bool} (hv : formQ n xs m ys = v) :
    Calls Tryz.prog 9 #[.agg #[a1, a2, a3, a4], .agg #[b1, b2, b3, b4]] w fun e w' => e = .returned (.bool v) /\ Below w.heap.size w w' := by
  subst hv
  obtain ⟨dx, dy⟩ : Dg b32 xs /\ Dg b32 ys := by
    obtain ⟨⟨_, _, _, _, r1⟩, ⟨_, _, _, _, r2⟩⟩ := hA
    exact ⟨r1.dg, r2.dg⟩
  rw [<- form_is dx dy rfl]
  generalize rv (zof n (val b32 xs)) (zof m (val b32 ys)) = r at hB
  cases hc : decide (n = decide (r.num < 0) /\ xs = dig b32 r.num.natAbs) with
  | false => rw [Bool.false_and]; exact isF_1 hA hB hc
  | true => rw [Bool.true_and]; exact isF_2 hA hB hc rfl
end Go.Proofs.YtgkfbhdaheoecaaGreat
