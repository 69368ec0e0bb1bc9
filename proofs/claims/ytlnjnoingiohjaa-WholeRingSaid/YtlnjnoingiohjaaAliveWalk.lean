/- The law's worked examples hold. -/
import Derived.Test.YtlnjnoingiohjaaAlive
namespace Go.Proofs.Ytlnjnoingiohjaa
open Go.RowKit Go.Shelf

/-- A variable that holds an integer, and its words. -/
structure Bz (W : World) (g : Nat) (neg : Bool) (A : Option Addr) (c : Nat) (xs : List Nat) : Prop where
  two : Two W g (.bool neg) (.slice A xs.length c)
  arg : Arg W A c xs

theorem Bz.to {W V : World} {g c : Nat} {neg : Bool} {A : Option Addr} {xs : List Nat} (h : Bz W g neg A c xs) (hb : Below W.heap.size W V) : Bz V g neg A c xs := ⟨h.two.to hb, h.arg.to hb⟩

theorem pair_new {w : World} {na nb : Bool} {A B : Option Addr} {c d : Nat} {xs ys : List Nat} (a : Arg w A c xs) (b : Arg w B d ys) :
    Bz ((w.alloc (.cells #[.bool na, .slice A xs.length c] 24)).alloc (.cells #[.bool nb, .slice B ys.length d] 24)) w.heap.size na A c xs ∧
    Bz ((w.alloc (.cells #[.bool na, .slice A xs.length c] 24)).alloc (.cells #[.bool nb, .slice B ys.length d] 24)) (w.heap.size + 1) nb B d ys ∧
    Below w.heap.size w ((w.alloc (.cells #[.bool na, .slice A xs.length c] 24)).alloc (.cells #[.bool nb, .slice B ys.length d] 24)) := by
  have hb : Below w.heap.size w ((w.alloc (.cells #[.bool na, .slice A xs.length c] 24)).alloc (.cells #[.bool nb, .slice B ys.length d] 24)) := ((Below.refl _ _).alloc (Nat.le_refl _) _).alloc (by simp) _
  refine ⟨⟨(Two.new w _ _ _).alloc _, a.to hb⟩, ⟨?_, b.to hb⟩, hb⟩
  have h := Two.new (w.alloc (.cells #[.bool na, .slice A xs.length c] 24)) (.bool nb) (.slice B ys.length d) 24
  rwa [World.size_alloc] at h

theorem one_new (w : World) (o : Obj) : Below w.heap.size w (w.alloc o) := (Below.refl _ _).alloc (Nat.le_refl _) _

set_option maxRecDepth 100000 in
set_option maxHeartbeats 8000000 in
theorem alive_any (w : World) : Calls Try.prog 10 #[] w fun e w' => e = .returned (.bool true) ∧ Below w.heap.size w w' := by
  have HB := Below.refl w.heap.size w
  go_enter Try.func10, Try.ntmps10
  go_wp2_with fail
  refine (n_g (-7) true 7 (by decide) (by decide) (by decide) (by decide) (by decide) _).mono ?_
  rintro e w1 ⟨A1, c1, x1, rfl, h1, a1, b⟩
  replace HB := HB.trans (b.mono HB.size)
  clear b
  go_wp2_with fail
  refine (n_g (2) false 2 (by decide) (by decide) (by decide) (by decide) (by decide) _).mono ?_
  rintro e w2 ⟨A2, c2, x2, rfl, h2, a2, b⟩
  replace a1 := a1.to b
  replace HB := HB.trans (b.mono HB.size)
  clear b
  go_wp2_with fail
  refine (dm_1 h1 h2 a1 a2).mono ?_
  rintro e w3 ⟨Aq1, cq1, xq1, Ar1, cr1, xr1, rfl, hq1, hr1, aq, ar, b⟩
  replace a1 := a1.to b
  replace a2 := a2.to b
  replace HB := HB.trans (b.mono HB.size)
  clear b
  clear a1 a2 h1 h2
  obtain ⟨p1, r1, b⟩ := pair_new (na := true) (nb := false) aq ar
  replace HB := HB.trans (b.mono HB.size)
  clear b aq ar
  obtain ⟨g1, hg1⟩ : ∃ g, g = w3.heap.size := ⟨_, rfl⟩
  obtain ⟨V1, hV1⟩ : ∃ V, V = (w3.alloc (.cells #[.bool true, .slice Aq1 xq1.length cq1] 24)).alloc (.cells #[.bool false, .slice Ar1 xr1.length cr1] 24) := ⟨_, rfl⟩
  go_wp2_with fail
  rw [← hV1, ← hg1] at p1 r1
  rw [← hV1] at HB
  rw [← hV1, ← hg1]
  clear hV1 hg1
  go_wp2_with fail
  refine (n_g (-7) true 7 (by decide) (by decide) (by decide) (by decide) (by decide) _).mono ?_
  rintro e w4 ⟨A1, c1, x1, rfl, h1, a1, b⟩
  replace p1 := p1.to b
  replace r1 := r1.to b
  replace HB := HB.trans (b.mono HB.size)
  clear b
  go_wp2_with fail
  refine (n_g (-2) true 2 (by decide) (by decide) (by decide) (by decide) (by decide) _).mono ?_
  rintro e w5 ⟨A2, c2, x2, rfl, h2, a2, b⟩
  replace p1 := p1.to b
  replace r1 := r1.to b
  replace a1 := a1.to b
  replace HB := HB.trans (b.mono HB.size)
  clear b
  go_wp2_with fail
  refine (dm_2 h1 h2 a1 a2).mono ?_
  rintro e w6 ⟨Aq2, cq2, xq2, Ar2, cr2, xr2, rfl, hq2, hr2, aq, ar, b⟩
  replace p1 := p1.to b
  replace r1 := r1.to b
  replace a1 := a1.to b
  replace a2 := a2.to b
  replace HB := HB.trans (b.mono HB.size)
  clear b
  clear a1 a2 h1 h2
  obtain ⟨p2, r2, b⟩ := pair_new (na := false) (nb := false) aq ar
  replace p1 := p1.to b
  replace r1 := r1.to b
  replace HB := HB.trans (b.mono HB.size)
  clear b aq ar
  obtain ⟨g2, hg2⟩ : ∃ g, g = w6.heap.size := ⟨_, rfl⟩
  obtain ⟨V2, hV2⟩ : ∃ V, V = (w6.alloc (.cells #[.bool false, .slice Aq2 xq2.length cq2] 24)).alloc (.cells #[.bool false, .slice Ar2 xr2.length cr2] 24) := ⟨_, rfl⟩
  go_wp2_with fail
  rw [← hV2, ← hg2] at p2 r2
  rw [← hV2] at HB p1 r1
  rw [← hV2, ← hg2]
  clear hV2 hg2
  go_wp2_with fail
  refine (n_g (7) false 7 (by decide) (by decide) (by decide) (by decide) (by decide) _).mono ?_
  rintro e w7 ⟨A1, c1, x1, rfl, h1, a1, b⟩
  replace p1 := p1.to b
  replace r1 := r1.to b
  replace p2 := p2.to b
  replace r2 := r2.to b
  replace HB := HB.trans (b.mono HB.size)
  clear b
  go_wp2_with fail
  refine (n_g (-2) true 2 (by decide) (by decide) (by decide) (by decide) (by decide) _).mono ?_
  rintro e w8 ⟨A2, c2, x2, rfl, h2, a2, b⟩
  replace p1 := p1.to b
  replace r1 := r1.to b
  replace p2 := p2.to b
  replace r2 := r2.to b
  replace a1 := a1.to b
  replace HB := HB.trans (b.mono HB.size)
  clear b
  go_wp2_with fail
  refine (dm_3 h1 h2 a1 a2).mono ?_
  rintro e w9 ⟨Aq3, cq3, xq3, Ar3, cr3, xr3, rfl, hq3, hr3, aq, ar, b⟩
  replace p1 := p1.to b
  replace r1 := r1.to b
  replace p2 := p2.to b
  replace r2 := r2.to b
  replace a1 := a1.to b
  replace a2 := a2.to b
  replace HB := HB.trans (b.mono HB.size)
  clear b
  clear a1 a2 h1 h2
  obtain ⟨p3, r3, b⟩ := pair_new (na := true) (nb := false) aq ar
  replace p1 := p1.to b
  replace r1 := r1.to b
  replace p2 := p2.to b
  replace r2 := r2.to b
  replace HB := HB.trans (b.mono HB.size)
  clear b aq ar
  obtain ⟨g3, hg3⟩ : ∃ g, g = w9.heap.size := ⟨_, rfl⟩
  obtain ⟨V3, hV3⟩ : ∃ V, V = (w9.alloc (.cells #[.bool true, .slice Aq3 xq3.length cq3] 24)).alloc (.cells #[.bool false, .slice Ar3 xr3.length cr3] 24) := ⟨_, rfl⟩
  go_wp2_with fail
  rw [← hV3, ← hg3] at p3 r3
  rw [← hV3] at HB p1 r1 p2 r2
  rw [← hV3, ← hg3]
  clear hV3 hg3
  go_wp2_with fail
  refine (parse_minus_zero _).mono ?_
  rintro e w10 ⟨rfl, b⟩
  replace p1 := p1.to b
  replace r1 := r1.to b
  replace p2 := p2.to b
  replace r2 := r2.to b
  replace p3 := p3.to b
  replace r3 := r3.to b
  replace HB := HB.trans (b.mono HB.size)
  clear b
  have b := one_new w10 (.cells #[.bool false, .slice none 0 0] 24)
  replace p1 := p1.to b
  replace r1 := r1.to b
  replace p2 := p2.to b
  replace r2 := r2.to b
  replace p3 := p3.to b
  replace r3 := r3.to b
  replace HB := HB.trans (b.mono HB.size)
  clear b
  have e0 := p1.two.c0
  have e1 := p1.two.c1
  go_wp2_with fail
  refine (is_g (-4) true 4 hq1 (by decide) (by decide) (by decide) (by decide) p1.arg).mono ?_
  rintro e w11 ⟨rfl, b⟩
  clear e0 e1
  replace r1 := r1.to b
  replace p2 := p2.to b
  replace r2 := r2.to b
  replace p3 := p3.to b
  replace r3 := r3.to b
  replace HB := HB.trans (b.mono HB.size)
  clear b
  clear p1
  have e0 := r1.two.c0
  have e1 := r1.two.c1
  go_wp2_with fail
  refine (is_g (1) false 1 hr1 (by decide) (by decide) (by decide) (by decide) r1.arg).mono ?_
  rintro e w12 ⟨rfl, b⟩
  clear e0 e1
  replace p2 := p2.to b
  replace r2 := r2.to b
  replace p3 := p3.to b
  replace r3 := r3.to b
  replace HB := HB.trans (b.mono HB.size)
  clear b
  clear r1
  have e0 := p2.two.c0
  have e1 := p2.two.c1
  go_wp2_with fail
  refine (is_g (4) false 4 hq2 (by decide) (by decide) (by decide) (by decide) p2.arg).mono ?_
  rintro e w13 ⟨rfl, b⟩
  clear e0 e1
  replace r2 := r2.to b
  replace p3 := p3.to b
  replace r3 := r3.to b
  replace HB := HB.trans (b.mono HB.size)
  clear b
  clear p2
  have e0 := r2.two.c0
  have e1 := r2.two.c1
  go_wp2_with fail
  refine (is_g (1) false 1 hr2 (by decide) (by decide) (by decide) (by decide) r2.arg).mono ?_
  rintro e w14 ⟨rfl, b⟩
  clear e0 e1
  replace p3 := p3.to b
  replace r3 := r3.to b
  replace HB := HB.trans (b.mono HB.size)
  clear b
  clear r2
  have e0 := p3.two.c0
  have e1 := p3.two.c1
  go_wp2_with fail
  refine (is_g (-3) true 3 hq3 (by decide) (by decide) (by decide) (by decide) p3.arg).mono ?_
  rintro e w15 ⟨rfl, b⟩
  clear e0 e1
  replace r3 := r3.to b
  replace HB := HB.trans (b.mono HB.size)
  clear b
  clear p3
  have e0 := r3.two.c0
  have e1 := r3.two.c1
  go_wp2_with fail
  refine (is_g (1) false 1 hr3 (by decide) (by decide) (by decide) (by decide) r3.arg).mono ?_
  rintro e w16 ⟨rfl, b⟩
  clear e0 e1
  replace HB := HB.trans (b.mono HB.size)
  clear b
  clear r3
  go_wp2_with fail
  refine (n_g (-12) true 12 (by decide) (by decide) (by decide) (by decide) (by decide) _).mono ?_
  rintro e w17 ⟨A1, c1, x1, rfl, h1, a1, b⟩
  replace HB := HB.trans (b.mono HB.size)
  clear b
  go_wp2_with fail
  refine (n_g (18) false 18 (by decide) (by decide) (by decide) (by decide) (by decide) _).mono ?_
  rintro e w18 ⟨A2, c2, x2, rfl, h2, a2, b⟩
  replace a1 := a1.to b
  replace HB := HB.trans (b.mono HB.size)
  clear b
  go_wp2_with fail
  refine (gcd_g true false 12 18 6 h1 h2 (by decide) (by decide) (by decide) a1 a2).mono ?_
  rintro e w19 ⟨A3, c3, x3, rfl, h3, a3, b⟩
  replace a1 := a1.to b
  replace a2 := a2.to b
  replace HB := HB.trans (b.mono HB.size)
  clear b
  clear a1 a2 h1 h2
  go_wp2_with fail
  refine (is_g 6 false 6 h3 (by decide) (by decide) (by decide) (by decide) a3).mono ?_
  rintro e w20 ⟨rfl, b⟩
  replace HB := HB.trans (b.mono HB.size)
  clear b
  clear a3 h3
  go_wp2_with fail
  refine (n_g (0) false 0 (by decide) (by decide) (by decide) (by decide) (by decide) _).mono ?_
  rintro e w21 ⟨A1, c1, x1, rfl, h1, a1, b⟩
  replace HB := HB.trans (b.mono HB.size)
  clear b
  go_wp2_with fail
  refine (n_g (-5) true 5 (by decide) (by decide) (by decide) (by decide) (by decide) _).mono ?_
  rintro e w22 ⟨A2, c2, x2, rfl, h2, a2, b⟩
  replace a1 := a1.to b
  replace HB := HB.trans (b.mono HB.size)
  clear b
  go_wp2_with fail
  refine (gcd_g false true 0 5 5 h1 h2 (by decide) (by decide) (by decide) a1 a2).mono ?_
  rintro e w23 ⟨A3, c3, x3, rfl, h3, a3, b⟩
  replace a1 := a1.to b
  replace a2 := a2.to b
  replace HB := HB.trans (b.mono HB.size)
  clear b
  clear a1 a2 h1 h2
  go_wp2_with fail
  refine (is_g 5 false 5 h3 (by decide) (by decide) (by decide) (by decide) a3).mono ?_
  rintro e w24 ⟨rfl, b⟩
  replace HB := HB.trans (b.mono HB.size)
  clear b
  clear a3 h3
  go_wp2_with fail
  refine (n_g (-9223372036854775808) true 9223372036854775808 (by decide) (by decide) (by decide) (by decide) (by decide) _).mono ?_
  rintro e w25 ⟨A1, c1, x1, rfl, h1, a1, b⟩
  replace HB := HB.trans (b.mono HB.size)
  clear b
  go_wp2_with fail
  refine (format_g h1 a1).mono ?_
  rintro e w26 ⟨rfl, b⟩
  replace HB := HB.trans (b.mono HB.size)
  clear b
  clear a1 h1
  have HBH := Lib.hid HB
  clear HB
  go_wp2
  go_ret
  exact ⟨by rfl, HBH.out⟩
end Go.Proofs.Ytlnjnoingiohjaa
