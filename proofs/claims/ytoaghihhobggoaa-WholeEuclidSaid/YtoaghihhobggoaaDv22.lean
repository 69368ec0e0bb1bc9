/- Parts: KStepMath, KSt4, KSteps, KApplyMath. -/
import Derived.Test.YtoaghihhobggoaaDv16
import Derived.Test.YtoaghihhobggoaaDv19
set_option linter.unusedVariables false
set_option linter.unusedSimpArgs false

namespace Go.Proofs.Ytoaghihhobggoaa

/-- What is kept of the factors: of a0 and b0 some steps have made a and b. -/
structure Lm (a0 b0 P Q R S a b : Nat) (σ : Bool) : Prop where
  ha : a0 = S * a + Q * b
  hb : b0 = R * a + P * b
  det : if σ then P * S = Q * R + 1 else Q * R = P * S + 1
  rs : R ≤ S
  qs : Q ≤ S
  s1 : 1 ≤ S
  ba : b ≤ a

theorem Lm.start {a b : Nat} (h : b ≤ a) : Lm a b 1 0 0 1 a b true := ⟨by omega, by omega, by simp, by omega, by omega, by omega, h⟩

theorem Lm.next {a0 b0 P Q R S a b : Nat} {σ : Bool} (h : Lm a0 b0 P Q R S a b σ) (hb : 0 < b) (hpq : P ≤ Q ∨ Q = 0 ∧ R = 0 ∧ P = 1) : Lm a0 b0 R S (P + a / b * R) (Q + a / b * S) b (a % b) (!σ) ∧ R ≤ S := by
  have h1 := Nat.div_add_mod a b
  have hn : 1 ≤ a / b := by rw [Nat.le_div_iff_mul_le hb]; have := h.ba; omega
  have h2 := Nat.mod_lt a hb
  obtain ⟨n, en⟩ : ∃ n, a / b = n := ⟨_, rfl⟩
  obtain ⟨m, em⟩ : ∃ m, a % b = m := ⟨_, rfl⟩
  rw [en] at h1 hn ⊢
  rw [em] at h1 h2 ⊢
  obtain ⟨ha, hb', det, rs, qs, s1, ba⟩ := h
  refine ⟨⟨?_, ?_, ?_, ?_, ?_, ?_, by omega⟩, rs⟩
  · rw [ha, ← h1]; grind
  · rw [hb', ← h1]; grind
  · cases σ
    · simp only [Bool.false_eq_true, if_false, Bool.not_false, if_true] at det ⊢
      grind
    · simp only [if_true, Bool.not_true, Bool.false_eq_true, if_false] at det ⊢
      grind
  · rcases hpq with h3 | ⟨rfl, rfl, rfl⟩
    · have := Nat.mul_le_mul_left n rs
      omega
    · have := Nat.mul_le_mul hn s1
      omega
  · have := Nat.mul_le_mul hn (Nat.le_refl S)
    omega
  · have := Nat.mul_le_mul hn s1
    omega

/-- How great the factors are. -/
theorem Lm.small {a0 b0 P Q R S a b : Nat} {σ : Bool} (h : Lm a0 b0 P Q R S a b σ) (ha : 0 < a) (h0 : a0 < 9223372036854775808) (hb0 : b0 ≤ a0) : S < 9223372036854775808 ∧ R < 9223372036854775808 := by
  have h1 : S * 1 ≤ S * a := Nat.mul_le_mul_left _ ha
  have h2 := h.ha
  have h3 := h.rs
  constructor <;> omega

theorem Lm.sure {a0 b0 P Q R S a b : Nat} {σ : Bool} (h : Lm a0 b0 P Q R S a b σ) (h0 : a0 < 9223372036854775808) (h1 : S ≤ b) (h2 : b + Q + S ≤ a) : S < 2147483648 := by
  rcases Nat.lt_or_ge S 2147483648 with h3 | h3
  · exact h3
  · have h4 : 2147483648 * 4294967296 ≤ S * a := Nat.mul_le_mul h3 (by omega)
    have := h.ha
    omega

/-- The steps that a few leading bits decide are steps of the whole integers. -/
theorem steps_whole {X Y T P Q R S a b : Nat} {σ : Bool} (hT : 0 < T) (h : Lm (X / T) (Y / T) P Q R S a b σ) (hpq : P ≤ Q) (hQ : 1 ≤ Q) (h1 : S ≤ b) (h2 : b + Q + S ≤ a) :
    ∃ X' Y' : Nat, (if σ then P * X = X' + Q * Y ∧ S * Y = Y' + R * X else Q * Y = X' + P * X ∧ R * X = Y' + S * Y) ∧ Y' < X' ∧ X = S * X' + Q * Y' ∧ Y = R * X' + P * Y' := by
  obtain ⟨ha, hb, det, rs, qs, s1, ba⟩ := h
  have hX := Nat.div_add_mod X T
  have hY := Nat.div_add_mod Y T
  have hx := Nat.mod_lt X hT
  have hy := Nat.mod_lt Y hT
  rw [ha] at hX
  rw [hb] at hY
  obtain ⟨x, ex⟩ : ∃ x, X % T = x := ⟨_, rfl⟩
  obtain ⟨y, ey⟩ : ∃ y, Y % T = y := ⟨_, rfl⟩
  rw [ex] at hX hx
  rw [ey] at hY hy
  obtain ⟨t, rfl⟩ : ∃ t, T = t + 1 := ⟨T - 1, by omega⟩
  have k1 : b * (t + 1) + Q * (t + 1) + S * (t + 1) ≤ a * (t + 1) := by rw [← Nat.add_mul, ← Nat.add_mul]; exact Nat.mul_le_mul_right _ h2
  have k2 : S * (t + 1) ≤ b * (t + 1) := Nat.mul_le_mul_right _ h1
  have x1 : x ≤ t := by omega
  have y1 : y ≤ t := by omega
  have m1 := Nat.mul_le_mul_left Q y1
  have m2 := Nat.mul_le_mul_left S y1
  have m3 := Nat.mul_le_mul_left P x1
  have m4 := Nat.mul_le_mul_left R x1
  have m5 := Nat.mul_le_mul_right t hpq
  have m6 := Nat.mul_le_mul_right t rs
  cases σ
  · simp only [Bool.false_eq_true, if_false] at det ⊢
    have e1 : Q * Y = P * X + (a * (t + 1) + Q * y) - P * x := by
      have : Q * Y + P * x = P * X + (a * (t + 1) + Q * y) := by grind
      omega
    have e2 : R * X = S * Y + (b * (t + 1) + R * x) - S * y := by
      have : R * X + S * y = S * Y + (b * (t + 1) + R * x) := by grind
      omega
    simp only [Nat.mul_add, Nat.mul_one] at k1 k2 e1 e2
    have f1 : Q * Y = (a * (t + 1) + Q * y - P * x) + P * X := by simp only [Nat.mul_add, Nat.mul_one]; omega
    have f2 : R * X = (b * (t + 1) + R * x - S * y) + S * Y := by simp only [Nat.mul_add, Nat.mul_one]; omega
    obtain ⟨X', eX'⟩ : ∃ X', a * (t + 1) + Q * y - P * x = X' := ⟨_, rfl⟩
    obtain ⟨Y', eY'⟩ : ∃ Y', b * (t + 1) + R * x - S * y = Y' := ⟨_, rfl⟩
    have hlt : Y' < X' := by
      rw [← eX', ← eY']
      simp only [Nat.mul_add, Nat.mul_one]
      omega
    rw [eX'] at f1
    rw [eY'] at f2
    refine ⟨X', Y', ⟨f1, f2⟩, hlt, ?_, ?_⟩
    · grind
    · grind
  · simp only [if_true] at det ⊢
    have f1 : P * X = (a * (t + 1) + P * x - Q * y) + Q * Y := by
      have h3 : P * X + Q * y = Q * Y + (a * (t + 1) + P * x) := by grind
      simp only [Nat.mul_add, Nat.mul_one] at k1 k2 h3 ⊢
      omega
    have f2 : S * Y = (b * (t + 1) + S * y - R * x) + R * X := by
      have h3 : S * Y + R * x = R * X + (b * (t + 1) + S * y) := by grind
      simp only [Nat.mul_add, Nat.mul_one] at k1 k2 h3 ⊢
      omega
    obtain ⟨X', eX'⟩ : ∃ X', a * (t + 1) + P * x - Q * y = X' := ⟨_, rfl⟩
    obtain ⟨Y', eY'⟩ : ∃ Y', b * (t + 1) + S * y - R * x = Y' := ⟨_, rfl⟩
    have hlt : Y' < X' := by
      rw [← eX', ← eY']
      simp only [Nat.mul_add, Nat.mul_one] at k1 k2 ⊢
      omega
    rw [eX'] at f1
    rw [eY'] at f2
    refine ⟨X', Y', ⟨f1, f2⟩, hlt, ?_, ?_⟩
    · grind
    · grind

theorem steps_gcd {X Y X' Y' P Q R S : Nat} {σ : Bool} (h : if σ then P * X = X' + Q * Y ∧ S * Y = Y' + R * X else Q * Y = X' + P * X ∧ R * X = Y' + S * Y) (hX : X = S * X' + Q * Y') (hY : Y = R * X' + P * Y') : Nat.gcd X' Y' = Nat.gcd X Y := by
  apply Nat.dvd_antisymm
  · have h1 := Nat.gcd_dvd_left X' Y'
    have h2 := Nat.gcd_dvd_right X' Y'
    apply Nat.dvd_gcd
    · rw [hX]; exact Nat.dvd_add (Nat.dvd_mul_left_of_dvd h1 _) (Nat.dvd_mul_left_of_dvd h2 _)
    · rw [hY]; exact Nat.dvd_add (Nat.dvd_mul_left_of_dvd h1 _) (Nat.dvd_mul_left_of_dvd h2 _)
  · have h1 := Nat.gcd_dvd_left X Y
    have h2 := Nat.gcd_dvd_right X Y
    have key : ∀ u v t : Nat, u = t + v → Nat.gcd X Y ∣ u → Nat.gcd X Y ∣ v → Nat.gcd X Y ∣ t := fun u v t e hu hv => (Nat.dvd_add_left hv).1 (e ▸ hu)
    cases σ
    · simp only [Bool.false_eq_true, if_false] at h
      exact Nat.dvd_gcd (key _ _ _ h.1 (Nat.dvd_mul_left_of_dvd h2 _) (Nat.dvd_mul_left_of_dvd h1 _)) (key _ _ _ h.2 (Nat.dvd_mul_left_of_dvd h1 _) (Nat.dvd_mul_left_of_dvd h2 _))
    · simp only [if_true] at h
      exact Nat.dvd_gcd (key _ _ _ h.1 (Nat.dvd_mul_left_of_dvd h1 _) (Nat.dvd_mul_left_of_dvd h2 _)) (key _ _ _ h.2 (Nat.dvd_mul_left_of_dvd h2 _) (Nat.dvd_mul_left_of_dvd h1 _))

/-- Factors with their signs. -/
def Sg4 (σ : Bool) (P Q R S : Nat) (p q r s : Int) : Prop := if σ then p = P ∧ q = -(Q : Int) ∧ r = -(R : Int) ∧ s = S else p = -(P : Int) ∧ q = Q ∧ r = R ∧ s = -(S : Int)
end Go.Proofs.Ytoaghihhobggoaa

namespace Go.Proofs.Ytoaghihhobggoaa
open Go.RowKit Go.Shelf

/-- Four cells of a variable. -/
structure St4 (W : World) (g : Nat) (a b c d : Value) : Prop where
  c0 : W.cell? ⟨g, 0, none⟩ = some a
  c1 : W.cell? ⟨g, 1, none⟩ = some b
  c2 : W.cell? ⟨g, 2, none⟩ = some c
  c3 : W.cell? ⟨g, 3, none⟩ = some d
  f0 : W.frozen? ⟨g, 0, none⟩ = false
  f1 : W.frozen? ⟨g, 1, none⟩ = false
  f2 : W.frozen? ⟨g, 2, none⟩ = false
  f3 : W.frozen? ⟨g, 3, none⟩ = false
  lt : g < W.heap.size
theorem St4.toB {W V : World} {g B : Nat} {a b c d : Value} (h : St4 W g a b c d) (hb : Below B W V) (hg : g < B) : St4 V g a b c d :=
  ⟨(hb.cell (p := ⟨g, 0, none⟩) hg).trans h.c0, (hb.cell (p := ⟨g, 1, none⟩) hg).trans h.c1, (hb.cell (p := ⟨g, 2, none⟩) hg).trans h.c2, (hb.cell (p := ⟨g, 3, none⟩) hg).trans h.c3,
   (hb.frozen (p := ⟨g, 0, none⟩) hg).trans h.f0, (hb.frozen (p := ⟨g, 1, none⟩) hg).trans h.f1, (hb.frozen (p := ⟨g, 2, none⟩) hg).trans h.f2, (hb.frozen (p := ⟨g, 3, none⟩) hg).trans h.f3, Nat.lt_of_lt_of_le h.lt hb.size⟩
theorem St4.of {W : World} {g : Nat} {a b c d : Value} {t : TypeId} (h : W.heap[g]? = some (.cells #[a, b, c, d] t (0, 0))) : St4 W g a b c d :=
  ⟨by simp [World.cell?, h], by simp [World.cell?, h], by simp [World.cell?, h], by simp [World.cell?, h], by simp [World.frozen?, h], by simp [World.frozen?, h], by simp [World.frozen?, h], by simp [World.frozen?, h], (Array.getElem?_eq_some_iff.1 h).1⟩
theorem St4.new (W : World) (a b c d : Value) (t : TypeId) : St4 (W.alloc (.cells #[a, b, c, d] t)) W.heap.size a b c d := St4.of (World.alloc_heap_new W _)
theorem St4.alloc {W : World} {g : Nat} {a b c d : Value} (h : St4 W g a b c d) (o : Obj) : St4 (W.alloc o) g a b c d := h.toB ((Below.refl _ _).alloc (Nat.le_refl _) _) h.lt
/-- The world behind a store of four cells. -/
def lay4 (W : World) (g : Nat) (a b c d : Value) : World := (((W.setCell ⟨g, 0, none⟩ a).setCell ⟨g, 1, none⟩ b).setCell ⟨g, 2, none⟩ c).setCell ⟨g, 3, none⟩ d

theorem lay4_st {W : World} {g : Nat} {a b c d : Value} (a' b' c' d' : Value) (h : St4 W g a b c d) : St4 (lay4 W g a' b' c' d') g a' b' c' d' := by
  have e0 : (W.setCell ⟨g, 0, none⟩ a').cell? ⟨g, 0, none⟩ = some a' := World.cell?_setCell_same' _ _ _ (by rw [h.c0]; rfl)
  have o1 : (W.setCell ⟨g, 0, none⟩ a').cell? ⟨g, 1, none⟩ = some b := (World.cell?_setCell_other _ _ _ _ (by simp)).trans h.c1
  have e1 : ((W.setCell ⟨g, 0, none⟩ a').setCell ⟨g, 1, none⟩ b').cell? ⟨g, 1, none⟩ = some b' := World.cell?_setCell_same' _ _ _ (by rw [o1]; rfl)
  have o2 : ((W.setCell ⟨g, 0, none⟩ a').setCell ⟨g, 1, none⟩ b').cell? ⟨g, 2, none⟩ = some c := (World.cell?_setCell_other _ _ _ _ (by simp)).trans ((World.cell?_setCell_other _ _ _ _ (by simp)).trans h.c2)
  have e2 : (((W.setCell ⟨g, 0, none⟩ a').setCell ⟨g, 1, none⟩ b').setCell ⟨g, 2, none⟩ c').cell? ⟨g, 2, none⟩ = some c' := World.cell?_setCell_same' _ _ _ (by rw [o2]; rfl)
  have o3 : (((W.setCell ⟨g, 0, none⟩ a').setCell ⟨g, 1, none⟩ b').setCell ⟨g, 2, none⟩ c').cell? ⟨g, 3, none⟩ = some d := (World.cell?_setCell_other _ _ _ _ (by simp)).trans ((World.cell?_setCell_other _ _ _ _ (by simp)).trans ((World.cell?_setCell_other _ _ _ _ (by simp)).trans h.c3))
  have fz : ∀ i : Nat, (lay4 W g a' b' c' d').frozen? ⟨g, i, none⟩ = W.frozen? ⟨g, i, none⟩ := fun i => by
    unfold lay4
    rw [World.frozen?_setCell, World.frozen?_setCell, World.frozen?_setCell, World.frozen?_setCell]
  refine ⟨?_, ?_, ?_, ?_, (fz 0).trans h.f0, (fz 1).trans h.f1, (fz 2).trans h.f2, (fz 3).trans h.f3, by unfold lay4; simpa [World.setCell] using h.lt⟩
  · exact (World.cell?_setCell_other _ _ _ _ (by simp)).trans ((World.cell?_setCell_other _ _ _ _ (by simp)).trans ((World.cell?_setCell_other _ _ _ _ (by simp)).trans e0))
  · exact (World.cell?_setCell_other _ _ _ _ (by simp)).trans ((World.cell?_setCell_other _ _ _ _ (by simp)).trans e1)
  · exact (World.cell?_setCell_other _ _ _ _ (by simp)).trans e2
  · exact World.cell?_setCell_same' _ _ _ (by rw [o3]; rfl)
theorem lay4_far {W : World} {g g' : Nat} {a b c d : Value} (a' b' c' d' : Value) (h : St4 W g a b c d) (hne : g ≠ g') : St4 (lay4 W g' a' b' c' d') g a b c d := by
  have hc : ∀ i : Nat, (lay4 W g' a' b' c' d').cell? ⟨g, i, none⟩ = W.cell? ⟨g, i, none⟩ := fun i => by
    unfold lay4
    rw [World.cell?_setCell_other _ _ _ _ (by simp [hne]), World.cell?_setCell_other _ _ _ _ (by simp [hne]), World.cell?_setCell_other _ _ _ _ (by simp [hne]), World.cell?_setCell_other _ _ _ _ (by simp [hne])]
  have fz : ∀ i : Nat, (lay4 W g' a' b' c' d').frozen? ⟨g, i, none⟩ = W.frozen? ⟨g, i, none⟩ := fun i => by
    unfold lay4
    rw [World.frozen?_setCell, World.frozen?_setCell, World.frozen?_setCell, World.frozen?_setCell]
  exact ⟨(hc 0).trans h.c0, (hc 1).trans h.c1, (hc 2).trans h.c2, (hc 3).trans h.c3, (fz 0).trans h.f0, (fz 1).trans h.f1, (fz 2).trans h.f2, (fz 3).trans h.f3, by unfold lay4; simpa [World.setCell] using h.lt⟩
theorem lay4_below' {W w : World} {g B : Nat} (a' b' c' d' : Value) (h : Below B w W) (hg : B ≤ g) : Below B w (lay4 W g a' b' c' d') :=
  (((h.setCell (p := ⟨g, 0, none⟩) hg _).setCell (p := ⟨g, 1, none⟩) hg _).setCell (p := ⟨g, 2, none⟩) hg _).setCell (p := ⟨g, 3, none⟩) hg _
theorem lay4_below {W w : World} (a' b' c' d' : Value) (h : Below w.heap.size w W) : Below w.heap.size w (lay4 W w.heap.size a' b' c' d') := lay4_below' a' b' c' d' h (Nat.le_refl _)
end Go.Proofs.Ytoaghihhobggoaa

namespace Go.Proofs.Ytoaghihhobggoaa
open Go.RowKit Go.Shelf

/-- What the factors that are handed back are good for. -/
def StepsRet (a0 b0 : Nat) (p q r s : Int) : Prop := q = 0 ∨ ∃ (P Q R S a b : Nat) (σ : Bool), Sg4 σ P Q R S p q r s ∧ Lm a0 b0 P Q R S a b σ ∧ P ≤ Q ∧ 1 ≤ Q ∧ S ≤ b ∧ b + Q + S ≤ a

theorem stepB {a0 b0 P Q R S b m T : Nat} {σ : Bool} (h : Lm a0 b0 P Q R S b m σ) (hT : T ≤ S) (hm : m < b) (hS : S ≤ m) (h0 : a0 < 9223372036854775808) :
    ∃ bm SSS : Nat, (b : Int) - (m : Int) = (bm : Int) ∧ (T : Int) + (S : Int) = (SSS : Int) ∧ bm < 9223372036854775808 ∧ SSS < 9223372036854775808 ∧ (SSS ≤ bm → m + T + S ≤ b) := by
  have hS62 : S < 4611686018427387904 := by
    rcases Nat.lt_or_ge S 4611686018427387904 with h3 | h3
    · exact h3
    · have h4 : 4611686018427387904 * 4611686018427387904 ≤ S * b := Nat.mul_le_mul h3 (by omega)
      have h5 := h.ha
      omega
  have hb : b < 9223372036854775808 := by
    have h4 := Nat.mul_le_mul_right b h.s1
    have h5 := h.ha
    omega
  exact ⟨b - m, T + S, by omega, by omega, by omega, by omega, fun h => by omega⟩
theorem mx1 (x : Nat) : max (x : Int) (-(x : Int)) = (x : Int) := by omega
theorem mx2 (x : Nat) : max (-(x : Int)) (x : Int) = (x : Int) := by omega
theorem wpos (x : Nat) (h : x < 9223372036854775808) : wrap64 (x : Int) = (x : Int) := IntWalk.wrap64_in _ (by omega)
theorem wneg (x : Nat) (h : x < 9223372036854775808) : wrap64 (-(x : Int)) = -(x : Int) := IntWalk.wrap64_in _ (by omega)
theorem xneg (x : Nat) (h : 1 ≤ x) : -(x : Int) < (x : Int) := by omega

set_option maxRecDepth 100000 in
set_option maxHeartbeats 8000000 in
theorem leadingSteps_any (a0 b0 : Nat) (hle : b0 ≤ a0) (ha0 : a0 < 9223372036854775808) (w : World) :
    Calls Try.prog 81 #[.int .i64 (a0 : Nat), .int .i64 (b0 : Nat)] w fun e w' => ∃ p q r s : Int, e = .returned (.agg #[.int .i64 p, .int .i64 q, .int .i64 r, .int .i64 s]) ∧ Below w.heap.size w w' ∧ StepsRet a0 b0 p q r s := by
  have s5 : St4 ((w.alloc (.cells #[.int .i64 0, .int .i64 0, .int .i64 0, .int .i64 0] 93)).alloc (.cells #[.int .i64 1, .int .i64 0, .int .i64 0, .int .i64 1] 93)) (w.heap.size + 1) (.int .i64 1) (.int .i64 0) (.int .i64 0) (.int .i64 1) := by
    have h := St4.new (w.alloc (.cells #[.int .i64 0, .int .i64 0, .int .i64 0, .int .i64 0] 93)) (.int .i64 1) (.int .i64 0) (.int .i64 0) (.int .i64 1) 93
    rwa [World.size_alloc] at h
  have s4 : St4 ((w.alloc (.cells #[.int .i64 0, .int .i64 0, .int .i64 0, .int .i64 0] 93)).alloc (.cells #[.int .i64 1, .int .i64 0, .int .i64 0, .int .i64 1] 93)) w.heap.size (.int .i64 0) (.int .i64 0) (.int .i64 0) (.int .i64 0) := (St4.new w (.int .i64 0) (.int .i64 0) (.int .i64 0) (.int .i64 0) 93).alloc _
  have hb0 : Below w.heap.size w ((w.alloc (.cells #[.int .i64 0, .int .i64 0, .int .i64 0, .int .i64 0] 93)).alloc (.cells #[.int .i64 1, .int .i64 0, .int .i64 0, .int .i64 1] 93)) := ((Below.refl _ _).alloc (Nat.le_refl _) _).alloc (by simp) _
  have S5 := Lib.hid s5
  have S4 := Lib.hid s4
  have HB0 := Lib.hid hb0
  clear s5 s4 hb0
  go_enter Try.func81, Try.ntmps81
  go_wp2_with fail
  go_loopw [0, 1] (fun u v wr => ∃ (a b P Q R S : Nat) (σ : Bool) (p q r s : Int), u = .int .i64 (a : Nat) ∧ v = .int .i64 (b : Nat) ∧ Lm a0 b0 P Q R S a b σ ∧ (P ≤ Q ∨ Q = 0 ∧ R = 0 ∧ P = 1) ∧ (Q = 0 ∨ (1 ≤ Q ∧ P ≤ Q ∧ S ≤ b ∧ b + Q + S ≤ a)) ∧ Sg4 σ P Q R S p q r s ∧
      St4 wr (w.heap.size + 1) (.int .i64 p) (.int .i64 q) (.int .i64 r) (.int .i64 s) ∧ St4 wr w.heap.size (.int .i64 0) (.int .i64 0) (.int .i64 0) (.int .i64 0) ∧ Below w.heap.size w wr) (fun _ v _ => (intOf v).toNat)
  case atStart => exact ⟨a0, b0, 1, 0, 0, 1, true, 1, 0, 0, 1, rfl, rfl, Lm.start hle, .inr ⟨rfl, rfl, rfl⟩, .inl rfl, by simp [Sg4], S5.out, S4.out, HB0.out⟩
  case round =>
    obtain ⟨a, b, P, Q, R, S, σ, p, q, r, s, rfl, rfl, hL, hpq, hsure, hsg, t5, t4, hb⟩ := hrel
    clear S5 S4 HB0
    have HL := Lib.hid hL
    have HSU := Lib.hid hsure
    have HSG := Lib.hid hsg
    have HB := Lib.hid hb
    have T4 := Lib.hid t4
    have T5 := Lib.hid t5
    rcases Nat.eq_zero_or_pos b with h0 | h0
    · subst h0
      clear hL hsure hsg hb hpq
      have RES : Hid (StepsRet a0 b0 p q r s) := by
        rcases HSU.out with h | ⟨h1, h2, h3, h4⟩
        · left
          have h5 := HSG.out
          unfold Sg4 at h5
          subst h
          cases σ <;> simp at h5 <;> exact h5.2.1
        · exact .inr ⟨P, Q, R, S, a, 0, σ, HSG.out, HL.out, h2, h1, h3, h4⟩
      have HBV := HB
      have T5V := T5
      have T4V := T4
      clear t5 t4
      have hbV1 := HBV.out
      obtain ⟨i0, i1, i2, i3, g0, g1, g2, g3, glt⟩ := T5V.out
      obtain ⟨j0, j1, j2, j3, h0', h1', h2', h3', hlt'⟩ := T4V.out
      clear hbV1
      go_wp2
      have tE := lay4_st (.int .i64 p) (.int .i64 q) (.int .i64 r) (.int .i64 s) T4V.out
      have tc0 := tE.c0
      have tc1 := tE.c1
      have tc2 := tE.c2
      have tc3 := tE.c3
      unfold lay4 at tc0 tc1 tc2 tc3
      have HBE := lay4_below (.int .i64 p) (.int .i64 q) (.int .i64 r) (.int .i64 s) HBV.out
      refine bodyPost_ret (v := .agg #[(.int .i64 p), (.int .i64 q), (.int .i64 r), (.int .i64 s)]) (by simp [results, Try.f81, go_sem, tc0, tc1, tc2, tc3]) rfl ?_
      exact ⟨_, _, _, _, rfl, HBE, RES.out⟩
    · have hba : a < 9223372036854775808 := by
        have h1 := hL.ha
        have h2 := Nat.mul_le_mul_right a hL.s1
        omega
      have hbla := hL.ba
      obtain ⟨hN, hrs⟩ := hL.next h0 hpq
      have hml := Nat.mod_lt a h0
      have hdm := Nat.div_add_mod a b
      obtain ⟨n, en⟩ : ∃ n, a / b = n := ⟨_, rfl⟩
      obtain ⟨m, em⟩ : ∃ m, a % b = m := ⟨_, rfl⟩
      rw [en, em] at hN
      rw [em] at hml
      rw [en, em] at hdm
      obtain ⟨hS63, hR63⟩ := hN.small h0 ha0 hle
      have hb64 : b < 9223372036854775808 := by omega
      obtain ⟨nb, enb⟩ : ∃ nb, n * b = nb := ⟨_, rfl⟩
      rw [Nat.mul_comm, enb] at hdm
      have TD : Int.tdiv (a : Int) (b : Int) = (n : Int) := by rw [← en]; rfl
      have TD2 : (a : Int) / (b : Int) = (n : Int) := by rw [← en]; rfl
      have hn64 : n < 9223372036854775808 := by rw [← en]; exact Nat.lt_of_le_of_lt (Nat.div_le_self _ _) hba
      have cn : (n : Int) * (b : Int) = (nb : Int) := by rw [← enb]; simp
      have cm : (a : Int) - (nb : Int) = (m : Int) := by omega
      obtain ⟨nR, enR⟩ : ∃ nR, n * R = nR := ⟨_, rfl⟩
      obtain ⟨nS, enS⟩ : ∃ nS, n * S = nS := ⟨_, rfl⟩
      rw [enR, enS] at hN
      rw [enS] at hS63
      rw [enR] at hR63
      have cR : (n : Int) * (R : Int) = (nR : Int) := by rw [← enR]; simp
      have cS : (n : Int) * (S : Int) = (nS : Int) := by rw [← enS]; simp
      have hS1 := hL.s1
      have hSn : 1 ≤ Q + nS := hN.s1
      have hSS : S ≤ Q + nS := hN.qs
      obtain ⟨RR, eRR⟩ : ∃ RR, P + nR = RR := ⟨_, rfl⟩
      obtain ⟨SS, eSS⟩ : ∃ SS, Q + nS = SS := ⟨_, rfl⟩
      have hnRw : nR < 9223372036854775808 := Nat.lt_of_le_of_lt (Nat.le_add_left _ _) hR63
      have hnSw : nS < 9223372036854775808 := Nat.lt_of_le_of_lt (Nat.le_add_left _ _) hS63
      rw [eRR] at hN hR63
      rw [eSS] at hN hS63 hSn hSS
      have hSSw := hS63
      have hRRw := hR63
      have hSw : S < 9223372036854775808 := Nat.lt_of_le_of_lt hSS hS63
      have hS63' : S < 9223372036854775808 := by omega
      have hR63' : R < 9223372036854775808 := by omega
      have hb1 : ¬ b = 0 := by omega
      have hb2 : ((b : Int) == 0) = false := by simp; omega
      have hb3 : (0 : Int) < (b : Int) := by omega
      have hnb64 : nb < 9223372036854775808 := Nat.lt_of_le_of_lt (by rw [← hdm]; exact Nat.le_add_right _ _) hba
      have hm64 : m < 9223372036854775808 := Nat.lt_trans hml hb64
      have HN := Lib.hid hN
      have HRS := Lib.hid hrs
      have HML := Lib.hid hml
      have H0 := Lib.hid h0
      clear hL hsure hb hpq en em hdm enb enR enS hN hrs hsg
      have wn := wpos n hn64
      have wnb := wpos nb hnb64
      have wm := wpos m hm64
      cases σ
      · obtain ⟨rfl, rfl, rfl, rfl⟩ : p = (-(P : Int)) ∧ q = (Q : Int) ∧ r = (R : Int) ∧ s = (-(S : Int)) := by have h := HSG.out; simpa [Sg4] using h
        have k1 : -(P : Int) - (nR : Int) = -(RR : Int) := by omega
        have k2 : (Q : Int) - -(nS : Int) = (SS : Int) := by omega
        have cS2 : (n : Int) * -(S : Int) = -(nS : Int) := by rw [Int.mul_neg, cS]
        have w5 := wpos nR hnRw
        have w6 := wpos SS hSSw
        have w7 := wpos S hSw
        have w1 := wneg RR hRRw
        have w2 := wneg nS hnSw
        have w3 := wneg SS hSSw
        have w4 := wneg S hSw
        have M1 := mx2 S
        have M2 := mx1 SS
        have HSS := Lib.hid hSS
        have HSN := Lib.hid hSn
        have HB64 := Lib.hid hb64
        clear hb64 hnb64 hm64 hnRw hnSw hSSw hRRw hSw hS63' hR63' hml hbla hS1 hSn hSS
        obtain ⟨i0, i1, i2, i3, g0, g1, g2, g3, glt⟩ := t5
        have n7 := St4.new wr (.int .i64 (R : Int)) (.int .i64 (-(S : Int))) (.int .i64 (-(RR : Int))) (.int .i64 (SS : Int)) 93
        have z1 := n7.c1
        have z3 := n7.c3
        have N7 := Lib.hid n7
        clear n7 t4 HSG eRR eSS hR63 hS63 hn64 hba
        go_wp2_with fail
        go_quiet (fail)
        rename_i nq
        have bV : Below (wr.alloc (.cells #[(.int .i64 (R : Int)), (.int .i64 (-(S : Int))), (.int .i64 (-(RR : Int))), (.int .i64 (SS : Int))] 93)).heap.size (wr.alloc (.cells #[(.int .i64 (R : Int)), (.int .i64 (-(S : Int))), (.int .i64 (-(RR : Int))), (.int .i64 (SS : Int))] 93)) ((wr.alloc (.cells #[(.int .i64 (R : Int)), (.int .i64 (-(S : Int))), (.int .i64 (-(RR : Int))), (.int .i64 (SS : Int))] 93)).drewN nq) := bel_drewN (Below.refl _ _) nq
        have t5V := (T5.out.alloc (.cells #[(.int .i64 (R : Int)), (.int .i64 (-(S : Int))), (.int .i64 (-(RR : Int))), (.int .i64 (SS : Int))] 93)).toB bV (T5.out.alloc (.cells #[(.int .i64 (R : Int)), (.int .i64 (-(S : Int))), (.int .i64 (-(RR : Int))), (.int .i64 (SS : Int))] 93)).lt
        have t4V := (T4.out.alloc (.cells #[(.int .i64 (R : Int)), (.int .i64 (-(S : Int))), (.int .i64 (-(RR : Int))), (.int .i64 (SS : Int))] 93)).toB bV (T4.out.alloc (.cells #[(.int .i64 (R : Int)), (.int .i64 (-(S : Int))), (.int .i64 (-(RR : Int))), (.int .i64 (SS : Int))] 93)).lt
        have n7V := N7.out.toB bV N7.out.lt
        have hbV := (HB.out.alloc (o := (.cells #[(.int .i64 (R : Int)), (.int .i64 (-(S : Int))), (.int .i64 (-(RR : Int))), (.int .i64 (SS : Int))] 93)) HB.out.size).trans (bV.mono (HB.out.alloc (o := (.cells #[(.int .i64 (R : Int)), (.int .i64 (-(S : Int))), (.int .i64 (-(RR : Int))), (.int .i64 (SS : Int))] 93)) HB.out.size).size)
        generalize (wr.alloc (.cells #[(.int .i64 (R : Int)), (.int .i64 (-(S : Int))), (.int .i64 (-(RR : Int))), (.int .i64 (SS : Int))] 93)).drewN nq = V at t5V t4V n7V hbV ⊢
        have T5V := Lib.hid t5V
        have T4V := Lib.hid t4V
        have N7V := Lib.hid n7V
        have HBV := Lib.hid hbV
        have hB1 := T5.out.lt
        have hB2 : w.heap.size + 1 ≠ wr.heap.size := Nat.ne_of_lt hB1
        clear bV t5V t4V n7V hbV z1 z3 i0 i1 i2 i3 g0 g1 g2 g3 glt TD TD2 cn cm cR cS k1 k2 w1 w3 w4 w5 w6 w7
        have RES : Hid (StepsRet a0 b0 (-(P : Int)) (Q : Int) (R : Int) (-(S : Int))) := by
          rcases HSU.out with h | ⟨h1, h2, h3, h4⟩
          · left; rw [h]; rfl
          · exact .inr ⟨P, Q, R, S, a, b, false, by simp [Sg4], HL.out, h2, h1, h3, h4⟩
        rcases Nat.lt_or_ge m SS with hA | hA
        · have hAi : (m : Int) < (SS : Int) := Int.ofNat_lt.2 hA
          have hbV1 := HBV.out
          obtain ⟨i0, i1, i2, i3, g0, g1, g2, g3, glt⟩ := T5V.out
          obtain ⟨j0, j1, j2, j3, h0', h1', h2', h3', hlt'⟩ := T4V.out
          clear hbV1
          go_wp2
          have tE := lay4_st (.int .i64 (-(P : Int))) (.int .i64 (Q : Int)) (.int .i64 (R : Int)) (.int .i64 (-(S : Int))) T4V.out
          have tc0 := tE.c0
          have tc1 := tE.c1
          have tc2 := tE.c2
          have tc3 := tE.c3
          unfold lay4 at tc0 tc1 tc2 tc3
          have HBE := lay4_below (.int .i64 (-(P : Int))) (.int .i64 (Q : Int)) (.int .i64 (R : Int)) (.int .i64 (-(S : Int))) HBV.out
          refine bodyPost_ret (v := .agg #[(.int .i64 (-(P : Int))), (.int .i64 (Q : Int)), (.int .i64 (R : Int)), (.int .i64 (-(S : Int)))]) (by simp [results, Try.f81, go_sem, tc0, tc1, tc2, tc3]) rfl ?_
          exact ⟨_, _, _, _, rfl, HBE, RES.out⟩
        · have hAi : ¬ ((m : Int) < (SS : Int)) := fun h => absurd (Int.ofNat_lt.1 h) (Nat.not_lt.2 hA)
          obtain ⟨bm, SSS, cbm, cs, hbmw, hsumw, hB3⟩ := stepB HN.out HSS.out HML.out hA ha0
          have wsum := wpos SSS hsumw
          have wbm := wpos bm hbmw
          have HB3 := Lib.hid hB3
          clear hbmw hsumw hB3
          rcases Nat.lt_or_ge bm SSS with hB | hB
          · have hBi : (bm : Int) < (SSS : Int) := Int.ofNat_lt.2 hB
            have hbV1 := HBV.out
            obtain ⟨i0, i1, i2, i3, g0, g1, g2, g3, glt⟩ := T5V.out
            obtain ⟨j0, j1, j2, j3, h0', h1', h2', h3', hlt'⟩ := T4V.out
            clear hbV1
            go_wp2
            have tE := lay4_st (.int .i64 (-(P : Int))) (.int .i64 (Q : Int)) (.int .i64 (R : Int)) (.int .i64 (-(S : Int))) T4V.out
            have tc0 := tE.c0
            have tc1 := tE.c1
            have tc2 := tE.c2
            have tc3 := tE.c3
            unfold lay4 at tc0 tc1 tc2 tc3
            have HBE := lay4_below (.int .i64 (-(P : Int))) (.int .i64 (Q : Int)) (.int .i64 (R : Int)) (.int .i64 (-(S : Int))) HBV.out
            refine bodyPost_ret (v := .agg #[(.int .i64 (-(P : Int))), (.int .i64 (Q : Int)), (.int .i64 (R : Int)), (.int .i64 (-(S : Int)))]) (by simp [results, Try.f81, go_sem, tc0, tc1, tc2, tc3]) rfl ?_
            exact ⟨_, _, _, _, rfl, HBE, RES.out⟩
          · have hBi : ¬ ((bm : Int) < (SSS : Int)) := fun h => absurd (Int.ofNat_lt.1 h) (Nat.not_lt.2 hB)
            obtain ⟨i0, i1, i2, i3, g0, g1, g2, g3, glt⟩ := T5V.out
            obtain ⟨j0, j1, j2, j3, h0', h1', h2', h3', hlt'⟩ := N7V.out
            go_wp2
            go_roundw
            case rel => exact ⟨b, m, R, S, RR, SS, true, (R : Int), (-(S : Int)), (-(RR : Int)), (SS : Int), rfl, by rw [wm], HN.out, .inl HRS.out, .inr ⟨HL.out.s1, HRS.out, hA, HB3.out hB⟩, by simp [Sg4], lay4_st (.int .i64 (R : Int)) (.int .i64 (-(S : Int))) (.int .i64 (-(RR : Int))) (.int .i64 (SS : Int)) T5V.out, lay4_far (.int .i64 (R : Int)) (.int .i64 (-(S : Int))) (.int .i64 (-(RR : Int))) (.int .i64 (SS : Int)) T4V.out (Nat.ne_of_lt (Nat.lt_succ_self _)), lay4_below' (.int .i64 (R : Int)) (.int .i64 (-(S : Int))) (.int .i64 (-(RR : Int))) (.int .i64 (SS : Int)) HBV.out (Nat.le_succ _)⟩
            case measure => rw [wm]; exact HML.out
      · obtain ⟨rfl, rfl, rfl, rfl⟩ : p = (P : Int) ∧ q = (-(Q : Int)) ∧ r = (-(R : Int)) ∧ s = (S : Int) := by have h := HSG.out; simpa [Sg4] using h
        have k1 : (P : Int) - -(nR : Int) = (RR : Int) := by omega
        have cR2 : (n : Int) * -(R : Int) = -(nR : Int) := by rw [Int.mul_neg, cR]
        have k2 : -(Q : Int) - (nS : Int) = -(SS : Int) := by omega
        have w5 := wpos RR hRRw
        have w6 := wpos nS hnSw
        have w7 := wpos SS hSSw
        have w1 := wneg nR hnRw
        have w3 := wneg SS hSSw
        have w4 := wneg S hSw
        have M1 := mx1 S
        have M2 := mx2 SS
        have HSS := Lib.hid hSS
        have HSN := Lib.hid hSn
        have HB64 := Lib.hid hb64
        clear hb64 hnb64 hm64 hnRw hnSw hSSw hRRw hSw hS63' hR63' hml hbla hS1 hSn hSS
        obtain ⟨i0, i1, i2, i3, g0, g1, g2, g3, glt⟩ := t5
        have n7 := St4.new wr (.int .i64 (-(R : Int))) (.int .i64 (S : Int)) (.int .i64 (RR : Int)) (.int .i64 (-(SS : Int))) 93
        have z1 := n7.c1
        have z3 := n7.c3
        have N7 := Lib.hid n7
        clear n7 t4 HSG eRR eSS hR63 hS63 hn64 hba
        go_wp2_with fail
        go_quiet (fail)
        rename_i nq
        have bV : Below (wr.alloc (.cells #[(.int .i64 (-(R : Int))), (.int .i64 (S : Int)), (.int .i64 (RR : Int)), (.int .i64 (-(SS : Int)))] 93)).heap.size (wr.alloc (.cells #[(.int .i64 (-(R : Int))), (.int .i64 (S : Int)), (.int .i64 (RR : Int)), (.int .i64 (-(SS : Int)))] 93)) ((wr.alloc (.cells #[(.int .i64 (-(R : Int))), (.int .i64 (S : Int)), (.int .i64 (RR : Int)), (.int .i64 (-(SS : Int)))] 93)).drewN nq) := bel_drewN (Below.refl _ _) nq
        have t5V := (T5.out.alloc (.cells #[(.int .i64 (-(R : Int))), (.int .i64 (S : Int)), (.int .i64 (RR : Int)), (.int .i64 (-(SS : Int)))] 93)).toB bV (T5.out.alloc (.cells #[(.int .i64 (-(R : Int))), (.int .i64 (S : Int)), (.int .i64 (RR : Int)), (.int .i64 (-(SS : Int)))] 93)).lt
        have t4V := (T4.out.alloc (.cells #[(.int .i64 (-(R : Int))), (.int .i64 (S : Int)), (.int .i64 (RR : Int)), (.int .i64 (-(SS : Int)))] 93)).toB bV (T4.out.alloc (.cells #[(.int .i64 (-(R : Int))), (.int .i64 (S : Int)), (.int .i64 (RR : Int)), (.int .i64 (-(SS : Int)))] 93)).lt
        have n7V := N7.out.toB bV N7.out.lt
        have hbV := (HB.out.alloc (o := (.cells #[(.int .i64 (-(R : Int))), (.int .i64 (S : Int)), (.int .i64 (RR : Int)), (.int .i64 (-(SS : Int)))] 93)) HB.out.size).trans (bV.mono (HB.out.alloc (o := (.cells #[(.int .i64 (-(R : Int))), (.int .i64 (S : Int)), (.int .i64 (RR : Int)), (.int .i64 (-(SS : Int)))] 93)) HB.out.size).size)
        generalize (wr.alloc (.cells #[(.int .i64 (-(R : Int))), (.int .i64 (S : Int)), (.int .i64 (RR : Int)), (.int .i64 (-(SS : Int)))] 93)).drewN nq = V at t5V t4V n7V hbV ⊢
        have T5V := Lib.hid t5V
        have T4V := Lib.hid t4V
        have N7V := Lib.hid n7V
        have HBV := Lib.hid hbV
        have hB1 := T5.out.lt
        have hB2 : w.heap.size + 1 ≠ wr.heap.size := Nat.ne_of_lt hB1
        clear bV t5V t4V n7V hbV z1 z3 i0 i1 i2 i3 g0 g1 g2 g3 glt TD TD2 cn cm cR cS k1 k2 w1 w3 w4 w5 w6 w7
        have RES : Hid (StepsRet a0 b0 (P : Int) (-(Q : Int)) (-(R : Int)) (S : Int)) := by
          rcases HSU.out with h | ⟨h1, h2, h3, h4⟩
          · left; rw [h]; rfl
          · exact .inr ⟨P, Q, R, S, a, b, true, by simp [Sg4], HL.out, h2, h1, h3, h4⟩
        rcases Nat.lt_or_ge m SS with hA | hA
        · have hAi : (m : Int) < (SS : Int) := Int.ofNat_lt.2 hA
          have hbV1 := HBV.out
          obtain ⟨i0, i1, i2, i3, g0, g1, g2, g3, glt⟩ := T5V.out
          obtain ⟨j0, j1, j2, j3, h0', h1', h2', h3', hlt'⟩ := T4V.out
          clear hbV1
          go_wp2
          have tE := lay4_st (.int .i64 (P : Int)) (.int .i64 (-(Q : Int))) (.int .i64 (-(R : Int))) (.int .i64 (S : Int)) T4V.out
          have tc0 := tE.c0
          have tc1 := tE.c1
          have tc2 := tE.c2
          have tc3 := tE.c3
          unfold lay4 at tc0 tc1 tc2 tc3
          have HBE := lay4_below (.int .i64 (P : Int)) (.int .i64 (-(Q : Int))) (.int .i64 (-(R : Int))) (.int .i64 (S : Int)) HBV.out
          refine bodyPost_ret (v := .agg #[(.int .i64 (P : Int)), (.int .i64 (-(Q : Int))), (.int .i64 (-(R : Int))), (.int .i64 (S : Int))]) (by simp [results, Try.f81, go_sem, tc0, tc1, tc2, tc3]) rfl ?_
          exact ⟨_, _, _, _, rfl, HBE, RES.out⟩
        · have hAi : ¬ ((m : Int) < (SS : Int)) := fun h => absurd (Int.ofNat_lt.1 h) (Nat.not_lt.2 hA)
          obtain ⟨bm, SSS, cbm, cs, hbmw, hsumw, hB3⟩ := stepB HN.out HSS.out HML.out hA ha0
          have wsum := wpos SSS hsumw
          have wbm := wpos bm hbmw
          have HB3 := Lib.hid hB3
          clear hbmw hsumw hB3
          rcases Nat.lt_or_ge bm SSS with hB | hB
          · have hBi : (bm : Int) < (SSS : Int) := Int.ofNat_lt.2 hB
            have hbV1 := HBV.out
            obtain ⟨i0, i1, i2, i3, g0, g1, g2, g3, glt⟩ := T5V.out
            obtain ⟨j0, j1, j2, j3, h0', h1', h2', h3', hlt'⟩ := T4V.out
            clear hbV1
            go_wp2
            have tE := lay4_st (.int .i64 (P : Int)) (.int .i64 (-(Q : Int))) (.int .i64 (-(R : Int))) (.int .i64 (S : Int)) T4V.out
            have tc0 := tE.c0
            have tc1 := tE.c1
            have tc2 := tE.c2
            have tc3 := tE.c3
            unfold lay4 at tc0 tc1 tc2 tc3
            have HBE := lay4_below (.int .i64 (P : Int)) (.int .i64 (-(Q : Int))) (.int .i64 (-(R : Int))) (.int .i64 (S : Int)) HBV.out
            refine bodyPost_ret (v := .agg #[(.int .i64 (P : Int)), (.int .i64 (-(Q : Int))), (.int .i64 (-(R : Int))), (.int .i64 (S : Int))]) (by simp [results, Try.f81, go_sem, tc0, tc1, tc2, tc3]) rfl ?_
            exact ⟨_, _, _, _, rfl, HBE, RES.out⟩
          · have hBi : ¬ ((bm : Int) < (SSS : Int)) := fun h => absurd (Int.ofNat_lt.1 h) (Nat.not_lt.2 hB)
            obtain ⟨i0, i1, i2, i3, g0, g1, g2, g3, glt⟩ := T5V.out
            obtain ⟨j0, j1, j2, j3, h0', h1', h2', h3', hlt'⟩ := N7V.out
            go_wp2
            go_roundw
            case rel => exact ⟨b, m, R, S, RR, SS, false, (-(R : Int)), (S : Int), (RR : Int), (-(SS : Int)), rfl, by rw [wm], HN.out, .inl HRS.out, .inr ⟨HL.out.s1, HRS.out, hA, HB3.out hB⟩, by simp [Sg4], lay4_st (.int .i64 (-(R : Int))) (.int .i64 (S : Int)) (.int .i64 (RR : Int)) (.int .i64 (-(SS : Int))) T5V.out, lay4_far (.int .i64 (-(R : Int))) (.int .i64 (S : Int)) (.int .i64 (RR : Int)) (.int .i64 (-(SS : Int))) T4V.out (Nat.ne_of_lt (Nat.lt_succ_self _)), lay4_below' (.int .i64 (-(R : Int))) (.int .i64 (S : Int)) (.int .i64 (RR : Int)) (.int .i64 (-(SS : Int))) HBV.out (Nat.le_succ _)⟩
            case measure => rw [wm]; exact HML.out
end Go.Proofs.Ytoaghihhobggoaa

namespace Go.Proofs.Ytoaghihhobggoaa

/-- Factors below 2^31 of different signs. -/
def Op2 (p q : Int) : Prop := (0 ≤ p ∧ p < 2147483648 ∧ -2147483648 < q ∧ q ≤ 0) ∨ (-2147483648 < p ∧ p ≤ 0 ∧ 0 ≤ q ∧ q < 2147483648)

theorem mul_bd {p : Int} {u : Nat} (h0 : 0 ≤ p) (h1 : p < 2147483648) (hu : u < 4294967296) : 0 ≤ p * (u : Int) ∧ p * (u : Int) ≤ 9223372030412324865 := by
  obtain ⟨P, rfl⟩ := Int.eq_ofNat_of_zero_le h0
  have h2 : P * u ≤ 2147483647 * 4294967295 := Nat.mul_le_mul (by omega) (by omega)
  have h3 : (P : Int) * (u : Int) = ((P * u : Nat) : Int) := by simp
  rw [h3]
  omega
theorem mul_bd' {p : Int} {u : Nat} (h0 : p ≤ 0) (h1 : -2147483648 < p) (hu : u < 4294967296) : -9223372030412324865 ≤ p * (u : Int) ∧ p * (u : Int) ≤ 0 := by
  have h := mul_bd (p := -p) (u := u) (by omega) (by omega) hu
  rw [Int.neg_mul] at h
  omega
theorem op2_bd {p q : Int} {u v : Nat} (h : Op2 p q) (hu : u < 4294967296) (hv : v < 4294967296) :
    (-9223372030412324865 ≤ p * (u : Int) ∧ p * (u : Int) ≤ 9223372030412324865) ∧ (-9223372030412324865 ≤ q * (v : Int) ∧ q * (v : Int) ≤ 9223372030412324865) ∧ -9223372030412324865 ≤ p * (u : Int) + q * (v : Int) ∧ p * (u : Int) + q * (v : Int) ≤ 9223372030412324865 := by
  rcases h with ⟨a, b, c, d⟩ | ⟨a, b, c, d⟩
  · have h1 := mul_bd a b hu
    have h2 := mul_bd' d c hv
    omega
  · have h1 := mul_bd' b a hu
    have h2 := mul_bd c d hv
    omega

/-- The carry. -/
def Cy (c : Int) : Prop := -2147483648 ≤ c ∧ c ≤ 2147483648

theorem op2_step {p q c : Int} {u v : Nat} (h : Op2 p q) (hu : u < 4294967296) (hv : v < 4294967296) (hc : Cy c) :
    ∃ (d : Nat) (c' : Int), d < 4294967296 ∧ Cy c' ∧ (p * u + q * v + c) % 4294967296 = (d : Int) ∧ (p * u + q * v + c) / 4294967296 = c' ∧ p * u + q * v + c = d + 4294967296 * c' := by
  obtain ⟨_, _, h3, h4⟩ := op2_bd h hu hv
  obtain ⟨t, et⟩ : ∃ t, p * (u : Int) + q * (v : Int) + c = t := ⟨_, rfl⟩
  unfold Cy at *
  refine ⟨(t % 4294967296).toNat, t / 4294967296, by omega, by omega, by omega, by omega, by omega⟩

/-- How far a combination has come. -/
def Cmb (p q : Int) (xs ys Z : List Nat) (k : Nat) (c : Int) : Prop := (val b32 (Z.take k) : Int) + (b32 : Int) ^ k * c = p * (val b32 (xs.take k) : Int) + q * (val b32 (ys.take k) : Int)

theorem Cmb.step {p q c c' : Int} {xs ys Z : List Nat} {k d u v : Nat} (h : Cmb p q xs ys Z k c) (hk : k < Z.length) (hu : xs.getD k 0 = u) (hv : ys.getD k 0 = v) (ht : p * u + q * v + c = d + 4294967296 * c') : Cmb p q xs ys (Z.set k d) (k + 1) c' := by
  unfold Cmb at *
  have e1 := val_take_succ (b := b32) xs k
  have e2 := val_take_succ (b := b32) ys k
  have e3 := val_take_succ (b := b32) (Z.set k d) k
  rw [hu] at e1
  rw [hv] at e2
  rw [getD_at (by rw [List.length_set]; exact hk), List.getElem_set_self, List.take_set_of_le (Nat.le_refl k)] at e3
  rw [e1, e2, e3]
  push_cast
  rw [Int.pow_succ]
  have h2 : (b32 : Int) ^ k * (p * u + q * v + c) = (b32 : Int) ^ k * (d + 4294967296 * c') := by rw [ht]
  generalize (b32 : Int) ^ k = B at *
  rw [show (b32 : Int) = 4294967296 from rfl]
  clear e1 e2 e3 ht hk hu hv
  grind

theorem Cmb.last {p q c : Int} {xs ys Z : List Nat} {n X' : Nat} (h : Cmb p q xs ys Z n c) (hn : Z.length = n) (hx : xs.length = n) (hy : ys.length = n) (hd : Dg b32 Z) (hX : p * (val b32 xs : Int) + q * (val b32 ys : Int) = (X' : Int)) (hlt : X' < b32 ^ n) : val b32 Z = X' := by
  unfold Cmb at h
  rw [List.take_of_length_le (by omega), List.take_of_length_le (by omega), List.take_of_length_le (by omega), hX] at h
  have hz := val_lt hd
  rw [hn] at hz
  have hp : (b32 : Int) ^ n = ((b32 ^ n : Nat) : Int) := by push_cast; rfl
  rw [hp] at h
  generalize b32 ^ n = B at *
  rcases Int.lt_trichotomy c 0 with h1 | h1 | h1
  · have : (B : Int) * c ≤ (B : Int) * (-1) := Int.mul_le_mul_of_nonneg_left (by omega) (by omega)
    omega
  · subst h1; omega
  · have : (B : Int) * 1 ≤ (B : Int) * c := Int.mul_le_mul_of_nonneg_left (by omega) (by omega)
    omega
end Go.Proofs.Ytoaghihhobggoaa
