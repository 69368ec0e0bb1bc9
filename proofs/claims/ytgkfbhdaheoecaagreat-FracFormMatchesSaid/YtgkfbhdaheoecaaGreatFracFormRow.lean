/-
  The law FracFormMatches returns true, whatever the rational and the integer, in whatever form, and the two int64 that come in, and all it was given reads as before. No condition.
-/
import Derived.Test.YtgkfbhdaheoecaaGreatRows
import Derived.Test.YtgkfbhdaheoecaaGreatFo24
namespace Go.Proofs.YtgkfbhdaheoecaaGreat.fracFormMatches
set_option maxRecDepth 100000
open Go.ChangeShapes Go.WideShapes Go.ChangeAt Go.RowKit
open Go.ChangeMaps (open_string shut_string)

set_option maxRecDepth 100000 in
theorem long1 {n1 n2 : Nat} {b1 b2 : Bool} {A1 A2 : Option Addr} {c1 c2 : Nat} {V : World} {g : Nat} (h1 : n1 ≤ 9223372036854775807) (h2 : n2 ≤ 9223372036854775807)
    (h : V.heap[g]? = some (.cells #[.bool b1, .slice A1 n1 c1, .bool b2, .slice A2 n2 c2] 26 (0, 0))) {r : Bool} (hr : ([(n1, n2)].any fun p => decide (6 < p.1) || decide (6 < p.2)) = r) :
    Calls Tryz.prog 4 #[.slice (some ⟨g, 0, none⟩) 1 1] V fun e w' => e = .returned (.bool r) ∧ Below V.heap.size V w' := by
  have hg : g < V.heap.size := (Array.getElem?_eq_some_iff.1 h).1
  exact flong_any g [(n1, n2)] 1 V hg (fun k hk => by
    match k, hk with
    | 0, _ => exact ⟨b1, A1, c1, b2, A2, c2, by simp [World.cell?, h], by simp [World.cell?, h], by simp [World.cell?, h], by simp [World.cell?, h]⟩) (fun k hk => by
    match k, hk with
    | 0, _ => exact ⟨h1, h2⟩) (by simp) hr

set_option maxRecDepth 100000 in
theorem zlong1 {n : Nat} {A : Option Addr} {c : Nat} {V : World} {g : Nat} (h1 : n ≤ 9223372036854775807) (h : V.cell? ⟨g, 1, none⟩ = some (.slice A n c)) {r : Bool} (hr : decide (12 < n) = r) :
    Calls Tryz.prog 5 #[.slice (some ⟨g, 0, none⟩) 1 1] V fun e w' => e = .returned (.bool r) ∧ w' = V := by
  have h := long_any g [n] 1 V (fun k hk => by
    match k, hk with
    | 0, _ => exact ⟨A, c, h⟩) (fun k hk => by
    match k, hk with
    | 0, _ => exact h1) (by simp)
  rw [show ([n].any fun n => decide (12 < n)) = r from by simpa using hr] at h
  exact h

theorem walk {a1 a2 a3 a4 b1 b2 : Value} {n d : Int} (w : World) (z1 : Zx2 w a1 a2) (z2 : Zx2 w a3 a4) (z3 : Zx2 w b1 b2) (n1 : -9223372036854775808 ≤ n) (n2 : n ≤ 9223372036854775807) (d1 : -9223372036854775808 ≤ d) (d2 : d ≤ 9223372036854775807) :
    Calls Tryz.prog 3 #[.agg #[a1, a2, a3, a4], .int .i64 n, .int .i64 d, .agg #[b1, b2]] w fun e w' => e = .returned (.bool true) ∧ Below w.heap.size w w' := by
  obtain ⟨n1', A1, c1, xs1, rfl, rfl, r1, e1, l1, m1⟩ := z1
  obtain ⟨n2', A2, c2, xs2, rfl, rfl, r2, e2, l2, m2⟩ := z2
  obtain ⟨n3', A3, c3, xs3, rfl, rfl, r3, e3, l3, m3⟩ := z3
  by_cases hall : xs1.length ≤ 6 ∧ xs2.length ≤ 6
  · obtain ⟨k1, k2⟩ := hall
    by_cases hz : xs3.length ≤ 12
    · have hq : Qx w (.bool n1') (.slice A1 xs1.length c1) (.bool n2') (.slice A2 xs2.length c2) n1' xs1 n2' xs2 := ⟨⟨A1, c1, rfl, rfl, ⟨r1, e1, l1, m1, by omega⟩⟩, ⟨A2, c2, rfl, rfl, ⟨r2, e2, l2, m2, by omega⟩⟩⟩
      have hzl : Zl w (.bool n3') (.slice A3 xs3.length c3) (zof n3' (val b32 xs3)) := Zx.zl (⟨A3, c3, rfl, rfl, ⟨r3, e3, l3, m3, by omega⟩⟩ : Zx w _ _ n3' xs3) (by omega)
      by_cases hd : d = 0
      · exact form_core0 hq hzl (Sm.zof e3 hz) k1 k2 n1 n2 d1 d2 hd (fun V g h => long1 (by omega) (by omega) h (by simp; omega)) (fun V g h => zlong1 (by omega) h (by simp; omega))
      · exact form_core1 hq hzl (Sm.zof e3 hz) k1 k2 n1 n2 d1 d2 hd (fun V g h => long1 (by omega) (by omega) h (by simp; omega)) (fun V g h => zlong1 (by omega) h (by simp; omega))
    · exact form_longZ (fun V g h => long1 (by omega) (by omega) h (by simp; omega)) (fun V g h => zlong1 (by omega) h (by simp; omega))
  · exact form_longA (fun V g h => long1 (by omega) (by omega) h (by simp; omega))

theorem lifted (os : Os) (started : os.Started) (H : Type) (enc : TypeId × Value → H) :
    ReturnsInHanded {} Tryz.checked os 3 .any (Rows.fracFormMatchesSpec.pre6 enc Tryz.prog Tryz.f3 Rows.fracFormMatchesRow.domain false) (Rows.fracFormMatchesSpec.post enc Tryz.prog Tryz.f3 false true false false) := by
  refine returnsInHanded_of_change (C := Tryz.checked) own started (by kernel_rfl) Tryz.func3
    (ChangeSpec.witness6 (enc := enc) (C := Tryz.checked) false ⟨#[], #[.agg #[.bool false, .slice none 0 0, .bool false, .slice none 0 0], .int .i64 0, .int .i64 0, .agg #[.bool false, .slice none 0 0]], []⟩ 8 (by kernel_rfl) (by kernel_rfl) (by kernel_rfl) (by kernel_rfl)) ?_
  intro W base args ds gs before hval0 hW hcnd _
  have hval : ∀ (j : Nat) t v, Tryz.f3.params[j]? = some t → args[j]? = some v → Value.okWide Tryz.prog W .any base t v := hval0
  have hW' := hW
  obtain ⟨p, q, hA0, hV, rfl, hfz, hnd⟩ := hW
  have hA : DataW.TrodAll enc Tryz.prog W 0 (fun _ => true) true Tryz.f3.params.toList args.toList ds p := hA0
  rw [Tryz.params3] at hA hval
  obtain ⟨v0, vs0, d0, ds0, p0, q0, hargs, rfl, rfl, h0, r0⟩ := trodAll_cons hA
  obtain ⟨v1, vs1, d1, ds1, p1, q1, rfl, rfl, rfl, h1, r1⟩ := trodAll_cons r0
  obtain ⟨v2, vs2, d2, ds2, p2, q2, rfl, rfl, rfl, h2, r2⟩ := trodAll_cons r1
  obtain ⟨v3, vs3, d3, ds3, p3, q3, rfl, rfl, rfl, h3, r3⟩ := trodAll_cons r2
  obtain ⟨rfl, rfl, rfl⟩ := trodAll_nil r3
  obtain rfl : args = #[v0, v1, v2, v3] := by cases args; simp_all
  obtain ⟨rfl, rfl⟩ := trodVars_none hV
  have lt0 : ∀ x ∈ p0, x.block < W.heap.size := by obtain ⟨m, hm⟩ := h0; exact DataW.trod_lt m _ _ _ hm
  have lt3 : ∀ x ∈ p3, x.block < W.heap.size := by obtain ⟨m, hm⟩ := h3; exact DataW.trod_lt m _ _ _ hm
  obtain ⟨a1, a2, a3, a4, rfl, za, zb⟩ := open_q (fun _ => rfl) (hval 0 26 v0 rfl rfl) h0
  obtain ⟨x, rfl, rfl, rfl, wx⟩ := open_int Tryz.underlying2 (hval 1 2 v1 rfl rfl) h1
  obtain ⟨y, rfl, rfl, rfl, wy⟩ := open_int Tryz.underlying2 (hval 2 2 v2 rfl rfl) h2
  have bx := bounds_i64 wx
  have by' := bounds_i64 wy
  obtain ⟨n3, A3, c3, xs3, rfl, rd3, dg3, le3, cp3⟩ := open_z (fun _ => rfl) (hval 3 24 v3 rfl rfl) h3
  clear hA0 hval0
  refine (walk W za zb ⟨n3, A3, c3, xs3, rfl, rfl, rd3, dg3, le3, cp3⟩ bx.1 bx.2 by'.1 by'.2).mono fun e W' ⟨he, bel⟩ => ?_
  subst he
  exact ⟨_, rfl, _, _, _, [], _, [], hW', trodAll_mk1 (shut_bool Tryz.underlying4 _), trodAll_cons_mk (Below.trod laidOut (by kernel_rfl) (of_decide_eq_true (by kernel_rfl)) h0 bel lt0) (trodAll_cons_mk (shut_int Tryz.underlying2 wx) (trodAll_cons_mk (shut_int Tryz.underlying2 wy) (trodAll_cons_mk (Below.trod laidOut (by kernel_rfl) (of_decide_eq_true (by kernel_rfl)) h3 bel lt3) trodAll_mk0))), rfl, bel.frame _, fun h => by cases h⟩

theorem over : Rows.fracFormMatchesRow.holds Tryz.pinned (OpenSpec.ofChange Rows.fracFormMatchesSpec) :=
  OpenClaim.holds_of_wide 3 Tryz.f3 rfl rfl rfl rfl rfl rfl rfl ⟨rfl, rfl, rfl, rfl, rfl⟩ rfl rfl rfl rfl rfl (by kernel_rfl) Tryz.func3 (by kernel_rfl)
    (of_decide_eq_true (by kernel_rfl)) (by unfold Func.isWrapper; first | (rw [if_pos (by decide +kernel)]; kernel_rfl) | (rw [if_neg (by decide +kernel)]; exact ⟨rfl, rfl⟩))
    (fun os started H enc _ => lifted os started H enc)

theorem proved : Rows.FracFormMatchesSaid :=
  over
#print axioms proved
end Go.Proofs.YtgkfbhdaheoecaaGreat.fracFormMatches
