/-
  The law FracOrder returns true, whatever the three rationals that come in, in whatever form, and all it was given reads as before. No condition.
-/
import Derived.Test.YtbmnloelimmgiaaRows
import Derived.Test.YtbmnloelimmgiaaFq25
import Derived.Test.YtbmnloelimmgiaaFq24
namespace Go.Proofs.Ytbmnloelimmgiaa.fracOrder
set_option maxRecDepth 100000
open Go.ChangeShapes Go.WideShapes Go.ChangeAt Go.RowKit
open Go.ChangeMaps (open_string shut_string)

theorem long3 {n1 n2 n3 n4 n5 n6 : Nat} {b1 b2 b3 b4 b5 b6 : Bool} {A1 A2 A3 A4 A5 A6 : Option Addr} {c1 c2 c3 c4 c5 c6 : Nat} {V : World} {g : Nat} (h1 : n1 ≤ 9223372036854775807) (h2 : n2 ≤ 9223372036854775807) (h3 : n3 ≤ 9223372036854775807) (h4 : n4 ≤ 9223372036854775807) (h5 : n5 ≤ 9223372036854775807) (h6 : n6 ≤ 9223372036854775807)
    (h : V.heap[g]? = some (.cells #[.bool b1, .slice A1 n1 c1, .bool b2, .slice A2 n2 c2, .bool b3, .slice A3 n3 c3, .bool b4, .slice A4 n4 c4, .bool b5, .slice A5 n5 c5, .bool b6, .slice A6 n6 c6] 26 (0, 0))) {r : Bool} (hr : ([(n1, n2), (n3, n4), (n5, n6)].any fun p => decide (6 < p.1) || decide (6 < p.2)) = r) :
    Calls Try.prog 6 #[.slice (some ⟨g, 0, none⟩) 3 3] V fun e w' => e = .returned (.bool r) ∧ Below V.heap.size V w' := by
  have hg : g < V.heap.size := (Array.getElem?_eq_some_iff.1 h).1
  exact flong_any g [(n1, n2), (n3, n4), (n5, n6)] 3 V hg (fun k hk => by
    match k, hk with
    | 0, _ => exact ⟨b1, A1, c1, b2, A2, c2, by simp [World.cell?, h], by simp [World.cell?, h], by simp [World.cell?, h], by simp [World.cell?, h]⟩
    | 1, _ => exact ⟨b3, A3, c3, b4, A4, c4, by simp [World.cell?, h], by simp [World.cell?, h], by simp [World.cell?, h], by simp [World.cell?, h]⟩
    | 2, _ => exact ⟨b5, A5, c5, b6, A6, c6, by simp [World.cell?, h], by simp [World.cell?, h], by simp [World.cell?, h], by simp [World.cell?, h]⟩) (fun k hk => by
    match k, hk with
    | 0, _ => exact ⟨h1, h2⟩
    | 1, _ => exact ⟨h3, h4⟩
    | 2, _ => exact ⟨h5, h6⟩) (by simp) hr

theorem qi_of {w : World} {n m : Bool} {A B : Option Addr} {c d : Nat} {xs ys : List Nat} (r1 : Rd .u32 w w.heap.size A xs) (d1 : Dg b32 xs) (l1 : xs.length ≤ c) (m1 : c ≤ 9223372036854775807) (r2 : Rd .u32 w w.heap.size B ys) (d2 : Dg b32 ys) (l2 : ys.length ≤ d) (m2 : d ≤ 9223372036854775807) (k1 : xs.length ≤ 6) (k2 : ys.length ≤ 6) :
    Qi w (.bool n) (.slice A xs.length c) (.bool m) (.slice B ys.length d) (rv (zof n (val b32 xs)) (zof m (val b32 ys))) 6 :=
  ⟨_, _, ⟨n, A, c, xs, rfl, rfl, ⟨r1, d1, l1, m1, by omega⟩, by omega, rfl⟩, ⟨m, B, d, ys, rfl, rfl, ⟨r2, d2, l2, m2, by omega⟩, by omega, rfl⟩, rfl, Sm.zof d1 k1, Sm.zof d2 k2⟩

theorem walk {a1 a2 a3 a4 b1 b2 b3 b4 c1 c2 c3 c4 : Value} (w : World) (z1 : Zx2 w a1 a2) (z2 : Zx2 w a3 a4) (z3 : Zx2 w b1 b2) (z4 : Zx2 w b3 b4) (z5 : Zx2 w c1 c2) (z6 : Zx2 w c3 c4) :
    Calls Try.prog 4 #[.agg #[a1, a2, a3, a4], .agg #[b1, b2, b3, b4], .agg #[c1, c2, c3, c4]] w fun e w' => e = .returned (.bool true) ∧ Below w.heap.size w w' := by
  obtain ⟨n1, A1, c1, xs1, rfl, rfl, r1, d1, l1, m1⟩ := z1
  obtain ⟨n2, A2, c2, xs2, rfl, rfl, r2, d2, l2, m2⟩ := z2
  obtain ⟨n3, A3, c3, xs3, rfl, rfl, r3, d3, l3, m3⟩ := z3
  obtain ⟨n4, A4, c4, xs4, rfl, rfl, r4, d4, l4, m4⟩ := z4
  obtain ⟨n5, A5, c5, xs5, rfl, rfl, r5, d5, l5, m5⟩ := z5
  obtain ⟨n6, A6, c6, xs6, rfl, rfl, r6, d6, l6, m6⟩ := z6
  by_cases hall : (xs1.length ≤ 6 ∧ xs2.length ≤ 6) ∧ (xs3.length ≤ 6 ∧ xs4.length ≤ 6) ∧ (xs5.length ≤ 6 ∧ xs6.length ≤ 6)
  · obtain ⟨⟨k1, k2⟩, ⟨k3, k4⟩, ⟨k5, k6⟩⟩ := hall
    exact order_core (qi_of r1 d1 l1 m1 r2 d2 l2 m2 k1 k2) (qi_of r3 d3 l3 m3 r4 d4 l4 m4 k3 k4) (qi_of r5 d5 l5 m5 r6 d6 l6 m6 k5 k6)
      (fun V g h => long3 (by omega) (by omega) (by omega) (by omega) (by omega) (by omega) h (by simp; omega))
  · exact order_long (fun V g h => long3 (by omega) (by omega) (by omega) (by omega) (by omega) (by omega) h (by simp; omega))

theorem lifted (os : Os) (started : os.Started) (H : Type) (enc : TypeId × Value → H) :
    ReturnsInHanded {} Try.checked os 4 .any (Rows.fracOrderSpec.pre6 enc Try.prog Try.f4 Rows.fracOrderRow.domain false) (Rows.fracOrderSpec.post enc Try.prog Try.f4 false true false false) := by
  refine returnsInHanded_of_change (C := Try.checked) own started (by kernel_rfl) Try.func4
    (ChangeSpec.witness6 (enc := enc) (C := Try.checked) false ⟨#[], #[.agg #[.bool false, .slice none 0 0, .bool false, .slice none 0 0], .agg #[.bool false, .slice none 0 0, .bool false, .slice none 0 0], .agg #[.bool false, .slice none 0 0, .bool false, .slice none 0 0]], []⟩ 8 (by kernel_rfl) (by kernel_rfl) (by kernel_rfl) (by kernel_rfl)) ?_
  intro W base args ds gs before hval0 hW hcnd _
  have hval : ∀ (j : Nat) t v, Try.f4.params[j]? = some t → args[j]? = some v → Value.okWide Try.prog W .any base t v := hval0
  have hW' := hW
  obtain ⟨p, q, hA0, hV, rfl, hfz, hnd⟩ := hW
  have hA : DataW.TrodAll enc Try.prog W 0 (fun _ => true) true Try.f4.params.toList args.toList ds p := hA0
  rw [Try.params4] at hA hval
  obtain ⟨v0, vs0, d0, ds0, p0, q0, hargs, rfl, rfl, h0, r0⟩ := trodAll_cons hA
  obtain ⟨v1, vs1, d1, ds1, p1, q1, rfl, rfl, rfl, h1, r1⟩ := trodAll_cons r0
  obtain ⟨v2, vs2, d2, ds2, p2, q2, rfl, rfl, rfl, h2, r2⟩ := trodAll_cons r1
  obtain ⟨rfl, rfl, rfl⟩ := trodAll_nil r2
  obtain rfl : args = #[v0, v1, v2] := by cases args; simp_all
  obtain ⟨rfl, rfl⟩ := trodVars_none hV
  have lt0 : ∀ x ∈ p0, x.block < W.heap.size := by obtain ⟨m, hm⟩ := h0; exact DataW.trod_lt m _ _ _ hm
  have lt1 : ∀ x ∈ p1, x.block < W.heap.size := by obtain ⟨m, hm⟩ := h1; exact DataW.trod_lt m _ _ _ hm
  have lt2 : ∀ x ∈ p2, x.block < W.heap.size := by obtain ⟨m, hm⟩ := h2; exact DataW.trod_lt m _ _ _ hm
  obtain ⟨a1, a2, a3, a4, rfl, za, zb⟩ := open_q (fun _ => rfl) (hval 0 26 v0 rfl rfl) h0
  obtain ⟨b1, b2, b3, b4, rfl, zc, zd⟩ := open_q (fun _ => rfl) (hval 1 26 v1 rfl rfl) h1
  obtain ⟨c1, c2, c3, c4, rfl, ze, zf⟩ := open_q (fun _ => rfl) (hval 2 26 v2 rfl rfl) h2
  clear hA0 hval0
  refine (walk W za zb zc zd ze zf).mono fun e W' ⟨he, bel⟩ => ?_
  subst he
  exact ⟨_, rfl, _, _, _, [], _, [], hW', trodAll_mk1 (shut_bool Try.underlying4 _), trodAll_cons_mk (Below.trod laidOut (by kernel_rfl) (of_decide_eq_true (by kernel_rfl)) h0 bel lt0) (trodAll_cons_mk (Below.trod laidOut (by kernel_rfl) (of_decide_eq_true (by kernel_rfl)) h1 bel lt1) (trodAll_cons_mk (Below.trod laidOut (by kernel_rfl) (of_decide_eq_true (by kernel_rfl)) h2 bel lt2) trodAll_mk0)), rfl, bel.frame _, fun h => by cases h⟩

theorem over : Rows.fracOrderRow.holds Try.pinned (OpenSpec.ofChange Rows.fracOrderSpec) :=
  OpenClaim.holds_of_wide 4 Try.f4 rfl rfl rfl rfl rfl rfl rfl ⟨rfl, rfl, rfl, rfl, rfl⟩ rfl rfl rfl rfl rfl (by kernel_rfl) Try.func4 (by kernel_rfl)
    (of_decide_eq_true (by kernel_rfl)) (by unfold Func.isWrapper; first | (rw [if_pos (by decide +kernel)]; kernel_rfl) | (rw [if_neg (by decide +kernel)]; exact ⟨rfl, rfl⟩))
    (fun os started H enc _ => lifted os started H enc)

theorem proved : Rows.FracOrderSaid :=
  over
#print axioms proved
end Go.Proofs.Ytbmnloelimmgiaa.fracOrder
