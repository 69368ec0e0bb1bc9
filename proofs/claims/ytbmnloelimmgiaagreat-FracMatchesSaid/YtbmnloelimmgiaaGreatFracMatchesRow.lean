/-
  The law FracMatches returns true, whatever the two rationals that come in, in whatever form, and all it was given reads as before. No condition.
-/
import Derived.Test.YtbmnloelimmgiaaGreatRows
import Derived.Test.YtbmnloelimmgiaaGreatGm24
namespace Go.Proofs.YtbmnloelimmgiaaGreat.fracMatches
set_option maxRecDepth 100000
open Go.ChangeShapes Go.WideShapes Go.ChangeAt Go.RowKit
open Go.ChangeMaps (open_string shut_string)
set_option maxRecDepth 100000 in
theorem long2 {n1 n2 n3 n4 : Nat} {b1 b2 b3 b4 : Bool} {A1 A2 A3 A4 : Option Addr} {c1 c2 c3 c4 : Nat} {V : World} {g : Nat} (h1 : n1 ≤ 9223372036854775807) (h2 : n2 ≤ 9223372036854775807) (h3 : n3 ≤ 9223372036854775807) (h4 : n4 ≤ 9223372036854775807)
  (h : V.heap[g]? = some (.cells #[.bool b1, .slice A1 n1 c1, .bool b2, .slice A2 n2 c2, .bool b3, .slice A3 n3 c3, .bool b4, .slice A4 n4 c4] 26 (0, 0))) {r : Bool} (hr : ([(n1, n2), (n3, n4)].any fun p => decide (6 < p.1) || decide (6 < p.2)) = r) :
  Calls Tryz.prog 5 #[.slice (some ⟨g, 0, none⟩) 2 2] V fun e w' => e = .returned (.bool r) ∧ Below V.heap.size V w' := by
 have hg : g < V.heap.size := (Array.getElem?_eq_some_iff.1 h).1
 exact flong_any g [(n1, n2), (n3, n4)] 2 V hg (fun k hk => by
  match k, hk with
  | 0, _ => exact ⟨b1, A1, c1, b2, A2, c2, by simp [World.cell?, h], by simp [World.cell?, h], by simp [World.cell?, h], by simp [World.cell?, h]⟩
  | 1, _ => exact ⟨b3, A3, c3, b4, A4, c4, by simp [World.cell?, h], by simp [World.cell?, h], by simp [World.cell?, h], by simp [World.cell?, h]⟩) (fun k hk => by
  match k, hk with
  | 0, _ => exact ⟨h1, h2⟩
  | 1, _ => exact ⟨h3, h4⟩) (by simp) hr
theorem walk {a1 a2 a3 a4 b1 b2 b3 b4 : Value} (w : World) (z1 : Zx2 w a1 a2) (z2 : Zx2 w a3 a4) (z3 : Zx2 w b1 b2) (z4 : Zx2 w b3 b4) :
  Calls Tryz.prog 3 #[.agg #[a1, a2, a3, a4], .agg #[b1, b2, b3, b4]] w fun e w' => e = .returned (.bool true) ∧ Below w.heap.size w w' := by
 obtain ⟨n1, A1, c1, xs1, rfl, rfl, r1, d1, l1, m1⟩ := z1
 obtain ⟨n2, A2, c2, xs2, rfl, rfl, r2, d2, l2, m2⟩ := z2
 obtain ⟨n3, A3, c3, xs3, rfl, rfl, r3, d3, l3, m3⟩ := z3
 obtain ⟨n4, A4, c4, xs4, rfl, rfl, r4, d4, l4, m4⟩ := z4
 by_cases hall : (xs1.length ≤ 6 ∧ xs2.length ≤ 6) ∧ (xs3.length ≤ 6 ∧ xs4.length ≤ 6)
 ·obtain ⟨⟨k1, k2⟩, ⟨k3, k4⟩⟩ := hall
  exact match_core (n1 := n1) (n2 := n2) (n3 := n3) (n4 := n4) (xs1 := xs1) (xs2 := xs2) (xs3 := xs3) (xs4 := xs4) ⟨⟨A1, c1, rfl, rfl, ⟨r1, d1, l1, m1, by omega⟩⟩, ⟨A2, c2, rfl, rfl, ⟨r2, d2, l2, m2, by omega⟩⟩⟩ ⟨⟨A3, c3, rfl, rfl, ⟨r3, d3, l3, m3, by omega⟩⟩, ⟨A4, c4, rfl, rfl, ⟨r4, d4, l4, m4, by omega⟩⟩⟩ k1 k2 k3 k4
   (fun V g h => long2 (by omega) (by omega) (by omega) (by omega) h (by simp; omega))
 ·exact match_long (fun V g h => long2 (by omega) (by omega) (by omega) (by omega) h (by simp; omega))
theorem lifted (os : Os) (started : os.Started) (H : Type) (enc : TypeId × Value → H) :
  ReturnsInHanded {} Tryz.checked os 3 .any (Rows.fracMatchesSpec.pre6 enc Tryz.prog Tryz.f3 Rows.fracMatchesRow.domain false) (Rows.fracMatchesSpec.post enc Tryz.prog Tryz.f3 false true false false) := by
 refine returnsInHanded_of_change (C := Tryz.checked) own started (by kernel_rfl) Tryz.func3
  (ChangeSpec.witness6 (enc := enc) (C := Tryz.checked) false ⟨#[], #[.agg #[.bool false, .slice none 0 0, .bool false, .slice none 0 0], .agg #[.bool false, .slice none 0 0, .bool false, .slice none 0 0]], []⟩ 8 (by kernel_rfl) (by kernel_rfl) (by kernel_rfl) (by kernel_rfl)) ?_
 intro W base args ds gs before hval0 hW hcnd _
 have hval : ∀ (j : Nat) t v, Tryz.f3.params[j]? = some t → args[j]? = some v → Value.okWide Tryz.prog W .any base t v := hval0
 have hW' := hW
 obtain ⟨p, q, hA0, hV, rfl, hfz, hnd⟩ := hW
 have hA : DataW.TrodAll enc Tryz.prog W 0 (fun _ => true) true Tryz.f3.params.toList args.toList ds p := hA0
 rw [Tryz.params3] at hA hval
 obtain ⟨v0, vs0, d0, ds0, p0, q0, hargs, rfl, rfl, h0, r0⟩ := trodAll_cons hA
 obtain ⟨v1, vs1, d1, ds1, p1, q1, rfl, rfl, rfl, h1, r1⟩ := trodAll_cons r0
 obtain ⟨rfl, rfl, rfl⟩ := trodAll_nil r1
 obtain rfl : args = #[v0, v1] := by cases args; simp_all
 obtain ⟨rfl, rfl⟩ := trodVars_none hV
 have lt0 : ∀ x ∈ p0, x.block < W.heap.size := by obtain ⟨m, hm⟩ := h0; exact DataW.trod_lt m _ _ _ hm
 have lt1 : ∀ x ∈ p1, x.block < W.heap.size := by obtain ⟨m, hm⟩ := h1; exact DataW.trod_lt m _ _ _ hm
 obtain ⟨a1, a2, a3, a4, rfl, za, zb⟩ := open_q (fun _ => rfl) (hval 0 26 v0 rfl rfl) h0
 obtain ⟨b1, b2, b3, b4, rfl, zc, zd⟩ := open_q (fun _ => rfl) (hval 1 26 v1 rfl rfl) h1
 clear hA0 hval0
 refine (walk W za zb zc zd).mono fun e W' ⟨he, bel⟩ => ?_
 subst he
 exact ⟨_, rfl, _, _, _, [], _, [], hW', trodAll_mk1 (shut_bool Tryz.underlying4 _), trodAll_cons_mk (Below.trod laidOut (by kernel_rfl) (of_decide_eq_true (by kernel_rfl)) h0 bel lt0) (trodAll_cons_mk (Below.trod laidOut (by kernel_rfl) (of_decide_eq_true (by kernel_rfl)) h1 bel lt1) trodAll_mk0), rfl, bel.frame _, fun h => by cases h⟩
theorem over : Rows.fracMatchesRow.holds Tryz.pinned (OpenSpec.ofChange Rows.fracMatchesSpec) :=
 OpenClaim.holds_of_wide 3 Tryz.f3 rfl rfl rfl rfl rfl rfl rfl ⟨rfl, rfl, rfl, rfl, rfl⟩ rfl rfl rfl rfl rfl (by kernel_rfl) Tryz.func3 (by kernel_rfl)
  (of_decide_eq_true (by kernel_rfl)) (by unfold Func.isWrapper; first | (rw [if_pos (by decide +kernel)]; kernel_rfl) | (rw [if_neg (by decide +kernel)]; exact ⟨rfl, rfl⟩))
  (fun os started H enc _ => lifted os started H enc)
theorem proved : Rows.FracMatchesSaid :=
 over
#print axioms proved
end Go.Proofs.YtbmnloelimmgiaaGreat.fracMatches
