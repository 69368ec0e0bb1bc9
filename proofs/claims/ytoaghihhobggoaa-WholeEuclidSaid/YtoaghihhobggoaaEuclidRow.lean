/-
  The law WholeEuclid returns true, whatever the three integers that come in, in whatever form, 0 among them, and all it was given reads as before. No condition.
-/
import Derived.Test.YtoaghihhobggoaaRows
import Derived.Test.YtoaghihhobggoaaEuclid
import Derived.Test.YtoaghihhobggoaaDv29
set_option linter.unusedVariables false
set_option linter.unusedSimpArgs false
namespace Go.Proofs.Ytoaghihhobggoaa.wholeEuclid
open Go.ChangeShapes Go.WideShapes Go.ChangeAt Go.RowKit
open Go.ChangeMaps (open_string shut_string)

theorem long3 {n1 n2 n3 : Nat} {A1 A2 A3 : Option Addr} {c1 c2 c3 : Nat} {V : World} {g : Nat} (h1 : n1 ≤ 9223372036854775807) (h2 : n2 ≤ 9223372036854775807) (h3 : n3 ≤ 9223372036854775807)
    (e1 : V.cell? ⟨g, 1, none⟩ = some (.slice A1 n1 c1)) (e2 : V.cell? ⟨g, 3, none⟩ = some (.slice A2 n2 c2)) (e3 : V.cell? ⟨g, 5, none⟩ = some (.slice A3 n3 c3)) {r : Bool} (hr : [n1, n2, n3].any (fun n => decide (12 < n)) = r) :
    Calls Try.prog 9 #[.slice (some ⟨g, 0, none⟩) 3 3] V fun e w' => e = .returned (.bool r) ∧ w' = V := by
  have h := long_any g [n1, n2, n3] 3 V (fun k hk => by
    match k, hk with
    | 0, _ => exact ⟨A1, c1, e1⟩
    | 1, _ => exact ⟨A2, c2, e2⟩
    | 2, _ => exact ⟨A3, c3, e3⟩) (fun k hk => by
    match k, hk with
    | 0, _ => exact h1
    | 1, _ => exact h2
    | 2, _ => exact h3) (by simp)
  rw [hr] at h
  exact h

set_option maxRecDepth 100000 in
set_option maxHeartbeats 2000000 in
theorem euclid_long {x1 y1 x2 y2 x3 y3 : Value} {w : World}
    (hL : ∀ (V : World) (g : Nat), V.cell? ⟨g, 1, none⟩ = some y1 → V.cell? ⟨g, 3, none⟩ = some y2 → V.cell? ⟨g, 5, none⟩ = some y3 → Calls Try.prog 9 #[.slice (some ⟨g, 0, none⟩) 3 3] V fun e w' => e = .returned (.bool true) ∧ w' = V) :
    Calls Try.prog 7 #[.agg #[x1, y1], .agg #[x2, y2], .agg #[x3, y3]] w fun e w' => e = .returned (.bool true) ∧ Below w.heap.size w w' := by
  obtain ⟨W0, hW0⟩ : ∃ W0, W0 = (((w.alloc (.cells #[x1, y1] 24)).alloc (.cells #[x2, y2] 24)).alloc (.cells #[x3, y3] 24)).alloc (.cells #[x1, y1, x2, y2, x3, y3] 24) := ⟨_, rfl⟩
  have hb : Below w.heap.size w W0 := by rw [hW0]; exact ((((Below.refl _ _).alloc (Nat.le_refl _) _).alloc (by simp) _).alloc (by simp; omega) _).alloc (by simp; omega) _
  have HL : Hid (Calls Try.prog 9 #[.slice (some ⟨w.heap.size + 1 + 1 + 1, 0, none⟩) 3 3] W0 fun e w' => e = .returned (.bool true) ∧ w' = W0) := by
    have h := World.alloc_heap_new (((w.alloc (.cells #[x1, y1] 24)).alloc (.cells #[x2, y2] 24)).alloc (.cells #[x3, y3] 24)) (.cells #[x1, y1, x2, y2, x3, y3] 24)
    rw [World.size_alloc, World.size_alloc, World.size_alloc, ← hW0] at h
    exact hL W0 (w.heap.size + 1 + 1 + 1) (by simp [World.cell?, h]) (by simp [World.cell?, h]) (by simp [World.cell?, h])
  have HW0 := Lib.hid hW0
  have HB0 := Lib.hid hb
  clear hL hW0 hb
  go_enter Try.func7, Try.ntmps7
  go_wp2_with fail
  rw [← HW0.out]
  refine HL.out.mono ?_
  rintro e W1 ⟨rfl, rfl⟩
  clear HL
  go_wp2_with fail
  refine (alive_any _).mono ?_
  rintro e w' ⟨rfl, b⟩
  have HE := Lib.hid (HB0.out.trans (b.mono HB0.out.size))
  clear b HB0 HW0
  go_wp2
  go_ret
  exact ⟨rfl, HE.out⟩

theorem walk (n1 n2 n3 : Bool) {A1 A2 A3 : Option Addr} {c1 c2 c3 : Nat} {xs1 xs2 xs3 : List Nat} (w : World)
    (r1 : Rd .u32 w w.heap.size A1 xs1) (r2 : Rd .u32 w w.heap.size A2 xs2) (r3 : Rd .u32 w w.heap.size A3 xs3) (d1 : Dg b32 xs1) (d2 : Dg b32 xs2) (d3 : Dg b32 xs3)
    (l1 : xs1.length ≤ c1) (l2 : xs2.length ≤ c2) (l3 : xs3.length ≤ c3) (m1 : c1 ≤ 9223372036854775807) (m2 : c2 ≤ 9223372036854775807) (m3 : c3 ≤ 9223372036854775807) :
    Calls Try.prog 7 #[.agg #[.bool n1, .slice A1 xs1.length c1], .agg #[.bool n2, .slice A2 xs2.length c2], .agg #[.bool n3, .slice A3 xs3.length c3]] w fun e w' => e = .returned (.bool true) ∧ Below w.heap.size w w' := by
  by_cases hall : xs1.length ≤ 12 ∧ xs2.length ≤ 12 ∧ xs3.length ≤ 12
  · obtain ⟨k1, k2, k3⟩ := hall
    exact euclid_core ⟨n1, A1, c1, xs1, rfl, rfl, ⟨r1, d1, l1, m1, by omega⟩, by omega, rfl⟩ ⟨n2, A2, c2, xs2, rfl, rfl, ⟨r2, d2, l2, m2, by omega⟩, by omega, rfl⟩ ⟨n3, A3, c3, xs3, rfl, rfl, ⟨r3, d3, l3, m3, by omega⟩, by omega, rfl⟩
      (Sm.zof d1 k1) (Sm.zof d2 k2) (Sm.zof d3 k3) (fun V g e1 e2 e3 => long3 (by omega) (by omega) (by omega) e1 e2 e3 (by simp; omega))
  · exact euclid_long (fun V g e1 e2 e3 => long3 (by omega) (by omega) (by omega) e1 e2 e3 (by simp; omega))

set_option maxRecDepth 100000 in
theorem lifted (os : Os) (started : os.Started) (H : Type) (enc : TypeId × Value → H) :
    ReturnsInHanded {} Try.checked os 7 .any (Rows.wholeEuclidSpec.pre6 enc Try.prog Try.f7 Rows.wholeEuclidRow.domain false) (Rows.wholeEuclidSpec.post enc Try.prog Try.f7 false true false false) := by
  refine returnsInHanded_of_change (C := Try.checked) own started (by kernel_rfl) Try.func7
    (ChangeSpec.witness6 (enc := enc) (C := Try.checked) false ⟨#[], #[.agg #[.bool false, .slice none 0 0], .agg #[.bool false, .slice none 0 0], .agg #[.bool false, .slice none 0 0]], []⟩ 8 (by kernel_rfl) (by kernel_rfl) (by kernel_rfl) (by kernel_rfl)) ?_
  intro W base args ds gs before hval0 hW hcnd _
  have hval : ∀ (j : Nat) t v, Try.f7.params[j]? = some t → args[j]? = some v → Value.okWide Try.prog W .any base t v := hval0
  have hW' := hW
  obtain ⟨p, q, hA0, hV, rfl, hfz, hnd⟩ := hW
  have hA : DataW.TrodAll enc Try.prog W 0 (fun _ => true) true Try.f7.params.toList args.toList ds p := hA0
  rw [Try.params7] at hA hval
  obtain ⟨v0, vs0, d0, ds0, p0, q0, hargs, rfl, rfl, h0, r0⟩ := trodAll_cons hA
  obtain ⟨v1, vs1, d1, ds1, p1, q1, rfl, rfl, rfl, h1, r1⟩ := trodAll_cons r0
  obtain ⟨v2, vs2, d2, ds2, p2, q2, rfl, rfl, rfl, h2, r2⟩ := trodAll_cons r1
  obtain ⟨rfl, rfl, rfl⟩ := trodAll_nil r2
  obtain rfl : args = #[v0, v1, v2] := by cases args; simp_all
  obtain ⟨rfl, rfl⟩ := trodVars_none hV
  have lt0 : ∀ x ∈ p0, x.block < W.heap.size := by obtain ⟨m, hm⟩ := h0; exact DataW.trod_lt m _ _ _ hm
  have lt1 : ∀ x ∈ p1, x.block < W.heap.size := by obtain ⟨m, hm⟩ := h1; exact DataW.trod_lt m _ _ _ hm
  have lt2 : ∀ x ∈ p2, x.block < W.heap.size := by obtain ⟨m, hm⟩ := h2; exact DataW.trod_lt m _ _ _ hm
  obtain ⟨n0, A0, c0, xs0, rfl, rd0, dg0, le0, cp0⟩ := open_z (fun _ => rfl) (hval 0 24 v0 rfl rfl) h0
  obtain ⟨n1, A1, c1, xs1, rfl, rd1, dg1, le1, cp1⟩ := open_z (fun _ => rfl) (hval 1 24 v1 rfl rfl) h1
  obtain ⟨n2, A2, c2, xs2, rfl, rd2, dg2, le2, cp2⟩ := open_z (fun _ => rfl) (hval 2 24 v2 rfl rfl) h2
  clear hA0 hval0
  refine (walk n0 n1 n2 W rd0 rd1 rd2 dg0 dg1 dg2 le0 le1 le2 cp0 cp1 cp2).mono fun e W' ⟨he, bel⟩ => ?_
  subst he
  exact ⟨_, rfl, _, _, _, [], _, [], hW', trodAll_mk1 (shut_bool Try.underlying4 _), trodAll_cons_mk (Below.trod laidOut (by kernel_rfl) (of_decide_eq_true (by kernel_rfl)) h0 bel lt0) (trodAll_cons_mk (Below.trod laidOut (by kernel_rfl) (of_decide_eq_true (by kernel_rfl)) h1 bel lt1) (trodAll_cons_mk (Below.trod laidOut (by kernel_rfl) (of_decide_eq_true (by kernel_rfl)) h2 bel lt2) trodAll_mk0)), rfl, bel.frame _, fun h => by cases h⟩

theorem over : Rows.wholeEuclidRow.holds Try.pinned (OpenSpec.ofChange Rows.wholeEuclidSpec) :=
  OpenClaim.holds_of_wide 7 Try.f7 rfl rfl rfl rfl rfl rfl rfl ⟨rfl, rfl, rfl, rfl, rfl⟩ rfl rfl rfl rfl rfl (by kernel_rfl) Try.func7 (by kernel_rfl)
    (of_decide_eq_true (by kernel_rfl)) (by unfold Func.isWrapper; first | (rw [if_pos (by decide +kernel)]; kernel_rfl) | (rw [if_neg (by decide +kernel)]; exact ⟨rfl, rfl⟩))
    (fun os started H enc _ => lifted os started H enc)

theorem proved : Rows.WholeEuclidSaid :=
  over
#print axioms proved
end Go.Proofs.Ytoaghihhobggoaa.wholeEuclid
