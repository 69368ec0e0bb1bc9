/-
  The law WholeDivMatches returns true, whatever the two integers that come in, in whatever form, the divisor 0 among them, and all it was given reads as before. No condition.
-/
import Derived.Test.YtoaghihhobggoaaRows
import Derived.Test.YtoaghihhobggoaaDv28
import Derived.Test.YtoaghihhobggoaaDv29
namespace Go.Proofs.Ytoaghihhobggoaa.wholeDivMatches
open Go.ChangeShapes Go.WideShapes Go.ChangeAt Go.RowKit
open Go.ChangeMaps (open_string shut_string)

theorem long2 {n1 n2 : Nat} {A1 A2 : Option Addr} {c1 c2 : Nat} {V : World} {g : Nat} (h1 : n1 ≤ 9223372036854775807) (h2 : n2 ≤ 9223372036854775807)
    (e1 : V.cell? ⟨g, 1, none⟩ = some (.slice A1 n1 c1)) (e2 : V.cell? ⟨g, 3, none⟩ = some (.slice A2 n2 c2)) {r : Bool} (hr : [n1, n2].any (fun n => decide (12 < n)) = r) :
    Calls Try.prog 9 #[.slice (some ⟨g, 0, none⟩) 2 2] V fun e w' => e = .returned (.bool r) ∧ w' = V := by
  have h := long_any g [n1, n2] 2 V (fun k hk => by
    match k, hk with
    | 0, _ => exact ⟨A1, c1, e1⟩
    | 1, _ => exact ⟨A2, c2, e2⟩) (fun k hk => by
    match k, hk with
    | 0, _ => exact h1
    | 1, _ => exact h2) (by simp)
  rw [hr] at h
  exact h

set_option maxRecDepth 100000 in
set_option maxHeartbeats 2000000 in
theorem div_long {x1 y1 x2 y2 : Value} {w : World}
    (hL : ∀ (V : World) (g : Nat), V.cell? ⟨g, 1, none⟩ = some y1 → V.cell? ⟨g, 3, none⟩ = some y2 → Calls Try.prog 9 #[.slice (some ⟨g, 0, none⟩) 2 2] V fun e w' => e = .returned (.bool true) ∧ w' = V) :
    Calls Try.prog 4 #[.agg #[x1, y1], .agg #[x2, y2]] w fun e w' => e = .returned (.bool true) ∧ Below w.heap.size w w' := by
  obtain ⟨W0, hW0⟩ : ∃ W0, W0 = ((w.alloc (.cells #[x1, y1] 24)).alloc (.cells #[x2, y2] 24)).alloc (.cells #[x1, y1, x2, y2] 24) := ⟨_, rfl⟩
  have hb : Below w.heap.size w W0 := by rw [hW0]; exact (((Below.refl _ _).alloc (Nat.le_refl _) _).alloc (by simp) _).alloc (by simp; omega) _
  have HL : Hid (Calls Try.prog 9 #[.slice (some ⟨w.heap.size + 1 + 1, 0, none⟩) 2 2] W0 fun e w' => e = .returned (.bool true) ∧ w' = W0) := by
    have h := World.alloc_heap_new ((w.alloc (.cells #[x1, y1] 24)).alloc (.cells #[x2, y2] 24)) (.cells #[x1, y1, x2, y2] 24)
    rw [World.size_alloc, World.size_alloc, ← hW0] at h
    exact hL W0 (w.heap.size + 1 + 1) (by simp [World.cell?, h]) (by simp [World.cell?, h])
  have HW0 := Lib.hid hW0
  have HB0 := Lib.hid hb
  clear hL hW0 hb
  go_enter Try.func4, Try.ntmps4
  go_wp2_with fail
  rw [← HW0.out]
  refine HL.out.mono ?_
  rintro e W1 ⟨rfl, rfl⟩
  clear HL
  go_wp2_with fail
  refine (alive_any _).mono ?_
  rintro e w' ⟨rfl, b⟩
  have HE := Lib.hid (HB0.out.trans (b.mono HB0.out.size))
  clear b HB0 HW0
  go_wp2
  go_ret
  exact ⟨rfl, HE.out⟩

theorem walk (n1 n2 : Bool) {A1 A2 : Option Addr} {c1 c2 : Nat} {xs1 xs2 : List Nat} (w : World)
    (r1 : Rd .u32 w w.heap.size A1 xs1) (r2 : Rd .u32 w w.heap.size A2 xs2) (d1 : Dg b32 xs1) (d2 : Dg b32 xs2)
    (l1 : xs1.length ≤ c1) (l2 : xs2.length ≤ c2) (m1 : c1 ≤ 9223372036854775807) (m2 : c2 ≤ 9223372036854775807) :
    Calls Try.prog 4 #[.agg #[.bool n1, .slice A1 xs1.length c1], .agg #[.bool n2, .slice A2 xs2.length c2]] w fun e w' => e = .returned (.bool true) ∧ Below w.heap.size w w' := by
  by_cases hall : xs1.length ≤ 12 ∧ xs2.length ≤ 12
  · obtain ⟨k1, k2⟩ := hall
    exact div_core ⟨A1, c1, rfl, rfl, ⟨r1, d1, l1, m1, by omega⟩⟩ ⟨A2, c2, rfl, rfl, ⟨r2, d2, l2, m2, by omega⟩⟩ k1 k2
      (fun V g e1 e2 => long2 (by omega) (by omega) e1 e2 (by simp; omega))
  · exact div_long (fun V g e1 e2 => long2 (by omega) (by omega) e1 e2 (by simp; omega))

set_option maxRecDepth 100000 in
theorem lifted (os : Os) (started : os.Started) (H : Type) (enc : TypeId × Value → H) :
    ReturnsInHanded {} Try.checked os 4 .any (Rows.wholeDivMatchesSpec.pre6 enc Try.prog Try.f4 Rows.wholeDivMatchesRow.domain false) (Rows.wholeDivMatchesSpec.post enc Try.prog Try.f4 false true false false) := by
  refine returnsInHanded_of_change (C := Try.checked) own started (by kernel_rfl) Try.func4
    (ChangeSpec.witness6 (enc := enc) (C := Try.checked) false ⟨#[], #[.agg #[.bool false, .slice none 0 0], .agg #[.bool false, .slice none 0 0]], []⟩ 8 (by kernel_rfl) (by kernel_rfl) (by kernel_rfl) (by kernel_rfl)) ?_
  intro W base args ds gs before hval0 hW hcnd _
  have hval : ∀ (j : Nat) t v, Try.f4.params[j]? = some t → args[j]? = some v → Value.okWide Try.prog W .any base t v := hval0
  have hW' := hW
  obtain ⟨p, q, hA0, hV, rfl, hfz, hnd⟩ := hW
  have hA : DataW.TrodAll enc Try.prog W 0 (fun _ => true) true Try.f4.params.toList args.toList ds p := hA0
  rw [Try.params4] at hA hval
  obtain ⟨v0, vs0, d0, ds0, p0, q0, hargs, rfl, rfl, h0, r0⟩ := trodAll_cons hA
  obtain ⟨v1, vs1, d1, ds1, p1, q1, rfl, rfl, rfl, h1, r1⟩ := trodAll_cons r0
  obtain ⟨rfl, rfl, rfl⟩ := trodAll_nil r1
  obtain rfl : args = #[v0, v1] := by cases args; simp_all
  obtain ⟨rfl, rfl⟩ := trodVars_none hV
  have lt0 : ∀ x ∈ p0, x.block < W.heap.size := by obtain ⟨m, hm⟩ := h0; exact DataW.trod_lt m _ _ _ hm
  have lt1 : ∀ x ∈ p1, x.block < W.heap.size := by obtain ⟨m, hm⟩ := h1; exact DataW.trod_lt m _ _ _ hm
  obtain ⟨n0, A0, c0, xs0, rfl, rd0, dg0, le0, cp0⟩ := open_z (fun _ => rfl) (hval 0 24 v0 rfl rfl) h0
  obtain ⟨n1, A1, c1, xs1, rfl, rd1, dg1, le1, cp1⟩ := open_z (fun _ => rfl) (hval 1 24 v1 rfl rfl) h1
  clear hA0 hval0
  refine (walk n0 n1 W rd0 rd1 dg0 dg1 le0 le1 cp0 cp1).mono fun e W' ⟨he, bel⟩ => ?_
  subst he
  exact ⟨_, rfl, _, _, _, [], _, [], hW', trodAll_mk1 (shut_bool Try.underlying4 _), trodAll_cons_mk (Below.trod laidOut (by kernel_rfl) (of_decide_eq_true (by kernel_rfl)) h0 bel lt0) (trodAll_cons_mk (Below.trod laidOut (by kernel_rfl) (of_decide_eq_true (by kernel_rfl)) h1 bel lt1) trodAll_mk0), rfl, bel.frame _, fun h => by cases h⟩

theorem over : Rows.wholeDivMatchesRow.holds Try.pinned (OpenSpec.ofChange Rows.wholeDivMatchesSpec) :=
  OpenClaim.holds_of_wide 4 Try.f4 rfl rfl rfl rfl rfl rfl rfl ⟨rfl, rfl, rfl, rfl, rfl⟩ rfl rfl rfl rfl rfl (by kernel_rfl) Try.func4 (by kernel_rfl)
    (of_decide_eq_true (by kernel_rfl)) (by unfold Func.isWrapper; first | (rw [if_pos (by decide +kernel)]; kernel_rfl) | (rw [if_neg (by decide +kernel)]; exact ⟨rfl, rfl⟩))
    (fun os started H enc _ => lifted os started H enc)

theorem proved : Rows.WholeDivMatchesSaid :=
  over
#print axioms proved
end Go.Proofs.Ytoaghihhobggoaa.wholeDivMatches
