/- Parts: Q4. -/
import Derived.Test.YtbmnloelimmgiaaFq20
import Derived.Test.YtbmnloelimmgiaaFq21
set_option linter.unusedVariables false
set_option linter.unusedSimpArgs false

namespace Go.Proofs.Ytbmnloelimmgiaa
set_option maxRecDepth 100000
open Go.RowKit Go.Shelf

set_option maxHeartbeats 4000000 in
theorem isCanQ_0 {w : World} {x1 y1 x2 y2 : Value} {p q : Int} (h1 : Zc w x1 y1 p) (h2 : Zc w x2 y2 q) (sp : Sg p) (hq : q = 0) :
    Calls Try.prog 14 #[.agg #[x1, y1, x2, y2]] w fun e w' => e = .returned (.bool true) ∧ Below w.heap.size w w' := by
  obtain ⟨W0, hW0⟩ : ∃ W0, W0 = w.alloc (.cells #[x1, y1, x2, y2] 26) := ⟨_, rfl⟩
  have hbw : Below w.heap.size w W0 := by rw [hW0]; exact (Below.refl _ _).alloc (Nat.le_refl _) _
  have tA : Four W0 w.heap.size x1 y1 x2 y2 := by rw [hW0]; exact Four.new w _ _ _ _ _
  have HW0 := Lib.hid hW0
  have hA := h1.to hbw
  have hB := h2.to hbw
  have HB := Lib.hid hbw
  have SP := Lib.hid sp
  have SQ : Hid (Sg q) := by show Sg _; rw [hq]; exact sg_lit (by decide)
  have hl : ((dig b32 q.natAbs).length : Int) = 0 := by rw [hq]; rfl
  clear h1 h2 hW0 hbw sp hq
  obtain ⟨A2, c2, ex2, ey2, hz2⟩ := hB
  have hB : Zc W0 x2 y2 q := ⟨A2, c2, ex2, ey2, hz2⟩
  obtain ⟨l, el⟩ : ∃ l, (dig b32 q.natAbs).length = l := ⟨_, rfl⟩
  rw [el] at hl ey2
  subst ex2 ey2
  have hl2 : ((l : Int) == 0) = true := by rw [beq_iff_eq]; exact hl
  clear hz2 el hl
  go_enter Try.func14, Try.ntmps14
  go_wp2_with fail
  rw [← HW0.out]
  have k0 := tA.c0
  have k1 := tA.c1
  go_wp2_with fail
  refine (isCan_c hA SP.out.sm (by decide)).mono ?_
  rintro e V1 ⟨rfl, bb⟩
  replace tA := tA.to bb
  replace hB := hB.to bb
  replace HB := Lib.hid (HB.out.trans (bb.mono HB.out.size))
  clear k0 k1 bb hA
  have k2 := tA.c2
  have k3 := tA.c3
  go_wp2_with fail
  refine (isCan_c hB SQ.out.sm (by decide)).mono ?_
  rintro e V2 ⟨rfl, bb⟩
  replace tA := tA.to bb
  replace HB := Lib.hid (HB.out.trans (bb.mono HB.out.size))
  clear k2 k3 bb hB
  have k2 := tA.c2
  have k3 := tA.c3
  go_wp2
  go_ret
  exact ⟨rfl, HB.out⟩

theorem isCan_q {w : World} {x1 y1 x2 y2 : Value} {r : Rat} {k : Nat} (h : Qc w x1 y1 x2 y2 r) (hm : Qm k r) (hk : k ≤ 10000) :
    Calls Try.prog 14 #[.agg #[x1, y1, x2, y2]] w fun e w' => e = .returned (.bool true) ∧ Below w.heap.size w w' := by
  obtain ⟨h1, h2⟩ := h
  by_cases hd : r.den = 1
  · rw [if_pos hd] at h2
    exact isCanQ_0 h1 h2 (hm.1.sg hk) rfl
  · rw [if_neg hd] at h2
    have h3 := isCanQ h1 h2 (hm.1.sg hk) (hm.2.sg hk) (by have := r.den_pos; omega)
    rw [show decide ((r.den : Int) ≠ 1 ∧ Int.gcd r.num r.den = 1) = true from decide_eq_true ⟨by omega, r.reduced⟩] at h3
    exact h3

theorem long_2 {n1 n2 : Nat} {A1 A2 : Option Addr} {c1 c2 : Nat} {V : World} {g : Nat} (h1 : n1 ≤ 9223372036854775807) (h2 : n2 ≤ 9223372036854775807)
    (e1 : V.cell? ⟨g, 1, none⟩ = some (.slice A1 n1 c1)) (e2 : V.cell? ⟨g, 3, none⟩ = some (.slice A2 n2 c2)) {r : Bool} (hr : [n1, n2].any (fun n => decide (12 < n)) = r) :
    Calls Try.prog 22 #[.slice (some ⟨g, 0, none⟩) 2 2] V fun e w' => e = .returned (.bool r) ∧ w' = V := by
  have h := long_any g [n1, n2] 2 V (fun k hk => by
    match k, hk with
    | 0, _ => exact ⟨A1, c1, e1⟩
    | 1, _ => exact ⟨A2, c2, e2⟩) (fun k hk => by
    match k, hk with
    | 0, _ => exact h1
    | 1, _ => exact h2) (by simp)
  rw [hr] at h
  exact h


set_option maxHeartbeats 8000000 in
theorem flong_any (g : Nat) (ls : List (Nat × Nat)) (cap : Nat) (w : World) (hg : g < w.heap.size)
    (h : ∀ (k : Nat) (hk : k < ls.length), ∃ n1 A1 c1 n2 A2 c2, w.cell? ⟨g, k * 4, none⟩ = some (.bool n1) ∧ w.cell? ⟨g, k * 4 + 1, none⟩ = some (.slice A1 ls[k].1 c1) ∧ w.cell? ⟨g, k * 4 + 2, none⟩ = some (.bool n2) ∧ w.cell? ⟨g, k * 4 + 3, none⟩ = some (.slice A2 ls[k].2 c2))
    (hs : ∀ (k : Nat) (hk : k < ls.length), ls[k].1 ≤ 9223372036854775807 ∧ ls[k].2 ≤ 9223372036854775807) (hl : ls.length ≤ 1000) {r : Bool} (hr : (ls.any fun p => decide (6 < p.1) || decide (6 < p.2)) = r) :
    Calls Try.prog 6 #[.slice (some ⟨g, 0, none⟩) ls.length cap] w fun e w' => e = .returned (.bool r) ∧ Below w.heap.size w w' := by
  have H := Lib.hid h
  have HS := Lib.hid hs
  have HG := Lib.hid hg
  have HR := Lib.hid hr
  clear h hs hg hr
  go_enter Try.func6, Try.ntmps6
  go_wp2
  go_loopw [3] (fun i wr => ∃ k : Nat, i = .int .i64 k ∧ k ≤ ls.length ∧ (∀ j (hj : j < ls.length), j < k → ls[j].1 ≤ 6 ∧ ls[j].2 ≤ 6) ∧ Below w.heap.size w wr) (fun i _ => ls.length - (intOf i).toNat)
  case atStart => exact ⟨0, rfl, Nat.zero_le _, (fun j _ hj => by omega), Below.refl _ _⟩
  case round =>
    obtain ⟨k, rfl, hk, ht, hb⟩ := hrel
    have HT := Lib.hid ht
    have HB := Lib.hid hb
    clear ht hb
    by_cases hlt : k < ls.length
    · have hc := H.out k hlt
      have hm := HS.out k hlt
      have hki : (0 : Int) ≤ (k : Int) := by omega
      have hki' : (k : Int) < (ls.length : Int) := by omega
      have HN : Hid (ls[k] = ls[k]) := rfl
      obtain ⟨⟨m1, m2⟩, hn⟩ : ∃ m, ls[k] = m := ⟨_, rfl⟩
      rw [hn] at hc hm
      have HN2 := Lib.hid hn
      obtain ⟨n1, A1, c1, n2, A2, c2, hc⟩ := hc
      have HC := Lib.hid hc
      have M1 := Lib.hid hm.1
      have M2 := Lib.hid hm.2
      clear hc hm hn HN
      by_cases ha : 12 < m1 ∨ 12 < m2
      · have HL : Hid ([m1, m2].any (fun n => decide (12 < n)) = true) := by show _ = _; simpa using ha
        have hany : Hid ((ls.any fun p => decide (6 < p.1) || decide (6 < p.2)) = true) := by
          show _ = _
          rw [List.any_eq_true]
          exact ⟨ls[k], List.getElem_mem hlt, by rw [HN2.out]; simp; omega⟩
        clear ha
        go_wp2_with fail
        refine wp_region_plan (S := fun w' => Below w.heap.size w w') [(0, true), (1, true), (2, true), (3, true), (4, true), (5, true), (6, true), (7, true), (8, true), (9, true), (10, false), (11, false), (12, true), (13, true), (14, true), (15, true), (16, true), (17, true), (18, true), (19, true), (20, true), (21, true), (22, true), (23, true), (24, true), (25, true), (26, true), (27, true), (28, true), (29, true), (30, true), (31, true)] (by kernel_rfl) (by kernel_rfl) HB.out.drew ?_
        have hb := HB.out.drew
        refine plan_take (v := ?_) rfl (by rfl) ?_ ?_; rotate_left; (focus (intro w' hS; have f0 := (hS.cell (p := ⟨g, k * 4, none⟩) HG.out).trans HC.out.1; have f1 := (hS.cell (p := ⟨g, k * 4 + 1, none⟩) HG.out).trans HC.out.2.1; have f2 := (hS.cell (p := ⟨g, k * 4 + 2, none⟩) HG.out).trans HC.out.2.2.1; have f3 := (hS.cell (p := ⟨g, k * 4 + 3, none⟩) HG.out).trans HC.out.2.2.2; go_simp; try with_reducible rfl)); simp only [Act.put, List.setIfInBounds_toArray, List.set_cons_zero, List.set_cons_succ]
        refine plan_take (v := ?_) rfl (by rfl) ?_ ?_; rotate_left; (focus (intro w' hS; have f0 := (hS.cell (p := ⟨g, k * 4, none⟩) HG.out).trans HC.out.1; have f1 := (hS.cell (p := ⟨g, k * 4 + 1, none⟩) HG.out).trans HC.out.2.1; have f2 := (hS.cell (p := ⟨g, k * 4 + 2, none⟩) HG.out).trans HC.out.2.2.1; have f3 := (hS.cell (p := ⟨g, k * 4 + 3, none⟩) HG.out).trans HC.out.2.2.2; go_simp; try with_reducible rfl)); simp only [Act.put, List.setIfInBounds_toArray, List.set_cons_zero, List.set_cons_succ]
        refine plan_take (v := ?_) rfl (by rfl) ?_ ?_; rotate_left; (focus (intro w' hS; have f0 := (hS.cell (p := ⟨g, k * 4, none⟩) HG.out).trans HC.out.1; have f1 := (hS.cell (p := ⟨g, k * 4 + 1, none⟩) HG.out).trans HC.out.2.1; have f2 := (hS.cell (p := ⟨g, k * 4 + 2, none⟩) HG.out).trans HC.out.2.2.1; have f3 := (hS.cell (p := ⟨g, k * 4 + 3, none⟩) HG.out).trans HC.out.2.2.2; go_simp; try with_reducible rfl)); simp only [Act.put, List.setIfInBounds_toArray, List.set_cons_zero, List.set_cons_succ]
        refine plan_take (v := ?_) rfl (by rfl) ?_ ?_; rotate_left; (focus (intro w' hS; have f0 := (hS.cell (p := ⟨g, k * 4, none⟩) HG.out).trans HC.out.1; have f1 := (hS.cell (p := ⟨g, k * 4 + 1, none⟩) HG.out).trans HC.out.2.1; have f2 := (hS.cell (p := ⟨g, k * 4 + 2, none⟩) HG.out).trans HC.out.2.2.1; have f3 := (hS.cell (p := ⟨g, k * 4 + 3, none⟩) HG.out).trans HC.out.2.2.2; go_simp; try with_reducible rfl)); simp only [Act.put, List.setIfInBounds_toArray, List.set_cons_zero, List.set_cons_succ]
        refine plan_take (v := ?_) rfl (by rfl) ?_ ?_; rotate_left; (focus (intro w' hS; have f0 := (hS.cell (p := ⟨g, k * 4, none⟩) HG.out).trans HC.out.1; have f1 := (hS.cell (p := ⟨g, k * 4 + 1, none⟩) HG.out).trans HC.out.2.1; have f2 := (hS.cell (p := ⟨g, k * 4 + 2, none⟩) HG.out).trans HC.out.2.2.1; have f3 := (hS.cell (p := ⟨g, k * 4 + 3, none⟩) HG.out).trans HC.out.2.2.2; go_simp; try with_reducible rfl)); simp only [Act.put, List.setIfInBounds_toArray, List.set_cons_zero, List.set_cons_succ]
        refine plan_take (v := ?_) rfl (by rfl) ?_ ?_; rotate_left; (focus (intro w' hS; have f0 := (hS.cell (p := ⟨g, k * 4, none⟩) HG.out).trans HC.out.1; have f1 := (hS.cell (p := ⟨g, k * 4 + 1, none⟩) HG.out).trans HC.out.2.1; have f2 := (hS.cell (p := ⟨g, k * 4 + 2, none⟩) HG.out).trans HC.out.2.2.1; have f3 := (hS.cell (p := ⟨g, k * 4 + 3, none⟩) HG.out).trans HC.out.2.2.2; go_simp; try with_reducible rfl)); simp only [Act.put, List.setIfInBounds_toArray, List.set_cons_zero, List.set_cons_succ]
        refine plan_take (v := ?_) rfl (by rfl) ?_ ?_; rotate_left; (focus (intro w' hS; have f0 := (hS.cell (p := ⟨g, k * 4, none⟩) HG.out).trans HC.out.1; have f1 := (hS.cell (p := ⟨g, k * 4 + 1, none⟩) HG.out).trans HC.out.2.1; have f2 := (hS.cell (p := ⟨g, k * 4 + 2, none⟩) HG.out).trans HC.out.2.2.1; have f3 := (hS.cell (p := ⟨g, k * 4 + 3, none⟩) HG.out).trans HC.out.2.2.2; go_simp; try with_reducible rfl)); simp only [Act.put, List.setIfInBounds_toArray, List.set_cons_zero, List.set_cons_succ]
        refine plan_take (v := ?_) rfl (by rfl) ?_ ?_; rotate_left; (focus (intro w' hS; have f0 := (hS.cell (p := ⟨g, k * 4, none⟩) HG.out).trans HC.out.1; have f1 := (hS.cell (p := ⟨g, k * 4 + 1, none⟩) HG.out).trans HC.out.2.1; have f2 := (hS.cell (p := ⟨g, k * 4 + 2, none⟩) HG.out).trans HC.out.2.2.1; have f3 := (hS.cell (p := ⟨g, k * 4 + 3, none⟩) HG.out).trans HC.out.2.2.2; go_simp; try with_reducible rfl)); simp only [Act.put, List.setIfInBounds_toArray, List.set_cons_zero, List.set_cons_succ]
        refine plan_take (v := ?_) rfl (by rfl) ?_ ?_; rotate_left; (focus (intro w' hS; have f0 := (hS.cell (p := ⟨g, k * 4, none⟩) HG.out).trans HC.out.1; have f1 := (hS.cell (p := ⟨g, k * 4 + 1, none⟩) HG.out).trans HC.out.2.1; have f2 := (hS.cell (p := ⟨g, k * 4 + 2, none⟩) HG.out).trans HC.out.2.2.1; have f3 := (hS.cell (p := ⟨g, k * 4 + 3, none⟩) HG.out).trans HC.out.2.2.2; go_simp; try with_reducible rfl)); simp only [Act.put, List.setIfInBounds_toArray, List.set_cons_zero, List.set_cons_succ]
        refine plan_take (v := ?_) rfl (by rfl) ?_ ?_; rotate_left; (focus (intro w' hS; have f0 := (hS.cell (p := ⟨g, k * 4, none⟩) HG.out).trans HC.out.1; have f1 := (hS.cell (p := ⟨g, k * 4 + 1, none⟩) HG.out).trans HC.out.2.1; have f2 := (hS.cell (p := ⟨g, k * 4 + 2, none⟩) HG.out).trans HC.out.2.2.1; have f3 := (hS.cell (p := ⟨g, k * 4 + 3, none⟩) HG.out).trans HC.out.2.2.2; go_simp; try with_reducible rfl)); simp only [Act.put, List.setIfInBounds_toArray, List.set_cons_zero, List.set_cons_succ]
        refine plan_call rfl (by rfl) (fun K hK => ?_)
        go_simp
        have hnew := (Four.new wr (.bool n1) (.slice A1 m1 c1) (.bool n2) (.slice A2 m2 c2) 24).to (Below.refl _ _).drew
        replace hb := hb.alloc hb.size (.cells #[.bool n1, .slice A1 m1 c1, .bool n2, .slice A2 m2 c2] 24)
        refine hK.out _ _ hb ?_
        clear hK K
        refine plan_call rfl (by rfl) (fun K hK => ?_)
        go_simp
        refine (long_2 M1.out M2.out hnew.c1 hnew.c3 HL.out).mono ?_
        rintro e V ⟨rfl, rfl⟩
        refine hK.out _ _ hb ?_
        clear hK K hnew
        refine plan_take (v := ?_) rfl (by rfl) ?_ ?_; rotate_left; (focus (intro w' hS; go_simp; try with_reducible rfl)); simp only [Act.put, List.setIfInBounds_toArray, List.set_cons_zero, List.set_cons_succ]
        refine plan_skip rfl (by rfl) ?_; simp only [Act.put, List.setIfInBounds_toArray, List.set_cons_zero, List.set_cons_succ]
        refine plan_skip rfl (by rfl) ?_; simp only [Act.put, List.setIfInBounds_toArray, List.set_cons_zero, List.set_cons_succ]
        refine plan_skip rfl (by rfl) ?_; simp only [Act.put, List.setIfInBounds_toArray, List.set_cons_zero, List.set_cons_succ]
        refine plan_skip rfl (by rfl) ?_; simp only [Act.put, List.setIfInBounds_toArray, List.set_cons_zero, List.set_cons_succ]
        refine plan_skip rfl (by rfl) ?_; simp only [Act.put, List.setIfInBounds_toArray, List.set_cons_zero, List.set_cons_succ]
        refine plan_skip rfl (by rfl) ?_; simp only [Act.put, List.setIfInBounds_toArray, List.set_cons_zero, List.set_cons_succ]
        refine plan_skip rfl (by rfl) ?_; simp only [Act.put, List.setIfInBounds_toArray, List.set_cons_zero, List.set_cons_succ]
        refine plan_skip rfl (by rfl) ?_; simp only [Act.put, List.setIfInBounds_toArray, List.set_cons_zero, List.set_cons_succ]
        refine plan_take (v := ?_) rfl (by rfl) ?_ ?_; rotate_left; (focus (intro w' hS; go_simp; try with_reducible rfl)); simp only [Act.put, List.setIfInBounds_toArray, List.set_cons_zero, List.set_cons_succ]
        refine plan_take (v := ?_) rfl (by rfl) ?_ ?_; rotate_left; (focus (intro w' hS; go_simp; try with_reducible rfl)); simp only [Act.put, List.setIfInBounds_toArray, List.set_cons_zero, List.set_cons_succ]
        refine plan_skip rfl (by rfl) ?_; simp only [Act.put, List.setIfInBounds_toArray, List.set_cons_zero, List.set_cons_succ]
        refine plan_skip rfl (by rfl) ?_; simp only [Act.put, List.setIfInBounds_toArray, List.set_cons_zero, List.set_cons_succ]
        refine plan_skip rfl (by rfl) ?_; simp only [Act.put, List.setIfInBounds_toArray, List.set_cons_zero, List.set_cons_succ]
        refine plan_skip rfl (by rfl) ?_; simp only [Act.put, List.setIfInBounds_toArray, List.set_cons_zero, List.set_cons_succ]
        refine plan_skip rfl (by rfl) ?_; simp only [Act.put, List.setIfInBounds_toArray, List.set_cons_zero, List.set_cons_succ]
        refine plan_skip rfl (by rfl) ?_; simp only [Act.put, List.setIfInBounds_toArray, List.set_cons_zero, List.set_cons_succ]
        refine plan_skip rfl (by rfl) ?_; simp only [Act.put, List.setIfInBounds_toArray, List.set_cons_zero, List.set_cons_succ]
        refine plan_skip rfl (by rfl) ?_; simp only [Act.put, List.setIfInBounds_toArray, List.set_cons_zero, List.set_cons_succ]
        refine plan_take (v := ?_) rfl (by rfl) ?_ ?_; rotate_left; (focus (intro w' hS; go_simp; try with_reducible rfl)); simp only [Act.put, List.setIfInBounds_toArray, List.set_cons_zero, List.set_cons_succ]
        refine plan_done ?_
        have HE := Lib.hid hb
        clear hb HB
        go_wp2
        go_ret
        exact ⟨by rw [← HR.out, hany.out]; rfl, HE.out⟩
      · have HL : Hid ([m1, m2].any (fun n => decide (12 < n)) = false) := by show _ = _; simpa using ha
        by_cases hb6 : 6 < m1
        · have hany : Hid ((ls.any fun p => decide (6 < p.1) || decide (6 < p.2)) = true) := by
            show _ = _
            rw [List.any_eq_true]
            exact ⟨ls[k], List.getElem_mem hlt, by rw [HN2.out]; simp; omega⟩
          clear ha
          have d1 : decide ((6 : Int) < (m1 : Int)) = true := by simp; omega
          clear hb6
          go_wp2_with fail
          refine wp_region_plan (S := fun w' => Below w.heap.size w w') [(0, true), (1, true), (2, true), (3, true), (4, true), (5, true), (6, true), (7, true), (8, true), (9, true), (10, false), (11, false), (12, true), (13, true), (14, true), (15, true), (16, true), (17, true), (18, true), (19, true), (20, true), (21, true), (22, true), (23, true), (24, true), (25, true), (26, true), (27, true), (28, true), (29, true), (30, true), (31, true)] (by kernel_rfl) (by kernel_rfl) HB.out.drew ?_
          have hb := HB.out.drew
          refine plan_take (v := ?_) rfl (by rfl) ?_ ?_; rotate_left; (focus (intro w' hS; have f0 := (hS.cell (p := ⟨g, k * 4, none⟩) HG.out).trans HC.out.1; have f1 := (hS.cell (p := ⟨g, k * 4 + 1, none⟩) HG.out).trans HC.out.2.1; have f2 := (hS.cell (p := ⟨g, k * 4 + 2, none⟩) HG.out).trans HC.out.2.2.1; have f3 := (hS.cell (p := ⟨g, k * 4 + 3, none⟩) HG.out).trans HC.out.2.2.2; go_simp; try with_reducible rfl)); simp only [Act.put, List.setIfInBounds_toArray, List.set_cons_zero, List.set_cons_succ]
          refine plan_take (v := ?_) rfl (by rfl) ?_ ?_; rotate_left; (focus (intro w' hS; have f0 := (hS.cell (p := ⟨g, k * 4, none⟩) HG.out).trans HC.out.1; have f1 := (hS.cell (p := ⟨g, k * 4 + 1, none⟩) HG.out).trans HC.out.2.1; have f2 := (hS.cell (p := ⟨g, k * 4 + 2, none⟩) HG.out).trans HC.out.2.2.1; have f3 := (hS.cell (p := ⟨g, k * 4 + 3, none⟩) HG.out).trans HC.out.2.2.2; go_simp; try with_reducible rfl)); simp only [Act.put, List.setIfInBounds_toArray, List.set_cons_zero, List.set_cons_succ]
          refine plan_take (v := ?_) rfl (by rfl) ?_ ?_; rotate_left; (focus (intro w' hS; have f0 := (hS.cell (p := ⟨g, k * 4, none⟩) HG.out).trans HC.out.1; have f1 := (hS.cell (p := ⟨g, k * 4 + 1, none⟩) HG.out).trans HC.out.2.1; have f2 := (hS.cell (p := ⟨g, k * 4 + 2, none⟩) HG.out).trans HC.out.2.2.1; have f3 := (hS.cell (p := ⟨g, k * 4 + 3, none⟩) HG.out).trans HC.out.2.2.2; go_simp; try with_reducible rfl)); simp only [Act.put, List.setIfInBounds_toArray, List.set_cons_zero, List.set_cons_succ]
          refine plan_take (v := ?_) rfl (by rfl) ?_ ?_; rotate_left; (focus (intro w' hS; have f0 := (hS.cell (p := ⟨g, k * 4, none⟩) HG.out).trans HC.out.1; have f1 := (hS.cell (p := ⟨g, k * 4 + 1, none⟩) HG.out).trans HC.out.2.1; have f2 := (hS.cell (p := ⟨g, k * 4 + 2, none⟩) HG.out).trans HC.out.2.2.1; have f3 := (hS.cell (p := ⟨g, k * 4 + 3, none⟩) HG.out).trans HC.out.2.2.2; go_simp; try with_reducible rfl)); simp only [Act.put, List.setIfInBounds_toArray, List.set_cons_zero, List.set_cons_succ]
          refine plan_take (v := ?_) rfl (by rfl) ?_ ?_; rotate_left; (focus (intro w' hS; have f0 := (hS.cell (p := ⟨g, k * 4, none⟩) HG.out).trans HC.out.1; have f1 := (hS.cell (p := ⟨g, k * 4 + 1, none⟩) HG.out).trans HC.out.2.1; have f2 := (hS.cell (p := ⟨g, k * 4 + 2, none⟩) HG.out).trans HC.out.2.2.1; have f3 := (hS.cell (p := ⟨g, k * 4 + 3, none⟩) HG.out).trans HC.out.2.2.2; go_simp; try with_reducible rfl)); simp only [Act.put, List.setIfInBounds_toArray, List.set_cons_zero, List.set_cons_succ]
          refine plan_take (v := ?_) rfl (by rfl) ?_ ?_; rotate_left; (focus (intro w' hS; have f0 := (hS.cell (p := ⟨g, k * 4, none⟩) HG.out).trans HC.out.1; have f1 := (hS.cell (p := ⟨g, k * 4 + 1, none⟩) HG.out).trans HC.out.2.1; have f2 := (hS.cell (p := ⟨g, k * 4 + 2, none⟩) HG.out).trans HC.out.2.2.1; have f3 := (hS.cell (p := ⟨g, k * 4 + 3, none⟩) HG.out).trans HC.out.2.2.2; go_simp; try with_reducible rfl)); simp only [Act.put, List.setIfInBounds_toArray, List.set_cons_zero, List.set_cons_succ]
          refine plan_take (v := ?_) rfl (by rfl) ?_ ?_; rotate_left; (focus (intro w' hS; have f0 := (hS.cell (p := ⟨g, k * 4, none⟩) HG.out).trans HC.out.1; have f1 := (hS.cell (p := ⟨g, k * 4 + 1, none⟩) HG.out).trans HC.out.2.1; have f2 := (hS.cell (p := ⟨g, k * 4 + 2, none⟩) HG.out).trans HC.out.2.2.1; have f3 := (hS.cell (p := ⟨g, k * 4 + 3, none⟩) HG.out).trans HC.out.2.2.2; go_simp; try with_reducible rfl)); simp only [Act.put, List.setIfInBounds_toArray, List.set_cons_zero, List.set_cons_succ]
          refine plan_take (v := ?_) rfl (by rfl) ?_ ?_; rotate_left; (focus (intro w' hS; have f0 := (hS.cell (p := ⟨g, k * 4, none⟩) HG.out).trans HC.out.1; have f1 := (hS.cell (p := ⟨g, k * 4 + 1, none⟩) HG.out).trans HC.out.2.1; have f2 := (hS.cell (p := ⟨g, k * 4 + 2, none⟩) HG.out).trans HC.out.2.2.1; have f3 := (hS.cell (p := ⟨g, k * 4 + 3, none⟩) HG.out).trans HC.out.2.2.2; go_simp; try with_reducible rfl)); simp only [Act.put, List.setIfInBounds_toArray, List.set_cons_zero, List.set_cons_succ]
          refine plan_take (v := ?_) rfl (by rfl) ?_ ?_; rotate_left; (focus (intro w' hS; have f0 := (hS.cell (p := ⟨g, k * 4, none⟩) HG.out).trans HC.out.1; have f1 := (hS.cell (p := ⟨g, k * 4 + 1, none⟩) HG.out).trans HC.out.2.1; have f2 := (hS.cell (p := ⟨g, k * 4 + 2, none⟩) HG.out).trans HC.out.2.2.1; have f3 := (hS.cell (p := ⟨g, k * 4 + 3, none⟩) HG.out).trans HC.out.2.2.2; go_simp; try with_reducible rfl)); simp only [Act.put, List.setIfInBounds_toArray, List.set_cons_zero, List.set_cons_succ]
          refine plan_take (v := ?_) rfl (by rfl) ?_ ?_; rotate_left; (focus (intro w' hS; have f0 := (hS.cell (p := ⟨g, k * 4, none⟩) HG.out).trans HC.out.1; have f1 := (hS.cell (p := ⟨g, k * 4 + 1, none⟩) HG.out).trans HC.out.2.1; have f2 := (hS.cell (p := ⟨g, k * 4 + 2, none⟩) HG.out).trans HC.out.2.2.1; have f3 := (hS.cell (p := ⟨g, k * 4 + 3, none⟩) HG.out).trans HC.out.2.2.2; go_simp; try with_reducible rfl)); simp only [Act.put, List.setIfInBounds_toArray, List.set_cons_zero, List.set_cons_succ]
          refine plan_call rfl (by rfl) (fun K hK => ?_)
          go_simp
          have hnew := (Four.new wr (.bool n1) (.slice A1 m1 c1) (.bool n2) (.slice A2 m2 c2) 24).to (Below.refl _ _).drew
          replace hb := hb.alloc hb.size (.cells #[.bool n1, .slice A1 m1 c1, .bool n2, .slice A2 m2 c2] 24)
          refine hK.out _ _ hb ?_
          clear hK K
          refine plan_call rfl (by rfl) (fun K hK => ?_)
          go_simp
          refine (long_2 M1.out M2.out hnew.c1 hnew.c3 HL.out).mono ?_
          rintro e V ⟨rfl, rfl⟩
          refine hK.out _ _ hb ?_
          clear hK K hnew
          refine plan_take (v := ?_) rfl (by rfl) ?_ ?_; rotate_left; (focus (intro w' hS; go_simp; try with_reducible rfl)); simp only [Act.put, List.setIfInBounds_toArray, List.set_cons_zero, List.set_cons_succ]
          refine plan_take (v := ?_) rfl (by rfl) ?_ ?_; rotate_left; (focus (intro w' hS; go_simp; try with_reducible rfl)); simp only [Act.put, List.setIfInBounds_toArray, List.set_cons_zero, List.set_cons_succ]
          refine plan_take (v := ?_) rfl (by rfl) ?_ ?_; rotate_left; (focus (intro w' hS; go_simp; try with_reducible rfl)); simp only [Act.put, List.setIfInBounds_toArray, List.set_cons_zero, List.set_cons_succ]
          refine plan_take (v := ?_) rfl (by rfl) ?_ ?_; rotate_left; (focus (intro w' hS; have f0 := (hS.cell (p := ⟨g, k * 4, none⟩) HG.out).trans HC.out.1; have f1 := (hS.cell (p := ⟨g, k * 4 + 1, none⟩) HG.out).trans HC.out.2.1; have f2 := (hS.cell (p := ⟨g, k * 4 + 2, none⟩) HG.out).trans HC.out.2.2.1; have f3 := (hS.cell (p := ⟨g, k * 4 + 3, none⟩) HG.out).trans HC.out.2.2.2; go_simp; try with_reducible rfl)); simp only [Act.put, List.setIfInBounds_toArray, List.set_cons_zero, List.set_cons_succ]
          refine plan_take (v := ?_) rfl (by rfl) ?_ ?_; rotate_left; (focus (intro w' hS; have f0 := (hS.cell (p := ⟨g, k * 4, none⟩) HG.out).trans HC.out.1; have f1 := (hS.cell (p := ⟨g, k * 4 + 1, none⟩) HG.out).trans HC.out.2.1; have f2 := (hS.cell (p := ⟨g, k * 4 + 2, none⟩) HG.out).trans HC.out.2.2.1; have f3 := (hS.cell (p := ⟨g, k * 4 + 3, none⟩) HG.out).trans HC.out.2.2.2; go_simp; try with_reducible rfl)); simp only [Act.put, List.setIfInBounds_toArray, List.set_cons_zero, List.set_cons_succ]
          refine plan_take (v := ?_) rfl (by rfl) ?_ ?_; rotate_left; (focus (intro w' hS; have f0 := (hS.cell (p := ⟨g, k * 4, none⟩) HG.out).trans HC.out.1; have f1 := (hS.cell (p := ⟨g, k * 4 + 1, none⟩) HG.out).trans HC.out.2.1; have f2 := (hS.cell (p := ⟨g, k * 4 + 2, none⟩) HG.out).trans HC.out.2.2.1; have f3 := (hS.cell (p := ⟨g, k * 4 + 3, none⟩) HG.out).trans HC.out.2.2.2; go_simp; try with_reducible rfl)); simp only [Act.put, List.setIfInBounds_toArray, List.set_cons_zero, List.set_cons_succ]
          refine plan_take (v := ?_) rfl (by rfl) ?_ ?_; rotate_left; (focus (intro w' hS; have f0 := (hS.cell (p := ⟨g, k * 4, none⟩) HG.out).trans HC.out.1; have f1 := (hS.cell (p := ⟨g, k * 4 + 1, none⟩) HG.out).trans HC.out.2.1; have f2 := (hS.cell (p := ⟨g, k * 4 + 2, none⟩) HG.out).trans HC.out.2.2.1; have f3 := (hS.cell (p := ⟨g, k * 4 + 3, none⟩) HG.out).trans HC.out.2.2.2; go_simp; try with_reducible rfl)); simp only [Act.put, List.setIfInBounds_toArray, List.set_cons_zero, List.set_cons_succ]
          refine plan_take (v := ?_) rfl (by rfl) ?_ ?_; rotate_left; (focus (intro w' hS; go_simp; try with_reducible rfl)); simp only [Act.put, List.setIfInBounds_toArray, List.set_cons_zero, List.set_cons_succ]
          refine plan_take (v := ?_) rfl (by rfl) ?_ ?_; rotate_left; (focus (intro w' hS; go_simp; try with_reducible rfl)); simp only [Act.put, List.setIfInBounds_toArray, List.set_cons_zero, List.set_cons_succ]
          refine plan_take (v := ?_) rfl (by rfl) ?_ ?_; rotate_left; (focus (intro w' hS; go_simp; try with_reducible rfl)); simp only [Act.put, List.setIfInBounds_toArray, List.set_cons_zero, List.set_cons_succ]
          refine plan_take (v := ?_) rfl (by rfl) ?_ ?_; rotate_left; (focus (intro w' hS; go_simp; try with_reducible rfl)); simp only [Act.put, List.setIfInBounds_toArray, List.set_cons_zero, List.set_cons_succ]
          refine plan_skip rfl (by rfl) ?_; simp only [Act.put, List.setIfInBounds_toArray, List.set_cons_zero, List.set_cons_succ]
          refine plan_skip rfl (by rfl) ?_; simp only [Act.put, List.setIfInBounds_toArray, List.set_cons_zero, List.set_cons_succ]
          refine plan_skip rfl (by rfl) ?_; simp only [Act.put, List.setIfInBounds_toArray, List.set_cons_zero, List.set_cons_succ]
          refine plan_skip rfl (by rfl) ?_; simp only [Act.put, List.setIfInBounds_toArray, List.set_cons_zero, List.set_cons_succ]
          refine plan_skip rfl (by rfl) ?_; simp only [Act.put, List.setIfInBounds_toArray, List.set_cons_zero, List.set_cons_succ]
          refine plan_skip rfl (by rfl) ?_; simp only [Act.put, List.setIfInBounds_toArray, List.set_cons_zero, List.set_cons_succ]
          refine plan_skip rfl (by rfl) ?_; simp only [Act.put, List.setIfInBounds_toArray, List.set_cons_zero, List.set_cons_succ]
          refine plan_skip rfl (by rfl) ?_; simp only [Act.put, List.setIfInBounds_toArray, List.set_cons_zero, List.set_cons_succ]
          refine plan_take (v := ?_) rfl (by rfl) ?_ ?_; rotate_left; (focus (intro w' hS; go_simp; try with_reducible rfl)); simp only [Act.put, List.setIfInBounds_toArray, List.set_cons_zero, List.set_cons_succ]
          refine plan_done ?_
          have HE := Lib.hid hb
          clear hb HB
          go_wp2
          go_ret
          exact ⟨by rw [← HR.out, hany.out]; rfl, HE.out⟩
        · by_cases hc6 : 6 < m2
          · have hany : Hid ((ls.any fun p => decide (6 < p.1) || decide (6 < p.2)) = true) := by
              show _ = _
              rw [List.any_eq_true]
              exact ⟨ls[k], List.getElem_mem hlt, by rw [HN2.out]; simp; omega⟩
            clear ha
            have d1 : decide ((6 : Int) < (m1 : Int)) = false := by simp; omega
            have d2 : decide ((6 : Int) < (m2 : Int)) = true := by simp; omega
            clear hb6 hc6
            go_wp2_with fail
            refine wp_region_plan (S := fun w' => Below w.heap.size w w') [(0, true), (1, true), (2, true), (3, true), (4, true), (5, true), (6, true), (7, true), (8, true), (9, true), (10, false), (11, false), (12, true), (13, true), (14, true), (15, true), (16, true), (17, true), (18, true), (19, true), (20, true), (21, true), (22, true), (23, true), (24, true), (25, true), (26, true), (27, true), (28, true), (29, true), (30, true), (31, true)] (by kernel_rfl) (by kernel_rfl) HB.out.drew ?_
            have hb := HB.out.drew
            refine plan_take (v := ?_) rfl (by rfl) ?_ ?_; rotate_left; (focus (intro w' hS; have f0 := (hS.cell (p := ⟨g, k * 4, none⟩) HG.out).trans HC.out.1; have f1 := (hS.cell (p := ⟨g, k * 4 + 1, none⟩) HG.out).trans HC.out.2.1; have f2 := (hS.cell (p := ⟨g, k * 4 + 2, none⟩) HG.out).trans HC.out.2.2.1; have f3 := (hS.cell (p := ⟨g, k * 4 + 3, none⟩) HG.out).trans HC.out.2.2.2; go_simp; try with_reducible rfl)); simp only [Act.put, List.setIfInBounds_toArray, List.set_cons_zero, List.set_cons_succ]
            refine plan_take (v := ?_) rfl (by rfl) ?_ ?_; rotate_left; (focus (intro w' hS; have f0 := (hS.cell (p := ⟨g, k * 4, none⟩) HG.out).trans HC.out.1; have f1 := (hS.cell (p := ⟨g, k * 4 + 1, none⟩) HG.out).trans HC.out.2.1; have f2 := (hS.cell (p := ⟨g, k * 4 + 2, none⟩) HG.out).trans HC.out.2.2.1; have f3 := (hS.cell (p := ⟨g, k * 4 + 3, none⟩) HG.out).trans HC.out.2.2.2; go_simp; try with_reducible rfl)); simp only [Act.put, List.setIfInBounds_toArray, List.set_cons_zero, List.set_cons_succ]
            refine plan_take (v := ?_) rfl (by rfl) ?_ ?_; rotate_left; (focus (intro w' hS; have f0 := (hS.cell (p := ⟨g, k * 4, none⟩) HG.out).trans HC.out.1; have f1 := (hS.cell (p := ⟨g, k * 4 + 1, none⟩) HG.out).trans HC.out.2.1; have f2 := (hS.cell (p := ⟨g, k * 4 + 2, none⟩) HG.out).trans HC.out.2.2.1; have f3 := (hS.cell (p := ⟨g, k * 4 + 3, none⟩) HG.out).trans HC.out.2.2.2; go_simp; try with_reducible rfl)); simp only [Act.put, List.setIfInBounds_toArray, List.set_cons_zero, List.set_cons_succ]
            refine plan_take (v := ?_) rfl (by rfl) ?_ ?_; rotate_left; (focus (intro w' hS; have f0 := (hS.cell (p := ⟨g, k * 4, none⟩) HG.out).trans HC.out.1; have f1 := (hS.cell (p := ⟨g, k * 4 + 1, none⟩) HG.out).trans HC.out.2.1; have f2 := (hS.cell (p := ⟨g, k * 4 + 2, none⟩) HG.out).trans HC.out.2.2.1; have f3 := (hS.cell (p := ⟨g, k * 4 + 3, none⟩) HG.out).trans HC.out.2.2.2; go_simp; try with_reducible rfl)); simp only [Act.put, List.setIfInBounds_toArray, List.set_cons_zero, List.set_cons_succ]
            refine plan_take (v := ?_) rfl (by rfl) ?_ ?_; rotate_left; (focus (intro w' hS; have f0 := (hS.cell (p := ⟨g, k * 4, none⟩) HG.out).trans HC.out.1; have f1 := (hS.cell (p := ⟨g, k * 4 + 1, none⟩) HG.out).trans HC.out.2.1; have f2 := (hS.cell (p := ⟨g, k * 4 + 2, none⟩) HG.out).trans HC.out.2.2.1; have f3 := (hS.cell (p := ⟨g, k * 4 + 3, none⟩) HG.out).trans HC.out.2.2.2; go_simp; try with_reducible rfl)); simp only [Act.put, List.setIfInBounds_toArray, List.set_cons_zero, List.set_cons_succ]
            refine plan_take (v := ?_) rfl (by rfl) ?_ ?_; rotate_left; (focus (intro w' hS; have f0 := (hS.cell (p := ⟨g, k * 4, none⟩) HG.out).trans HC.out.1; have f1 := (hS.cell (p := ⟨g, k * 4 + 1, none⟩) HG.out).trans HC.out.2.1; have f2 := (hS.cell (p := ⟨g, k * 4 + 2, none⟩) HG.out).trans HC.out.2.2.1; have f3 := (hS.cell (p := ⟨g, k * 4 + 3, none⟩) HG.out).trans HC.out.2.2.2; go_simp; try with_reducible rfl)); simp only [Act.put, List.setIfInBounds_toArray, List.set_cons_zero, List.set_cons_succ]
            refine plan_take (v := ?_) rfl (by rfl) ?_ ?_; rotate_left; (focus (intro w' hS; have f0 := (hS.cell (p := ⟨g, k * 4, none⟩) HG.out).trans HC.out.1; have f1 := (hS.cell (p := ⟨g, k * 4 + 1, none⟩) HG.out).trans HC.out.2.1; have f2 := (hS.cell (p := ⟨g, k * 4 + 2, none⟩) HG.out).trans HC.out.2.2.1; have f3 := (hS.cell (p := ⟨g, k * 4 + 3, none⟩) HG.out).trans HC.out.2.2.2; go_simp; try with_reducible rfl)); simp only [Act.put, List.setIfInBounds_toArray, List.set_cons_zero, List.set_cons_succ]
            refine plan_take (v := ?_) rfl (by rfl) ?_ ?_; rotate_left; (focus (intro w' hS; have f0 := (hS.cell (p := ⟨g, k * 4, none⟩) HG.out).trans HC.out.1; have f1 := (hS.cell (p := ⟨g, k * 4 + 1, none⟩) HG.out).trans HC.out.2.1; have f2 := (hS.cell (p := ⟨g, k * 4 + 2, none⟩) HG.out).trans HC.out.2.2.1; have f3 := (hS.cell (p := ⟨g, k * 4 + 3, none⟩) HG.out).trans HC.out.2.2.2; go_simp; try with_reducible rfl)); simp only [Act.put, List.setIfInBounds_toArray, List.set_cons_zero, List.set_cons_succ]
            refine plan_take (v := ?_) rfl (by rfl) ?_ ?_; rotate_left; (focus (intro w' hS; have f0 := (hS.cell (p := ⟨g, k * 4, none⟩) HG.out).trans HC.out.1; have f1 := (hS.cell (p := ⟨g, k * 4 + 1, none⟩) HG.out).trans HC.out.2.1; have f2 := (hS.cell (p := ⟨g, k * 4 + 2, none⟩) HG.out).trans HC.out.2.2.1; have f3 := (hS.cell (p := ⟨g, k * 4 + 3, none⟩) HG.out).trans HC.out.2.2.2; go_simp; try with_reducible rfl)); simp only [Act.put, List.setIfInBounds_toArray, List.set_cons_zero, List.set_cons_succ]
            refine plan_take (v := ?_) rfl (by rfl) ?_ ?_; rotate_left; (focus (intro w' hS; have f0 := (hS.cell (p := ⟨g, k * 4, none⟩) HG.out).trans HC.out.1; have f1 := (hS.cell (p := ⟨g, k * 4 + 1, none⟩) HG.out).trans HC.out.2.1; have f2 := (hS.cell (p := ⟨g, k * 4 + 2, none⟩) HG.out).trans HC.out.2.2.1; have f3 := (hS.cell (p := ⟨g, k * 4 + 3, none⟩) HG.out).trans HC.out.2.2.2; go_simp; try with_reducible rfl)); simp only [Act.put, List.setIfInBounds_toArray, List.set_cons_zero, List.set_cons_succ]
            refine plan_call rfl (by rfl) (fun K hK => ?_)
            go_simp
            have hnew := (Four.new wr (.bool n1) (.slice A1 m1 c1) (.bool n2) (.slice A2 m2 c2) 24).to (Below.refl _ _).drew
            replace hb := hb.alloc hb.size (.cells #[.bool n1, .slice A1 m1 c1, .bool n2, .slice A2 m2 c2] 24)
            refine hK.out _ _ hb ?_
            clear hK K
            refine plan_call rfl (by rfl) (fun K hK => ?_)
            go_simp
            refine (long_2 M1.out M2.out hnew.c1 hnew.c3 HL.out).mono ?_
            rintro e V ⟨rfl, rfl⟩
            refine hK.out _ _ hb ?_
            clear hK K hnew
            refine plan_take (v := ?_) rfl (by rfl) ?_ ?_; rotate_left; (focus (intro w' hS; go_simp; try with_reducible rfl)); simp only [Act.put, List.setIfInBounds_toArray, List.set_cons_zero, List.set_cons_succ]
            refine plan_take (v := ?_) rfl (by rfl) ?_ ?_; rotate_left; (focus (intro w' hS; go_simp; try with_reducible rfl)); simp only [Act.put, List.setIfInBounds_toArray, List.set_cons_zero, List.set_cons_succ]
            refine plan_take (v := ?_) rfl (by rfl) ?_ ?_; rotate_left; (focus (intro w' hS; go_simp; try with_reducible rfl)); simp only [Act.put, List.setIfInBounds_toArray, List.set_cons_zero, List.set_cons_succ]
            refine plan_take (v := ?_) rfl (by rfl) ?_ ?_; rotate_left; (focus (intro w' hS; have f0 := (hS.cell (p := ⟨g, k * 4, none⟩) HG.out).trans HC.out.1; have f1 := (hS.cell (p := ⟨g, k * 4 + 1, none⟩) HG.out).trans HC.out.2.1; have f2 := (hS.cell (p := ⟨g, k * 4 + 2, none⟩) HG.out).trans HC.out.2.2.1; have f3 := (hS.cell (p := ⟨g, k * 4 + 3, none⟩) HG.out).trans HC.out.2.2.2; go_simp; try with_reducible rfl)); simp only [Act.put, List.setIfInBounds_toArray, List.set_cons_zero, List.set_cons_succ]
            refine plan_take (v := ?_) rfl (by rfl) ?_ ?_; rotate_left; (focus (intro w' hS; have f0 := (hS.cell (p := ⟨g, k * 4, none⟩) HG.out).trans HC.out.1; have f1 := (hS.cell (p := ⟨g, k * 4 + 1, none⟩) HG.out).trans HC.out.2.1; have f2 := (hS.cell (p := ⟨g, k * 4 + 2, none⟩) HG.out).trans HC.out.2.2.1; have f3 := (hS.cell (p := ⟨g, k * 4 + 3, none⟩) HG.out).trans HC.out.2.2.2; go_simp; try with_reducible rfl)); simp only [Act.put, List.setIfInBounds_toArray, List.set_cons_zero, List.set_cons_succ]
            refine plan_take (v := ?_) rfl (by rfl) ?_ ?_; rotate_left; (focus (intro w' hS; have f0 := (hS.cell (p := ⟨g, k * 4, none⟩) HG.out).trans HC.out.1; have f1 := (hS.cell (p := ⟨g, k * 4 + 1, none⟩) HG.out).trans HC.out.2.1; have f2 := (hS.cell (p := ⟨g, k * 4 + 2, none⟩) HG.out).trans HC.out.2.2.1; have f3 := (hS.cell (p := ⟨g, k * 4 + 3, none⟩) HG.out).trans HC.out.2.2.2; go_simp; try with_reducible rfl)); simp only [Act.put, List.setIfInBounds_toArray, List.set_cons_zero, List.set_cons_succ]
            refine plan_take (v := ?_) rfl (by rfl) ?_ ?_; rotate_left; (focus (intro w' hS; have f0 := (hS.cell (p := ⟨g, k * 4, none⟩) HG.out).trans HC.out.1; have f1 := (hS.cell (p := ⟨g, k * 4 + 1, none⟩) HG.out).trans HC.out.2.1; have f2 := (hS.cell (p := ⟨g, k * 4 + 2, none⟩) HG.out).trans HC.out.2.2.1; have f3 := (hS.cell (p := ⟨g, k * 4 + 3, none⟩) HG.out).trans HC.out.2.2.2; go_simp; try with_reducible rfl)); simp only [Act.put, List.setIfInBounds_toArray, List.set_cons_zero, List.set_cons_succ]
            refine plan_take (v := ?_) rfl (by rfl) ?_ ?_; rotate_left; (focus (intro w' hS; go_simp; try with_reducible rfl)); simp only [Act.put, List.setIfInBounds_toArray, List.set_cons_zero, List.set_cons_succ]
            refine plan_take (v := ?_) rfl (by rfl) ?_ ?_; rotate_left; (focus (intro w' hS; go_simp; try with_reducible rfl)); simp only [Act.put, List.setIfInBounds_toArray, List.set_cons_zero, List.set_cons_succ]
            refine plan_take (v := ?_) rfl (by rfl) ?_ ?_; rotate_left; (focus (intro w' hS; go_simp; try with_reducible rfl)); simp only [Act.put, List.setIfInBounds_toArray, List.set_cons_zero, List.set_cons_succ]
            refine plan_take (v := ?_) rfl (by rfl) ?_ ?_; rotate_left; (focus (intro w' hS; go_simp; try with_reducible rfl)); simp only [Act.put, List.setIfInBounds_toArray, List.set_cons_zero, List.set_cons_succ]
            refine plan_take (v := ?_) rfl (by rfl) ?_ ?_; rotate_left; (focus (intro w' hS; go_simp; try with_reducible rfl)); simp only [Act.put, List.setIfInBounds_toArray, List.set_cons_zero, List.set_cons_succ]
            refine plan_take (v := ?_) rfl (by rfl) ?_ ?_; rotate_left; (focus (intro w' hS; go_simp; try with_reducible rfl)); simp only [Act.put, List.setIfInBounds_toArray, List.set_cons_zero, List.set_cons_succ]
            refine plan_take (v := ?_) rfl (by rfl) ?_ ?_; rotate_left; (focus (intro w' hS; have f0 := (hS.cell (p := ⟨g, k * 4, none⟩) HG.out).trans HC.out.1; have f1 := (hS.cell (p := ⟨g, k * 4 + 1, none⟩) HG.out).trans HC.out.2.1; have f2 := (hS.cell (p := ⟨g, k * 4 + 2, none⟩) HG.out).trans HC.out.2.2.1; have f3 := (hS.cell (p := ⟨g, k * 4 + 3, none⟩) HG.out).trans HC.out.2.2.2; go_simp; try with_reducible rfl)); simp only [Act.put, List.setIfInBounds_toArray, List.set_cons_zero, List.set_cons_succ]
            refine plan_take (v := ?_) rfl (by rfl) ?_ ?_; rotate_left; (focus (intro w' hS; have f0 := (hS.cell (p := ⟨g, k * 4, none⟩) HG.out).trans HC.out.1; have f1 := (hS.cell (p := ⟨g, k * 4 + 1, none⟩) HG.out).trans HC.out.2.1; have f2 := (hS.cell (p := ⟨g, k * 4 + 2, none⟩) HG.out).trans HC.out.2.2.1; have f3 := (hS.cell (p := ⟨g, k * 4 + 3, none⟩) HG.out).trans HC.out.2.2.2; go_simp; try with_reducible rfl)); simp only [Act.put, List.setIfInBounds_toArray, List.set_cons_zero, List.set_cons_succ]
            refine plan_take (v := ?_) rfl (by rfl) ?_ ?_; rotate_left; (focus (intro w' hS; have f0 := (hS.cell (p := ⟨g, k * 4, none⟩) HG.out).trans HC.out.1; have f1 := (hS.cell (p := ⟨g, k * 4 + 1, none⟩) HG.out).trans HC.out.2.1; have f2 := (hS.cell (p := ⟨g, k * 4 + 2, none⟩) HG.out).trans HC.out.2.2.1; have f3 := (hS.cell (p := ⟨g, k * 4 + 3, none⟩) HG.out).trans HC.out.2.2.2; go_simp; try with_reducible rfl)); simp only [Act.put, List.setIfInBounds_toArray, List.set_cons_zero, List.set_cons_succ]
            refine plan_take (v := ?_) rfl (by rfl) ?_ ?_; rotate_left; (focus (intro w' hS; have f0 := (hS.cell (p := ⟨g, k * 4, none⟩) HG.out).trans HC.out.1; have f1 := (hS.cell (p := ⟨g, k * 4 + 1, none⟩) HG.out).trans HC.out.2.1; have f2 := (hS.cell (p := ⟨g, k * 4 + 2, none⟩) HG.out).trans HC.out.2.2.1; have f3 := (hS.cell (p := ⟨g, k * 4 + 3, none⟩) HG.out).trans HC.out.2.2.2; go_simp; try with_reducible rfl)); simp only [Act.put, List.setIfInBounds_toArray, List.set_cons_zero, List.set_cons_succ]
            refine plan_take (v := ?_) rfl (by rfl) ?_ ?_; rotate_left; (focus (intro w' hS; go_simp; try with_reducible rfl)); simp only [Act.put, List.setIfInBounds_toArray, List.set_cons_zero, List.set_cons_succ]
            refine plan_take (v := ?_) rfl (by rfl) ?_ ?_; rotate_left; (focus (intro w' hS; go_simp; try with_reducible rfl)); simp only [Act.put, List.setIfInBounds_toArray, List.set_cons_zero, List.set_cons_succ]
            refine plan_take (v := ?_) rfl (by rfl) ?_ ?_; rotate_left; (focus (intro w' hS; go_simp; try with_reducible rfl)); simp only [Act.put, List.setIfInBounds_toArray, List.set_cons_zero, List.set_cons_succ]
            refine plan_done ?_
            have HE := Lib.hid hb
            clear hb HB
            go_wp2
            go_ret
            exact ⟨by rw [← HR.out, hany.out]; rfl, HE.out⟩
          · have hok : Hid (m1 ≤ 6 ∧ m2 ≤ 6) := by show _ ∧ _; omega
            clear ha
            have d1 : decide ((6 : Int) < (m1 : Int)) = false := by simp; omega
            have d2 : decide ((6 : Int) < (m2 : Int)) = false := by simp; omega
            clear hb6 hc6
            go_wp2_with fail
            refine wp_region_plan (S := fun w' => Below w.heap.size w w') [(0, true), (1, true), (2, true), (3, true), (4, true), (5, true), (6, true), (7, true), (8, true), (9, true), (10, false), (11, false), (12, true), (13, true), (14, true), (15, true), (16, true), (17, true), (18, true), (19, true), (20, true), (21, true), (22, true), (23, true), (24, true), (25, true), (26, true), (27, true), (28, true), (29, true), (30, true), (31, true)] (by kernel_rfl) (by kernel_rfl) HB.out.drew ?_
            have hb := HB.out.drew
            refine plan_take (v := ?_) rfl (by rfl) ?_ ?_; rotate_left; (focus (intro w' hS; have f0 := (hS.cell (p := ⟨g, k * 4, none⟩) HG.out).trans HC.out.1; have f1 := (hS.cell (p := ⟨g, k * 4 + 1, none⟩) HG.out).trans HC.out.2.1; have f2 := (hS.cell (p := ⟨g, k * 4 + 2, none⟩) HG.out).trans HC.out.2.2.1; have f3 := (hS.cell (p := ⟨g, k * 4 + 3, none⟩) HG.out).trans HC.out.2.2.2; go_simp; try with_reducible rfl)); simp only [Act.put, List.setIfInBounds_toArray, List.set_cons_zero, List.set_cons_succ]
            refine plan_take (v := ?_) rfl (by rfl) ?_ ?_; rotate_left; (focus (intro w' hS; have f0 := (hS.cell (p := ⟨g, k * 4, none⟩) HG.out).trans HC.out.1; have f1 := (hS.cell (p := ⟨g, k * 4 + 1, none⟩) HG.out).trans HC.out.2.1; have f2 := (hS.cell (p := ⟨g, k * 4 + 2, none⟩) HG.out).trans HC.out.2.2.1; have f3 := (hS.cell (p := ⟨g, k * 4 + 3, none⟩) HG.out).trans HC.out.2.2.2; go_simp; try with_reducible rfl)); simp only [Act.put, List.setIfInBounds_toArray, List.set_cons_zero, List.set_cons_succ]
            refine plan_take (v := ?_) rfl (by rfl) ?_ ?_; rotate_left; (focus (intro w' hS; have f0 := (hS.cell (p := ⟨g, k * 4, none⟩) HG.out).trans HC.out.1; have f1 := (hS.cell (p := ⟨g, k * 4 + 1, none⟩) HG.out).trans HC.out.2.1; have f2 := (hS.cell (p := ⟨g, k * 4 + 2, none⟩) HG.out).trans HC.out.2.2.1; have f3 := (hS.cell (p := ⟨g, k * 4 + 3, none⟩) HG.out).trans HC.out.2.2.2; go_simp; try with_reducible rfl)); simp only [Act.put, List.setIfInBounds_toArray, List.set_cons_zero, List.set_cons_succ]
            refine plan_take (v := ?_) rfl (by rfl) ?_ ?_; rotate_left; (focus (intro w' hS; have f0 := (hS.cell (p := ⟨g, k * 4, none⟩) HG.out).trans HC.out.1; have f1 := (hS.cell (p := ⟨g, k * 4 + 1, none⟩) HG.out).trans HC.out.2.1; have f2 := (hS.cell (p := ⟨g, k * 4 + 2, none⟩) HG.out).trans HC.out.2.2.1; have f3 := (hS.cell (p := ⟨g, k * 4 + 3, none⟩) HG.out).trans HC.out.2.2.2; go_simp; try with_reducible rfl)); simp only [Act.put, List.setIfInBounds_toArray, List.set_cons_zero, List.set_cons_succ]
            refine plan_take (v := ?_) rfl (by rfl) ?_ ?_; rotate_left; (focus (intro w' hS; have f0 := (hS.cell (p := ⟨g, k * 4, none⟩) HG.out).trans HC.out.1; have f1 := (hS.cell (p := ⟨g, k * 4 + 1, none⟩) HG.out).trans HC.out.2.1; have f2 := (hS.cell (p := ⟨g, k * 4 + 2, none⟩) HG.out).trans HC.out.2.2.1; have f3 := (hS.cell (p := ⟨g, k * 4 + 3, none⟩) HG.out).trans HC.out.2.2.2; go_simp; try with_reducible rfl)); simp only [Act.put, List.setIfInBounds_toArray, List.set_cons_zero, List.set_cons_succ]
            refine plan_take (v := ?_) rfl (by rfl) ?_ ?_; rotate_left; (focus (intro w' hS; have f0 := (hS.cell (p := ⟨g, k * 4, none⟩) HG.out).trans HC.out.1; have f1 := (hS.cell (p := ⟨g, k * 4 + 1, none⟩) HG.out).trans HC.out.2.1; have f2 := (hS.cell (p := ⟨g, k * 4 + 2, none⟩) HG.out).trans HC.out.2.2.1; have f3 := (hS.cell (p := ⟨g, k * 4 + 3, none⟩) HG.out).trans HC.out.2.2.2; go_simp; try with_reducible rfl)); simp only [Act.put, List.setIfInBounds_toArray, List.set_cons_zero, List.set_cons_succ]
            refine plan_take (v := ?_) rfl (by rfl) ?_ ?_; rotate_left; (focus (intro w' hS; have f0 := (hS.cell (p := ⟨g, k * 4, none⟩) HG.out).trans HC.out.1; have f1 := (hS.cell (p := ⟨g, k * 4 + 1, none⟩) HG.out).trans HC.out.2.1; have f2 := (hS.cell (p := ⟨g, k * 4 + 2, none⟩) HG.out).trans HC.out.2.2.1; have f3 := (hS.cell (p := ⟨g, k * 4 + 3, none⟩) HG.out).trans HC.out.2.2.2; go_simp; try with_reducible rfl)); simp only [Act.put, List.setIfInBounds_toArray, List.set_cons_zero, List.set_cons_succ]
            refine plan_take (v := ?_) rfl (by rfl) ?_ ?_; rotate_left; (focus (intro w' hS; have f0 := (hS.cell (p := ⟨g, k * 4, none⟩) HG.out).trans HC.out.1; have f1 := (hS.cell (p := ⟨g, k * 4 + 1, none⟩) HG.out).trans HC.out.2.1; have f2 := (hS.cell (p := ⟨g, k * 4 + 2, none⟩) HG.out).trans HC.out.2.2.1; have f3 := (hS.cell (p := ⟨g, k * 4 + 3, none⟩) HG.out).trans HC.out.2.2.2; go_simp; try with_reducible rfl)); simp only [Act.put, List.setIfInBounds_toArray, List.set_cons_zero, List.set_cons_succ]
            refine plan_take (v := ?_) rfl (by rfl) ?_ ?_; rotate_left; (focus (intro w' hS; have f0 := (hS.cell (p := ⟨g, k * 4, none⟩) HG.out).trans HC.out.1; have f1 := (hS.cell (p := ⟨g, k * 4 + 1, none⟩) HG.out).trans HC.out.2.1; have f2 := (hS.cell (p := ⟨g, k * 4 + 2, none⟩) HG.out).trans HC.out.2.2.1; have f3 := (hS.cell (p := ⟨g, k * 4 + 3, none⟩) HG.out).trans HC.out.2.2.2; go_simp; try with_reducible rfl)); simp only [Act.put, List.setIfInBounds_toArray, List.set_cons_zero, List.set_cons_succ]
            refine plan_take (v := ?_) rfl (by rfl) ?_ ?_; rotate_left; (focus (intro w' hS; have f0 := (hS.cell (p := ⟨g, k * 4, none⟩) HG.out).trans HC.out.1; have f1 := (hS.cell (p := ⟨g, k * 4 + 1, none⟩) HG.out).trans HC.out.2.1; have f2 := (hS.cell (p := ⟨g, k * 4 + 2, none⟩) HG.out).trans HC.out.2.2.1; have f3 := (hS.cell (p := ⟨g, k * 4 + 3, none⟩) HG.out).trans HC.out.2.2.2; go_simp; try with_reducible rfl)); simp only [Act.put, List.setIfInBounds_toArray, List.set_cons_zero, List.set_cons_succ]
            refine plan_call rfl (by rfl) (fun K hK => ?_)
            go_simp
            have hnew := (Four.new wr (.bool n1) (.slice A1 m1 c1) (.bool n2) (.slice A2 m2 c2) 24).to (Below.refl _ _).drew
            replace hb := hb.alloc hb.size (.cells #[.bool n1, .slice A1 m1 c1, .bool n2, .slice A2 m2 c2] 24)
            refine hK.out _ _ hb ?_
            clear hK K
            refine plan_call rfl (by rfl) (fun K hK => ?_)
            go_simp
            refine (long_2 M1.out M2.out hnew.c1 hnew.c3 HL.out).mono ?_
            rintro e V ⟨rfl, rfl⟩
            refine hK.out _ _ hb ?_
            clear hK K hnew
            refine plan_take (v := ?_) rfl (by rfl) ?_ ?_; rotate_left; (focus (intro w' hS; go_simp; try with_reducible rfl)); simp only [Act.put, List.setIfInBounds_toArray, List.set_cons_zero, List.set_cons_succ]
            refine plan_take (v := ?_) rfl (by rfl) ?_ ?_; rotate_left; (focus (intro w' hS; go_simp; try with_reducible rfl)); simp only [Act.put, List.setIfInBounds_toArray, List.set_cons_zero, List.set_cons_succ]
            refine plan_take (v := ?_) rfl (by rfl) ?_ ?_; rotate_left; (focus (intro w' hS; go_simp; try with_reducible rfl)); simp only [Act.put, List.setIfInBounds_toArray, List.set_cons_zero, List.set_cons_succ]
            refine plan_take (v := ?_) rfl (by rfl) ?_ ?_; rotate_left; (focus (intro w' hS; have f0 := (hS.cell (p := ⟨g, k * 4, none⟩) HG.out).trans HC.out.1; have f1 := (hS.cell (p := ⟨g, k * 4 + 1, none⟩) HG.out).trans HC.out.2.1; have f2 := (hS.cell (p := ⟨g, k * 4 + 2, none⟩) HG.out).trans HC.out.2.2.1; have f3 := (hS.cell (p := ⟨g, k * 4 + 3, none⟩) HG.out).trans HC.out.2.2.2; go_simp; try with_reducible rfl)); simp only [Act.put, List.setIfInBounds_toArray, List.set_cons_zero, List.set_cons_succ]
            refine plan_take (v := ?_) rfl (by rfl) ?_ ?_; rotate_left; (focus (intro w' hS; have f0 := (hS.cell (p := ⟨g, k * 4, none⟩) HG.out).trans HC.out.1; have f1 := (hS.cell (p := ⟨g, k * 4 + 1, none⟩) HG.out).trans HC.out.2.1; have f2 := (hS.cell (p := ⟨g, k * 4 + 2, none⟩) HG.out).trans HC.out.2.2.1; have f3 := (hS.cell (p := ⟨g, k * 4 + 3, none⟩) HG.out).trans HC.out.2.2.2; go_simp; try with_reducible rfl)); simp only [Act.put, List.setIfInBounds_toArray, List.set_cons_zero, List.set_cons_succ]
            refine plan_take (v := ?_) rfl (by rfl) ?_ ?_; rotate_left; (focus (intro w' hS; have f0 := (hS.cell (p := ⟨g, k * 4, none⟩) HG.out).trans HC.out.1; have f1 := (hS.cell (p := ⟨g, k * 4 + 1, none⟩) HG.out).trans HC.out.2.1; have f2 := (hS.cell (p := ⟨g, k * 4 + 2, none⟩) HG.out).trans HC.out.2.2.1; have f3 := (hS.cell (p := ⟨g, k * 4 + 3, none⟩) HG.out).trans HC.out.2.2.2; go_simp; try with_reducible rfl)); simp only [Act.put, List.setIfInBounds_toArray, List.set_cons_zero, List.set_cons_succ]
            refine plan_take (v := ?_) rfl (by rfl) ?_ ?_; rotate_left; (focus (intro w' hS; have f0 := (hS.cell (p := ⟨g, k * 4, none⟩) HG.out).trans HC.out.1; have f1 := (hS.cell (p := ⟨g, k * 4 + 1, none⟩) HG.out).trans HC.out.2.1; have f2 := (hS.cell (p := ⟨g, k * 4 + 2, none⟩) HG.out).trans HC.out.2.2.1; have f3 := (hS.cell (p := ⟨g, k * 4 + 3, none⟩) HG.out).trans HC.out.2.2.2; go_simp; try with_reducible rfl)); simp only [Act.put, List.setIfInBounds_toArray, List.set_cons_zero, List.set_cons_succ]
            refine plan_take (v := ?_) rfl (by rfl) ?_ ?_; rotate_left; (focus (intro w' hS; go_simp; try with_reducible rfl)); simp only [Act.put, List.setIfInBounds_toArray, List.set_cons_zero, List.set_cons_succ]
            refine plan_take (v := ?_) rfl (by rfl) ?_ ?_; rotate_left; (focus (intro w' hS; go_simp; try with_reducible rfl)); simp only [Act.put, List.setIfInBounds_toArray, List.set_cons_zero, List.set_cons_succ]
            refine plan_take (v := ?_) rfl (by rfl) ?_ ?_; rotate_left; (focus (intro w' hS; go_simp; try with_reducible rfl)); simp only [Act.put, List.setIfInBounds_toArray, List.set_cons_zero, List.set_cons_succ]
            refine plan_take (v := ?_) rfl (by rfl) ?_ ?_; rotate_left; (focus (intro w' hS; go_simp; try with_reducible rfl)); simp only [Act.put, List.setIfInBounds_toArray, List.set_cons_zero, List.set_cons_succ]
            refine plan_take (v := ?_) rfl (by rfl) ?_ ?_; rotate_left; (focus (intro w' hS; go_simp; try with_reducible rfl)); simp only [Act.put, List.setIfInBounds_toArray, List.set_cons_zero, List.set_cons_succ]
            refine plan_take (v := ?_) rfl (by rfl) ?_ ?_; rotate_left; (focus (intro w' hS; go_simp; try with_reducible rfl)); simp only [Act.put, List.setIfInBounds_toArray, List.set_cons_zero, List.set_cons_succ]
            refine plan_take (v := ?_) rfl (by rfl) ?_ ?_; rotate_left; (focus (intro w' hS; have f0 := (hS.cell (p := ⟨g, k * 4, none⟩) HG.out).trans HC.out.1; have f1 := (hS.cell (p := ⟨g, k * 4 + 1, none⟩) HG.out).trans HC.out.2.1; have f2 := (hS.cell (p := ⟨g, k * 4 + 2, none⟩) HG.out).trans HC.out.2.2.1; have f3 := (hS.cell (p := ⟨g, k * 4 + 3, none⟩) HG.out).trans HC.out.2.2.2; go_simp; try with_reducible rfl)); simp only [Act.put, List.setIfInBounds_toArray, List.set_cons_zero, List.set_cons_succ]
            refine plan_take (v := ?_) rfl (by rfl) ?_ ?_; rotate_left; (focus (intro w' hS; have f0 := (hS.cell (p := ⟨g, k * 4, none⟩) HG.out).trans HC.out.1; have f1 := (hS.cell (p := ⟨g, k * 4 + 1, none⟩) HG.out).trans HC.out.2.1; have f2 := (hS.cell (p := ⟨g, k * 4 + 2, none⟩) HG.out).trans HC.out.2.2.1; have f3 := (hS.cell (p := ⟨g, k * 4 + 3, none⟩) HG.out).trans HC.out.2.2.2; go_simp; try with_reducible rfl)); simp only [Act.put, List.setIfInBounds_toArray, List.set_cons_zero, List.set_cons_succ]
            refine plan_take (v := ?_) rfl (by rfl) ?_ ?_; rotate_left; (focus (intro w' hS; have f0 := (hS.cell (p := ⟨g, k * 4, none⟩) HG.out).trans HC.out.1; have f1 := (hS.cell (p := ⟨g, k * 4 + 1, none⟩) HG.out).trans HC.out.2.1; have f2 := (hS.cell (p := ⟨g, k * 4 + 2, none⟩) HG.out).trans HC.out.2.2.1; have f3 := (hS.cell (p := ⟨g, k * 4 + 3, none⟩) HG.out).trans HC.out.2.2.2; go_simp; try with_reducible rfl)); simp only [Act.put, List.setIfInBounds_toArray, List.set_cons_zero, List.set_cons_succ]
            refine plan_take (v := ?_) rfl (by rfl) ?_ ?_; rotate_left; (focus (intro w' hS; have f0 := (hS.cell (p := ⟨g, k * 4, none⟩) HG.out).trans HC.out.1; have f1 := (hS.cell (p := ⟨g, k * 4 + 1, none⟩) HG.out).trans HC.out.2.1; have f2 := (hS.cell (p := ⟨g, k * 4 + 2, none⟩) HG.out).trans HC.out.2.2.1; have f3 := (hS.cell (p := ⟨g, k * 4 + 3, none⟩) HG.out).trans HC.out.2.2.2; go_simp; try with_reducible rfl)); simp only [Act.put, List.setIfInBounds_toArray, List.set_cons_zero, List.set_cons_succ]
            refine plan_take (v := ?_) rfl (by rfl) ?_ ?_; rotate_left; (focus (intro w' hS; go_simp; try with_reducible rfl)); simp only [Act.put, List.setIfInBounds_toArray, List.set_cons_zero, List.set_cons_succ]
            refine plan_take (v := ?_) rfl (by rfl) ?_ ?_; rotate_left; (focus (intro w' hS; go_simp; try with_reducible rfl)); simp only [Act.put, List.setIfInBounds_toArray, List.set_cons_zero, List.set_cons_succ]
            refine plan_take (v := ?_) rfl (by rfl) ?_ ?_; rotate_left; (focus (intro w' hS; go_simp; try with_reducible rfl)); simp only [Act.put, List.setIfInBounds_toArray, List.set_cons_zero, List.set_cons_succ]
            refine plan_done ?_
            have HE := Lib.hid hb
            clear hb HB
            go_wp2
            go_roundw
            case rel => exact ⟨k + 1, by simp, by omega, (fun j hj hjk => by
              rcases Nat.lt_or_ge j k with h1 | h1
              · exact HT.out j hj h1
              · obtain rfl : j = k := by omega
                rw [HN2.out]; exact hok.out), HE.out⟩
            case measure => simp [intOf]; omega
    · obtain rfl : k = ls.length := by omega
      clear hlt
      go_wp2
      go_ret
      refine ⟨?_, HB.out⟩
      have : (ls.any fun p => decide (6 < p.1) || decide (6 < p.2)) = false := by
        rw [List.any_eq_false]
        intro x hx
        obtain ⟨j, hj, rfl⟩ := List.getElem_of_mem hx
        have := HT.out j hj hj
        simp; omega
      rw [← HR.out, this]
      rfl


/-- A variable that holds a rational of at most k words. -/
structure Qb (W : World) (g : Nat) (x1 x2 x3 x4 : Value) (r : Rat) (k : Nat) : Prop where
  four : Four W g x1 x2 x3 x4
  qi : Qi W x1 x2 x3 x4 r k
theorem Qb.to {W V : World} {g : Nat} {x1 x2 x3 x4 : Value} {r : Rat} {k : Nat} (h : Qb W g x1 x2 x3 x4 r k) (hb : Below W.heap.size W V) : Qb V g x1 x2 x3 x4 r k := ⟨h.four.to hb, h.qi.to hb⟩

/-- The smaller, the larger of two rationals. -/
def minQ (r s : Rat) : Rat := if r < s then r else s
def maxQ (r s : Rat) : Rat := if s < r then r else s
theorem Qm.min {k : Nat} {r s : Rat} (h : Qm k r) (h' : Qm k s) : Qm k (minQ r s) := by unfold minQ; split <;> assumption
theorem Qm.max {k : Nat} {r s : Rat} (h : Qm k r) (h' : Qm k s) : Qm k (maxQ r s) := by unfold maxQ; split <;> assumption
theorem min_q {w : World} {a1 a2 a3 a4 b1 b2 b3 b4 : Value} {r s : Rat} {k l : Nat} (h1 : Qi w a1 a2 a3 a4 r k) (h2 : Qi w b1 b2 b3 b4 s l) (hk : 0 < k) (hl : 0 < l) (hkl : k + l ≤ 10000) : Calls Try.prog 20 #[.agg #[a1, a2, a3, a4], .agg #[b1, b2, b3, b4]] w (QR w (minQ r s)) := by
  unfold minQ
  split
  · exact min_a h1 h2 hk hl hkl (by assumption)
  · exact min_b h1 h2 hk hl hkl (by assumption)
theorem max_q {w : World} {a1 a2 a3 a4 b1 b2 b3 b4 : Value} {r s : Rat} {k l : Nat} (h1 : Qi w a1 a2 a3 a4 r k) (h2 : Qi w b1 b2 b3 b4 s l) (hk : 0 < k) (hl : 0 < l) (hkl : k + l ≤ 10000) : Calls Try.prog 21 #[.agg #[a1, a2, a3, a4], .agg #[b1, b2, b3, b4]] w (QR w (maxQ r s)) := by
  unfold maxQ
  split
  · exact max_a h1 h2 hk hl hkl (by assumption)
  · exact max_b h1 h2 hk hl hkl (by assumption)

end Go.Proofs.Ytbmnloelimmgiaa
