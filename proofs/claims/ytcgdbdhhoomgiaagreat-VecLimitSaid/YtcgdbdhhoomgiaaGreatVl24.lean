/- Parts: 3. -/
import Derived.Test.YtcgdbdhhoomgiaaGreatVl21
import Derived.Test.YtcgdbdhhoomgiaaGreatVl23
import Derived.Deep.Slices
set_option linter.unusedVariables false
set_option linter.unusedSimpArgs false
set_option maxRecDepth 100000
set_option maxHeartbeats 40000000

namespace Go.Proofs.YtcgdbdhhoomgiaaGreat
open Go.RowKit Go.Shelf

theorem flong_o (g o : Nat) (A : Option Addr) (ls : List (Nat × Nat)) (cap : Nat) (w : World) (hA : ∀ (k : Nat), k < ls.length -> A = some ⟨g, o, none⟩ /\ g < w.heap.size)
    (h : ∀ (k : Nat) (hk : k < ls.length), ∃ n1 A1 c1 n2 A2 c2, w.cell? ⟨g, o + k * 4, none⟩ = some (.bool n1) /\ w.cell? ⟨g, o + k * 4 + 1, none⟩ = some (.slice A1 ls[k].1 c1) /\ w.cell? ⟨g, o + k * 4 + 2, none⟩ = some (.bool n2) /\ w.cell? ⟨g, o + k * 4 + 3, none⟩ = some (.slice A2 ls[k].2 c2))
    (hs : ∀ (k : Nat) (hk : k < ls.length), ls[k].1 <= 9223372036854775807 /\ ls[k].2 <= 9223372036854775807) (hl : ls.length <= 1000) {r : Bool} (hr : (ls.any fun p => decide (6 < p.1) || decide (6 < p.2)) = r) :
    Calls Tryz.prog 10 #[.slice A ls.length cap] w fun e w' => e = .returned (.bool r) /\ Below w.heap.size w w' := by
  have H := Lib.hid h
  have HS := Lib.hid hs
  have HA := Lib.hid hA
  have HR := Lib.hid hr
  clear h hs hA hr
  go_enter Tryz.func10, Tryz.ntmps10
  go_wp2
  go_loopw [3] (fun i wr => ∃ k : Nat, i = .int .i64 k /\ k <= ls.length /\ (∀ j (hj : j < ls.length), j < k -> ls[j].1 <= 6 /\ ls[j].2 <= 6) /\ Below w.heap.size w wr) (fun i _ => ls.length - (intOf i).toNat)
  case atStart => exact ⟨0, rfl, Nat.zero_le _, (fun j _ hj => by omega), Below.refl _ _⟩
  case round =>
    obtain ⟨k, rfl, hk, ht, hb⟩ := hrel
    have HT := Lib.hid ht
    have HB := Lib.hid hb
    clear ht hb
    by_cases hlt : k < ls.length
    · obtain ⟨rfl, hg⟩ := HA.out k hlt
      have HG := Lib.hid hg
      clear hg
      have hc := H.out k hlt
      have hm := HS.out k hlt
      have hki : (0 : Int) <= (k : Int) := by omega
      have hki' : (k : Int) < (ls.length : Int) := by omega
      have HN : Hid (ls[k] = ls[k]) := rfl
      obtain ⟨⟨m1, m2⟩, hn⟩ : ∃ m, ls[k] = m := ⟨_, rfl⟩
      rw [hn] at hc hm
      have HN2 := Lib.hid hn
      obtain ⟨n1, A1, c1, n2, A2, c2, hc⟩ := hc
      have HF : Hid (∀ w', Below w.heap.size w w' -> w'.cell? ⟨g, o + k * 4, none⟩ = some (.bool n1) /\ w'.cell? ⟨g, o + k * 4 + 1, none⟩ = some (.slice A1 m1 c1) /\ w'.cell? ⟨g, o + k * 4 + 2, none⟩ = some (.bool n2) /\ w'.cell? ⟨g, o + k * 4 + 3, none⟩ = some (.slice A2 m2 c2)) := fun w' hS =>
        ⟨(hS.cell (p := ⟨g, o + k * 4, none⟩) HG.out).trans hc.1, (hS.cell (p := ⟨g, o + k * 4 + 1, none⟩) HG.out).trans hc.2.1, (hS.cell (p := ⟨g, o + k * 4 + 2, none⟩) HG.out).trans hc.2.2.1, (hS.cell (p := ⟨g, o + k * 4 + 3, none⟩) HG.out).trans hc.2.2.2⟩
      have M1 := Lib.hid hm.1
      have M2 := Lib.hid hm.2
      clear hc hm hn HN
      by_cases ha : 12 < m1 ∨ 12 < m2
      · have HL : Hid ([m1, m2].any (fun n => decide (12 < n)) = true) := by show _ = _; simpa using ha
        have hany : Hid ((ls.any fun p => decide (6 < p.1) || decide (6 < p.2)) = true) := by
          show _ = _
          rw [List.any_eq_true]
          exact ⟨ls[k], List.getElem_mem hlt, by rw [HN2.out]; simp; omega⟩
        clear ha
        go_wp2_with fail
        refine wp_region_plan (S := fun w' => Below w.heap.size w w') [(0, true), (1, true), (2, true), (3, true), (4, true), (5, true), (6, true), (7, true), (8, true), (9, true), (10, false), (11, false), (12, true), (13, true), (14, true), (15, true), (16, true), (17, true), (18, true), (19, true), (20, true), (21, true), (22, true), (23, true), (24, true), (25, true), (26, true), (27, true), (28, true), (29, true), (30, true), (31, true)] (by kernel_rfl) (by kernel_rfl) HB.out.drew ?_
        have hb := HB.out.drew
        refine plan_take (v := ?_) rfl (by rfl) ?_ ?_; rotate_left; (focus (intro w' hS; obtain ⟨f0, f1, f2, f3⟩ := HF.out w' hS; go_simp; try with_reducible rfl)); simp only [Act.put, List.setIfInBounds_toArray, List.set_cons_zero, List.set_cons_succ]
        refine plan_take (v := ?_) rfl (by rfl) ?_ ?_; rotate_left; (focus (intro w' hS; obtain ⟨f0, f1, f2, f3⟩ := HF.out w' hS; go_simp; try with_reducible rfl)); simp only [Act.put, List.setIfInBounds_toArray, List.set_cons_zero, List.set_cons_succ]
        refine plan_take (v := ?_) rfl (by rfl) ?_ ?_; rotate_left; (focus (intro w' hS; obtain ⟨f0, f1, f2, f3⟩ := HF.out w' hS; go_simp; try with_reducible rfl)); simp only [Act.put, List.setIfInBounds_toArray, List.set_cons_zero, List.set_cons_succ]
        refine plan_take (v := ?_) rfl (by rfl) ?_ ?_; rotate_left; (focus (intro w' hS; obtain ⟨f0, f1, f2, f3⟩ := HF.out w' hS; go_simp; try with_reducible rfl)); simp only [Act.put, List.setIfInBounds_toArray, List.set_cons_zero, List.set_cons_succ]
        refine plan_take (v := ?_) rfl (by rfl) ?_ ?_; rotate_left; (focus (intro w' hS; obtain ⟨f0, f1, f2, f3⟩ := HF.out w' hS; go_simp; try with_reducible rfl)); simp only [Act.put, List.setIfInBounds_toArray, List.set_cons_zero, List.set_cons_succ]
        refine plan_take (v := ?_) rfl (by rfl) ?_ ?_; rotate_left; (focus (intro w' hS; obtain ⟨f0, f1, f2, f3⟩ := HF.out w' hS; go_simp; try with_reducible rfl)); simp only [Act.put, List.setIfInBounds_toArray, List.set_cons_zero, List.set_cons_succ]
        refine plan_take (v := ?_) rfl (by rfl) ?_ ?_; rotate_left; (focus (intro w' hS; obtain ⟨f0, f1, f2, f3⟩ := HF.out w' hS; go_simp; try with_reducible rfl)); simp only [Act.put, List.setIfInBounds_toArray, List.set_cons_zero, List.set_cons_succ]
        refine plan_take (v := ?_) rfl (by rfl) ?_ ?_; rotate_left; (focus (intro w' hS; obtain ⟨f0, f1, f2, f3⟩ := HF.out w' hS; go_simp; try with_reducible rfl)); simp only [Act.put, List.setIfInBounds_toArray, List.set_cons_zero, List.set_cons_succ]
        refine plan_take (v := ?_) rfl (by rfl) ?_ ?_; rotate_left; (focus (intro w' hS; obtain ⟨f0, f1, f2, f3⟩ := HF.out w' hS; go_simp; try with_reducible rfl)); simp only [Act.put, List.setIfInBounds_toArray, List.set_cons_zero, List.set_cons_succ]
        refine plan_take (v := ?_) rfl (by rfl) ?_ ?_; rotate_left; (focus (intro w' hS; obtain ⟨f0, f1, f2, f3⟩ := HF.out w' hS; go_simp; try with_reducible rfl)); simp only [Act.put, List.setIfInBounds_toArray, List.set_cons_zero, List.set_cons_succ]
        refine plan_call rfl (by rfl) (fun K hK => ?_)
        go_simp
        have hnew := (Four.new wr (.bool n1) (.slice A1 m1 c1) (.bool n2) (.slice A2 m2 c2) 24).to (Below.refl _ _).drew
        replace hb := hb.alloc hb.size (.cells #[.bool n1, .slice A1 m1 c1, .bool n2, .slice A2 m2 c2] 24)
        refine hK.out _ _ hb ?_
        clear hK K
        refine plan_call rfl (by rfl) (fun K hK => ?_)
        go_simp
        refine (long_2 M1.out M2.out hnew.c1 hnew.c3 HL.out).mono ?_
        rintro e V ⟨rfl, rfl⟩
        refine hK.out _ _ hb ?_
        clear hK K hnew
        refine plan_take (v := ?_) rfl (by rfl) ?_ ?_; rotate_left; (focus (intro w' hS; go_simp; try with_reducible rfl)); simp only [Act.put, List.setIfInBounds_toArray, List.set_cons_zero, List.set_cons_succ]
        refine plan_skip rfl (by rfl) ?_; simp only [Act.put, List.setIfInBounds_toArray, List.set_cons_zero, List.set_cons_succ]
        refine plan_skip rfl (by rfl) ?_; simp only [Act.put, List.setIfInBounds_toArray, List.set_cons_zero, List.set_cons_succ]
        refine plan_skip rfl (by rfl) ?_; simp only [Act.put, List.setIfInBounds_toArray, List.set_cons_zero, List.set_cons_succ]
        refine plan_skip rfl (by rfl) ?_; simp only [Act.put, List.setIfInBounds_toArray, List.set_cons_zero, List.set_cons_succ]
        refine plan_skip rfl (by rfl) ?_; simp only [Act.put, List.setIfInBounds_toArray, List.set_cons_zero, List.set_cons_succ]
        refine plan_skip rfl (by rfl) ?_; simp only [Act.put, List.setIfInBounds_toArray, List.set_cons_zero, List.set_cons_succ]
        refine plan_skip rfl (by rfl) ?_; simp only [Act.put, List.setIfInBounds_toArray, List.set_cons_zero, List.set_cons_succ]
        refine plan_skip rfl (by rfl) ?_; simp only [Act.put, List.setIfInBounds_toArray, List.set_cons_zero, List.set_cons_succ]
        refine plan_take (v := ?_) rfl (by rfl) ?_ ?_; rotate_left; (focus (intro w' hS; go_simp; try with_reducible rfl)); simp only [Act.put, List.setIfInBounds_toArray, List.set_cons_zero, List.set_cons_succ]
        refine plan_take (v := ?_) rfl (by rfl) ?_ ?_; rotate_left; (focus (intro w' hS; go_simp; try with_reducible rfl)); simp only [Act.put, List.setIfInBounds_toArray, List.set_cons_zero, List.set_cons_succ]
        refine plan_skip rfl (by rfl) ?_; simp only [Act.put, List.setIfInBounds_toArray, List.set_cons_zero, List.set_cons_succ]
        refine plan_skip rfl (by rfl) ?_; simp only [Act.put, List.setIfInBounds_toArray, List.set_cons_zero, List.set_cons_succ]
        refine plan_skip rfl (by rfl) ?_; simp only [Act.put, List.setIfInBounds_toArray, List.set_cons_zero, List.set_cons_succ]
        refine plan_skip rfl (by rfl) ?_; simp only [Act.put, List.setIfInBounds_toArray, List.set_cons_zero, List.set_cons_succ]
        refine plan_skip rfl (by rfl) ?_; simp only [Act.put, List.setIfInBounds_toArray, List.set_cons_zero, List.set_cons_succ]
        refine plan_skip rfl (by rfl) ?_; simp only [Act.put, List.setIfInBounds_toArray, List.set_cons_zero, List.set_cons_succ]
        refine plan_skip rfl (by rfl) ?_; simp only [Act.put, List.setIfInBounds_toArray, List.set_cons_zero, List.set_cons_succ]
        refine plan_skip rfl (by rfl) ?_; simp only [Act.put, List.setIfInBounds_toArray, List.set_cons_zero, List.set_cons_succ]
        refine plan_take (v := ?_) rfl (by rfl) ?_ ?_; rotate_left; (focus (intro w' hS; go_simp; try with_reducible rfl)); simp only [Act.put, List.setIfInBounds_toArray, List.set_cons_zero, List.set_cons_succ]
        refine plan_done ?_
        have HE := Lib.hid hb
        clear hb HB
        go_wp2
        go_ret
        exact ⟨by rw [<- HR.out, hany.out]; rfl, HE.out⟩
      · have HL : Hid ([m1, m2].any (fun n => decide (12 < n)) = false) := by show _ = _; simpa using ha
        by_cases hb6 : 6 < m1
        · have hany : Hid ((ls.any fun p => decide (6 < p.1) || decide (6 < p.2)) = true) := by
            show _ = _
            rw [List.any_eq_true]
            exact ⟨ls[k], List.getElem_mem hlt, by rw [HN2.out]; simp; omega⟩
          clear ha
          have d1 : decide ((6 : Int) < (m1 : Int)) = true := by simp; omega
          clear hb6
          go_wp2_with fail
          refine wp_region_plan (S := fun w' => Below w.heap.size w w') [(0, true), (1, true), (2, true), (3, true), (4, true), (5, true), (6, true), (7, true), (8, true), (9, true), (10, false), (11, false), (12, true), (13, true), (14, true), (15, true), (16, true), (17, true), (18, true), (19, true), (20, true), (21, true), (22, true), (23, true), (24, true), (25, true), (26, true), (27, true), (28, true), (29, true), (30, true), (31, true)] (by kernel_rfl) (by kernel_rfl) HB.out.drew ?_
          have hb := HB.out.drew
          refine plan_take (v := ?_) rfl (by rfl) ?_ ?_; rotate_left; (focus (intro w' hS; obtain ⟨f0, f1, f2, f3⟩ := HF.out w' hS; go_simp; try with_reducible rfl)); simp only [Act.put, List.setIfInBounds_toArray, List.set_cons_zero, List.set_cons_succ]
          refine plan_take (v := ?_) rfl (by rfl) ?_ ?_; rotate_left; (focus (intro w' hS; obtain ⟨f0, f1, f2, f3⟩ := HF.out w' hS; go_simp; try with_reducible rfl)); simp only [Act.put, List.setIfInBounds_toArray, List.set_cons_zero, List.set_cons_succ]
          refine plan_take (v := ?_) rfl (by rfl) ?_ ?_; rotate_left; (focus (intro w' hS; obtain ⟨f0, f1, f2, f3⟩ := HF.out w' hS; go_simp; try with_reducible rfl)); simp only [Act.put, List.setIfInBounds_toArray, List.set_cons_zero, List.set_cons_succ]
          refine plan_take (v := ?_) rfl (by rfl) ?_ ?_; rotate_left; (focus (intro w' hS; obtain ⟨f0, f1, f2, f3⟩ := HF.out w' hS; go_simp; try with_reducible rfl)); simp only [Act.put, List.setIfInBounds_toArray, List.set_cons_zero, List.set_cons_succ]
          refine plan_take (v := ?_) rfl (by rfl) ?_ ?_; rotate_left; (focus (intro w' hS; obtain ⟨f0, f1, f2, f3⟩ := HF.out w' hS; go_simp; try with_reducible rfl)); simp only [Act.put, List.setIfInBounds_toArray, List.set_cons_zero, List.set_cons_succ]
          refine plan_take (v := ?_) rfl (by rfl) ?_ ?_; rotate_left; (focus (intro w' hS; obtain ⟨f0, f1, f2, f3⟩ := HF.out w' hS; go_simp; try with_reducible rfl)); simp only [Act.put, List.setIfInBounds_toArray, List.set_cons_zero, List.set_cons_succ]
          refine plan_take (v := ?_) rfl (by rfl) ?_ ?_; rotate_left; (focus (intro w' hS; obtain ⟨f0, f1, f2, f3⟩ := HF.out w' hS; go_simp; try with_reducible rfl)); simp only [Act.put, List.setIfInBounds_toArray, List.set_cons_zero, List.set_cons_succ]
          refine plan_take (v := ?_) rfl (by rfl) ?_ ?_; rotate_left; (focus (intro w' hS; obtain ⟨f0, f1, f2, f3⟩ := HF.out w' hS; go_simp; try with_reducible rfl)); simp only [Act.put, List.setIfInBounds_toArray, List.set_cons_zero, List.set_cons_succ]
          refine plan_take (v := ?_) rfl (by rfl) ?_ ?_; rotate_left; (focus (intro w' hS; obtain ⟨f0, f1, f2, f3⟩ := HF.out w' hS; go_simp; try with_reducible rfl)); simp only [Act.put, List.setIfInBounds_toArray, List.set_cons_zero, List.set_cons_succ]
          refine plan_take (v := ?_) rfl (by rfl) ?_ ?_; rotate_left; (focus (intro w' hS; obtain ⟨f0, f1, f2, f3⟩ := HF.out w' hS; go_simp; try with_reducible rfl)); simp only [Act.put, List.setIfInBounds_toArray, List.set_cons_zero, List.set_cons_succ]
          refine plan_call rfl (by rfl) (fun K hK => ?_)
          go_simp
          have hnew := (Four.new wr (.bool n1) (.slice A1 m1 c1) (.bool n2) (.slice A2 m2 c2) 24).to (Below.refl _ _).drew
          replace hb := hb.alloc hb.size (.cells #[.bool n1, .slice A1 m1 c1, .bool n2, .slice A2 m2 c2] 24)
          refine hK.out _ _ hb ?_
          clear hK K
          refine plan_call rfl (by rfl) (fun K hK => ?_)
          go_simp
          refine (long_2 M1.out M2.out hnew.c1 hnew.c3 HL.out).mono ?_
          rintro e V ⟨rfl, rfl⟩
          refine hK.out _ _ hb ?_
          clear hK K hnew
          refine plan_take (v := ?_) rfl (by rfl) ?_ ?_; rotate_left; (focus (intro w' hS; go_simp; try with_reducible rfl)); simp only [Act.put, List.setIfInBounds_toArray, List.set_cons_zero, List.set_cons_succ]
          refine plan_take (v := ?_) rfl (by rfl) ?_ ?_; rotate_left; (focus (intro w' hS; go_simp; try with_reducible rfl)); simp only [Act.put, List.setIfInBounds_toArray, List.set_cons_zero, List.set_cons_succ]
          refine plan_take (v := ?_) rfl (by rfl) ?_ ?_; rotate_left; (focus (intro w' hS; go_simp; try with_reducible rfl)); simp only [Act.put, List.setIfInBounds_toArray, List.set_cons_zero, List.set_cons_succ]
          refine plan_take (v := ?_) rfl (by rfl) ?_ ?_; rotate_left; (focus (intro w' hS; obtain ⟨f0, f1, f2, f3⟩ := HF.out w' hS; go_simp; try with_reducible rfl)); simp only [Act.put, List.setIfInBounds_toArray, List.set_cons_zero, List.set_cons_succ]
          refine plan_take (v := ?_) rfl (by rfl) ?_ ?_; rotate_left; (focus (intro w' hS; obtain ⟨f0, f1, f2, f3⟩ := HF.out w' hS; go_simp; try with_reducible rfl)); simp only [Act.put, List.setIfInBounds_toArray, List.set_cons_zero, List.set_cons_succ]
          refine plan_take (v := ?_) rfl (by rfl) ?_ ?_; rotate_left; (focus (intro w' hS; obtain ⟨f0, f1, f2, f3⟩ := HF.out w' hS; go_simp; try with_reducible rfl)); simp only [Act.put, List.setIfInBounds_toArray, List.set_cons_zero, List.set_cons_succ]
          refine plan_take (v := ?_) rfl (by rfl) ?_ ?_; rotate_left; (focus (intro w' hS; obtain ⟨f0, f1, f2, f3⟩ := HF.out w' hS; go_simp; try with_reducible rfl)); simp only [Act.put, List.setIfInBounds_toArray, List.set_cons_zero, List.set_cons_succ]
          refine plan_take (v := ?_) rfl (by rfl) ?_ ?_; rotate_left; (focus (intro w' hS; go_simp; try with_reducible rfl)); simp only [Act.put, List.setIfInBounds_toArray, List.set_cons_zero, List.set_cons_succ]
          refine plan_take (v := ?_) rfl (by rfl) ?_ ?_; rotate_left; (focus (intro w' hS; go_simp; try with_reducible rfl)); simp only [Act.put, List.setIfInBounds_toArray, List.set_cons_zero, List.set_cons_succ]
          refine plan_take (v := ?_) rfl (by rfl) ?_ ?_; rotate_left; (focus (intro w' hS; go_simp; try with_reducible rfl)); simp only [Act.put, List.setIfInBounds_toArray, List.set_cons_zero, List.set_cons_succ]
          refine plan_take (v := ?_) rfl (by rfl) ?_ ?_; rotate_left; (focus (intro w' hS; go_simp; try with_reducible rfl)); simp only [Act.put, List.setIfInBounds_toArray, List.set_cons_zero, List.set_cons_succ]
          refine plan_skip rfl (by rfl) ?_; simp only [Act.put, List.setIfInBounds_toArray, List.set_cons_zero, List.set_cons_succ]
          refine plan_skip rfl (by rfl) ?_; simp only [Act.put, List.setIfInBounds_toArray, List.set_cons_zero, List.set_cons_succ]
          refine plan_skip rfl (by rfl) ?_; simp only [Act.put, List.setIfInBounds_toArray, List.set_cons_zero, List.set_cons_succ]
          refine plan_skip rfl (by rfl) ?_; simp only [Act.put, List.setIfInBounds_toArray, List.set_cons_zero, List.set_cons_succ]
          refine plan_skip rfl (by rfl) ?_; simp only [Act.put, List.setIfInBounds_toArray, List.set_cons_zero, List.set_cons_succ]
          refine plan_skip rfl (by rfl) ?_; simp only [Act.put, List.setIfInBounds_toArray, List.set_cons_zero, List.set_cons_succ]
          refine plan_skip rfl (by rfl) ?_; simp only [Act.put, List.setIfInBounds_toArray, List.set_cons_zero, List.set_cons_succ]
          refine plan_skip rfl (by rfl) ?_; simp only [Act.put, List.setIfInBounds_toArray, List.set_cons_zero, List.set_cons_succ]
          refine plan_take (v := ?_) rfl (by rfl) ?_ ?_; rotate_left; (focus (intro w' hS; go_simp; try with_reducible rfl)); simp only [Act.put, List.setIfInBounds_toArray, List.set_cons_zero, List.set_cons_succ]
          refine plan_done ?_
          have HE := Lib.hid hb
          clear hb HB
          go_wp2
          go_ret
          exact ⟨by rw [<- HR.out, hany.out]; rfl, HE.out⟩
        · by_cases hc6 : 6 < m2
          · have hany : Hid ((ls.any fun p => decide (6 < p.1) || decide (6 < p.2)) = true) := by
              show _ = _
              rw [List.any_eq_true]
              exact ⟨ls[k], List.getElem_mem hlt, by rw [HN2.out]; simp; omega⟩
            clear ha
            have d1 : decide ((6 : Int) < (m1 : Int)) = false := by simp; omega
            have d2 : decide ((6 : Int) < (m2 : Int)) = true := by simp; omega
            clear hb6 hc6
            go_wp2_with fail
            refine wp_region_plan (S := fun w' => Below w.heap.size w w') [(0, true), (1, true), (2, true), (3, true), (4, true), (5, true), (6, true), (7, true), (8, true), (9, true), (10, false), (11, false), (12, true), (13, true), (14, true), (15, true), (16, true), (17, true), (18, true), (19, true), (20, true), (21, true), (22, true), (23, true), (24, true), (25, true), (26, true), (27, true), (28, true), (29, true), (30, true), (31, true)] (by kernel_rfl) (by kernel_rfl) HB.out.drew ?_
            have hb := HB.out.drew
            refine plan_take (v := ?_) rfl (by rfl) ?_ ?_; rotate_left; (focus (intro w' hS; obtain ⟨f0, f1, f2, f3⟩ := HF.out w' hS; go_simp; try with_reducible rfl)); simp only [Act.put, List.setIfInBounds_toArray, List.set_cons_zero, List.set_cons_succ]
            refine plan_take (v := ?_) rfl (by rfl) ?_ ?_; rotate_left; (focus (intro w' hS; obtain ⟨f0, f1, f2, f3⟩ := HF.out w' hS; go_simp; try with_reducible rfl)); simp only [Act.put, List.setIfInBounds_toArray, List.set_cons_zero, List.set_cons_succ]
            refine plan_take (v := ?_) rfl (by rfl) ?_ ?_; rotate_left; (focus (intro w' hS; obtain ⟨f0, f1, f2, f3⟩ := HF.out w' hS; go_simp; try with_reducible rfl)); simp only [Act.put, List.setIfInBounds_toArray, List.set_cons_zero, List.set_cons_succ]
            refine plan_take (v := ?_) rfl (by rfl) ?_ ?_; rotate_left; (focus (intro w' hS; obtain ⟨f0, f1, f2, f3⟩ := HF.out w' hS; go_simp; try with_reducible rfl)); simp only [Act.put, List.setIfInBounds_toArray, List.set_cons_zero, List.set_cons_succ]
            refine plan_take (v := ?_) rfl (by rfl) ?_ ?_; rotate_left; (focus (intro w' hS; obtain ⟨f0, f1, f2, f3⟩ := HF.out w' hS; go_simp; try with_reducible rfl)); simp only [Act.put, List.setIfInBounds_toArray, List.set_cons_zero, List.set_cons_succ]
            refine plan_take (v := ?_) rfl (by rfl) ?_ ?_; rotate_left; (focus (intro w' hS; obtain ⟨f0, f1, f2, f3⟩ := HF.out w' hS; go_simp; try with_reducible rfl)); simp only [Act.put, List.setIfInBounds_toArray, List.set_cons_zero, List.set_cons_succ]
            refine plan_take (v := ?_) rfl (by rfl) ?_ ?_; rotate_left; (focus (intro w' hS; obtain ⟨f0, f1, f2, f3⟩ := HF.out w' hS; go_simp; try with_reducible rfl)); simp only [Act.put, List.setIfInBounds_toArray, List.set_cons_zero, List.set_cons_succ]
            refine plan_take (v := ?_) rfl (by rfl) ?_ ?_; rotate_left; (focus (intro w' hS; obtain ⟨f0, f1, f2, f3⟩ := HF.out w' hS; go_simp; try with_reducible rfl)); simp only [Act.put, List.setIfInBounds_toArray, List.set_cons_zero, List.set_cons_succ]
            refine plan_take (v := ?_) rfl (by rfl) ?_ ?_; rotate_left; (focus (intro w' hS; obtain ⟨f0, f1, f2, f3⟩ := HF.out w' hS; go_simp; try with_reducible rfl)); simp only [Act.put, List.setIfInBounds_toArray, List.set_cons_zero, List.set_cons_succ]
            refine plan_take (v := ?_) rfl (by rfl) ?_ ?_; rotate_left; (focus (intro w' hS; obtain ⟨f0, f1, f2, f3⟩ := HF.out w' hS; go_simp; try with_reducible rfl)); simp only [Act.put, List.setIfInBounds_toArray, List.set_cons_zero, List.set_cons_succ]
            refine plan_call rfl (by rfl) (fun K hK => ?_)
            go_simp
            have hnew := (Four.new wr (.bool n1) (.slice A1 m1 c1) (.bool n2) (.slice A2 m2 c2) 24).to (Below.refl _ _).drew
            replace hb := hb.alloc hb.size (.cells #[.bool n1, .slice A1 m1 c1, .bool n2, .slice A2 m2 c2] 24)
            refine hK.out _ _ hb ?_
            clear hK K
            refine plan_call rfl (by rfl) (fun K hK => ?_)
            go_simp
            refine (long_2 M1.out M2.out hnew.c1 hnew.c3 HL.out).mono ?_
            rintro e V ⟨rfl, rfl⟩
            refine hK.out _ _ hb ?_
            clear hK K hnew
            refine plan_take (v := ?_) rfl (by rfl) ?_ ?_; rotate_left; (focus (intro w' hS; go_simp; try with_reducible rfl)); simp only [Act.put, List.setIfInBounds_toArray, List.set_cons_zero, List.set_cons_succ]
            refine plan_take (v := ?_) rfl (by rfl) ?_ ?_; rotate_left; (focus (intro w' hS; go_simp; try with_reducible rfl)); simp only [Act.put, List.setIfInBounds_toArray, List.set_cons_zero, List.set_cons_succ]
            refine plan_take (v := ?_) rfl (by rfl) ?_ ?_; rotate_left; (focus (intro w' hS; go_simp; try with_reducible rfl)); simp only [Act.put, List.setIfInBounds_toArray, List.set_cons_zero, List.set_cons_succ]
            refine plan_take (v := ?_) rfl (by rfl) ?_ ?_; rotate_left; (focus (intro w' hS; obtain ⟨f0, f1, f2, f3⟩ := HF.out w' hS; go_simp; try with_reducible rfl)); simp only [Act.put, List.setIfInBounds_toArray, List.set_cons_zero, List.set_cons_succ]
            refine plan_take (v := ?_) rfl (by rfl) ?_ ?_; rotate_left; (focus (intro w' hS; obtain ⟨f0, f1, f2, f3⟩ := HF.out w' hS; go_simp; try with_reducible rfl)); simp only [Act.put, List.setIfInBounds_toArray, List.set_cons_zero, List.set_cons_succ]
            refine plan_take (v := ?_) rfl (by rfl) ?_ ?_; rotate_left; (focus (intro w' hS; obtain ⟨f0, f1, f2, f3⟩ := HF.out w' hS; go_simp; try with_reducible rfl)); simp only [Act.put, List.setIfInBounds_toArray, List.set_cons_zero, List.set_cons_succ]
            refine plan_take (v := ?_) rfl (by rfl) ?_ ?_; rotate_left; (focus (intro w' hS; obtain ⟨f0, f1, f2, f3⟩ := HF.out w' hS; go_simp; try with_reducible rfl)); simp only [Act.put, List.setIfInBounds_toArray, List.set_cons_zero, List.set_cons_succ]
            refine plan_take (v := ?_) rfl (by rfl) ?_ ?_; rotate_left; (focus (intro w' hS; go_simp; try with_reducible rfl)); simp only [Act.put, List.setIfInBounds_toArray, List.set_cons_zero, List.set_cons_succ]
            refine plan_take (v := ?_) rfl (by rfl) ?_ ?_; rotate_left; (focus (intro w' hS; go_simp; try with_reducible rfl)); simp only [Act.put, List.setIfInBounds_toArray, List.set_cons_zero, List.set_cons_succ]
            refine plan_take (v := ?_) rfl (by rfl) ?_ ?_; rotate_left; (focus (intro w' hS; go_simp; try with_reducible rfl)); simp only [Act.put, List.setIfInBounds_toArray, List.set_cons_zero, List.set_cons_succ]
            refine plan_take (v := ?_) rfl (by rfl) ?_ ?_; rotate_left; (focus (intro w' hS; go_simp; try with_reducible rfl)); simp only [Act.put, List.setIfInBounds_toArray, List.set_cons_zero, List.set_cons_succ]
            refine plan_take (v := ?_) rfl (by rfl) ?_ ?_; rotate_left; (focus (intro w' hS; go_simp; try with_reducible rfl)); simp only [Act.put, List.setIfInBounds_toArray, List.set_cons_zero, List.set_cons_succ]
            refine plan_take (v := ?_) rfl (by rfl) ?_ ?_; rotate_left; (focus (intro w' hS; go_simp; try with_reducible rfl)); simp only [Act.put, List.setIfInBounds_toArray, List.set_cons_zero, List.set_cons_succ]
            refine plan_take (v := ?_) rfl (by rfl) ?_ ?_; rotate_left; (focus (intro w' hS; obtain ⟨f0, f1, f2, f3⟩ := HF.out w' hS; go_simp; try with_reducible rfl)); simp only [Act.put, List.setIfInBounds_toArray, List.set_cons_zero, List.set_cons_succ]
            refine plan_take (v := ?_) rfl (by rfl) ?_ ?_; rotate_left; (focus (intro w' hS; obtain ⟨f0, f1, f2, f3⟩ := HF.out w' hS; go_simp; try with_reducible rfl)); simp only [Act.put, List.setIfInBounds_toArray, List.set_cons_zero, List.set_cons_succ]
            refine plan_take (v := ?_) rfl (by rfl) ?_ ?_; rotate_left; (focus (intro w' hS; obtain ⟨f0, f1, f2, f3⟩ := HF.out w' hS; go_simp; try with_reducible rfl)); simp only [Act.put, List.setIfInBounds_toArray, List.set_cons_zero, List.set_cons_succ]
            refine plan_take (v := ?_) rfl (by rfl) ?_ ?_; rotate_left; (focus (intro w' hS; obtain ⟨f0, f1, f2, f3⟩ := HF.out w' hS; go_simp; try with_reducible rfl)); simp only [Act.put, List.setIfInBounds_toArray, List.set_cons_zero, List.set_cons_succ]
            refine plan_take (v := ?_) rfl (by rfl) ?_ ?_; rotate_left; (focus (intro w' hS; go_simp; try with_reducible rfl)); simp only [Act.put, List.setIfInBounds_toArray, List.set_cons_zero, List.set_cons_succ]
            refine plan_take (v := ?_) rfl (by rfl) ?_ ?_; rotate_left; (focus (intro w' hS; go_simp; try with_reducible rfl)); simp only [Act.put, List.setIfInBounds_toArray, List.set_cons_zero, List.set_cons_succ]
            refine plan_take (v := ?_) rfl (by rfl) ?_ ?_; rotate_left; (focus (intro w' hS; go_simp; try with_reducible rfl)); simp only [Act.put, List.setIfInBounds_toArray, List.set_cons_zero, List.set_cons_succ]
            refine plan_done ?_
            have HE := Lib.hid hb
            clear hb HB
            go_wp2
            go_ret
            exact ⟨by rw [<- HR.out, hany.out]; rfl, HE.out⟩
          · have hok : Hid (m1 <= 6 /\ m2 <= 6) := by show _ /\ _; omega
            clear ha
            have d1 : decide ((6 : Int) < (m1 : Int)) = false := by simp; omega
            have d2 : decide ((6 : Int) < (m2 : Int)) = false := by simp; omega
            clear hb6 hc6
            go_wp2_with fail
            refine wp_region_plan (S := fun w' => Below w.heap.size w w') [(0, true), (1, true), (2, true), (3, true), (4, true), (5, true), (6, true), (7, true), (8, true), (9, true), (10, false), (11, false), (12, true), (13, true), (14, true), (15, true), (16, true), (17, true), (18, true), (19, true), (20, true), (21, true), (22, true), (23, true), (24, true), (25, true), (26, true), (27, true), (28, true), (29, true), (30, true), (31, true)] (by kernel_rfl) (by kernel_rfl) HB.out.drew ?_
            have hb := HB.out.drew
            refine plan_take (v := ?_) rfl (by rfl) ?_ ?_; rotate_left; (focus (intro w' hS; obtain ⟨f0, f1, f2, f3⟩ := HF.out w' hS; go_simp; try with_reducible rfl)); simp only [Act.put, List.setIfInBounds_toArray, List.set_cons_zero, List.set_cons_succ]
            refine plan_take (v := ?_) rfl (by rfl) ?_ ?_; rotate_left; (focus (intro w' hS; obtain ⟨f0, f1, f2, f3⟩ := HF.out w' hS; go_simp; try with_reducible rfl)); simp only [Act.put, List.setIfInBounds_toArray, List.set_cons_zero, List.set_cons_succ]
            refine plan_take (v := ?_) rfl (by rfl) ?_ ?_; rotate_left; (focus (intro w' hS; obtain ⟨f0, f1, f2, f3⟩ := HF.out w' hS; go_simp; try with_reducible rfl)); simp only [Act.put, List.setIfInBounds_toArray, List.set_cons_zero, List.set_cons_succ]
            refine plan_take (v := ?_) rfl (by rfl) ?_ ?_; rotate_left; (focus (intro w' hS; obtain ⟨f0, f1, f2, f3⟩ := HF.out w' hS; go_simp; try with_reducible rfl)); simp only [Act.put, List.setIfInBounds_toArray, List.set_cons_zero, List.set_cons_succ]
            refine plan_take (v := ?_) rfl (by rfl) ?_ ?_; rotate_left; (focus (intro w' hS; obtain ⟨f0, f1, f2, f3⟩ := HF.out w' hS; go_simp; try with_reducible rfl)); simp only [Act.put, List.setIfInBounds_toArray, List.set_cons_zero, List.set_cons_succ]
            refine plan_take (v := ?_) rfl (by rfl) ?_ ?_; rotate_left; (focus (intro w' hS; obtain ⟨f0, f1, f2, f3⟩ := HF.out w' hS; go_simp; try with_reducible rfl)); simp only [Act.put, List.setIfInBounds_toArray, List.set_cons_zero, List.set_cons_succ]
            refine plan_take (v := ?_) rfl (by rfl) ?_ ?_; rotate_left; (focus (intro w' hS; obtain ⟨f0, f1, f2, f3⟩ := HF.out w' hS; go_simp; try with_reducible rfl)); simp only [Act.put, List.setIfInBounds_toArray, List.set_cons_zero, List.set_cons_succ]
            refine plan_take (v := ?_) rfl (by rfl) ?_ ?_; rotate_left; (focus (intro w' hS; obtain ⟨f0, f1, f2, f3⟩ := HF.out w' hS; go_simp; try with_reducible rfl)); simp only [Act.put, List.setIfInBounds_toArray, List.set_cons_zero, List.set_cons_succ]
            refine plan_take (v := ?_) rfl (by rfl) ?_ ?_; rotate_left; (focus (intro w' hS; obtain ⟨f0, f1, f2, f3⟩ := HF.out w' hS; go_simp; try with_reducible rfl)); simp only [Act.put, List.setIfInBounds_toArray, List.set_cons_zero, List.set_cons_succ]
            refine plan_take (v := ?_) rfl (by rfl) ?_ ?_; rotate_left; (focus (intro w' hS; obtain ⟨f0, f1, f2, f3⟩ := HF.out w' hS; go_simp; try with_reducible rfl)); simp only [Act.put, List.setIfInBounds_toArray, List.set_cons_zero, List.set_cons_succ]
            refine plan_call rfl (by rfl) (fun K hK => ?_)
            go_simp
            have hnew := (Four.new wr (.bool n1) (.slice A1 m1 c1) (.bool n2) (.slice A2 m2 c2) 24).to (Below.refl _ _).drew
            replace hb := hb.alloc hb.size (.cells #[.bool n1, .slice A1 m1 c1, .bool n2, .slice A2 m2 c2] 24)
            refine hK.out _ _ hb ?_
            clear hK K
            refine plan_call rfl (by rfl) (fun K hK => ?_)
            go_simp
            refine (long_2 M1.out M2.out hnew.c1 hnew.c3 HL.out).mono ?_
            rintro e V ⟨rfl, rfl⟩
            refine hK.out _ _ hb ?_
            clear hK K hnew
            refine plan_take (v := ?_) rfl (by rfl) ?_ ?_; rotate_left; (focus (intro w' hS; go_simp; try with_reducible rfl)); simp only [Act.put, List.setIfInBounds_toArray, List.set_cons_zero, List.set_cons_succ]
            refine plan_take (v := ?_) rfl (by rfl) ?_ ?_; rotate_left; (focus (intro w' hS; go_simp; try with_reducible rfl)); simp only [Act.put, List.setIfInBounds_toArray, List.set_cons_zero, List.set_cons_succ]
            refine plan_take (v := ?_) rfl (by rfl) ?_ ?_; rotate_left; (focus (intro w' hS; go_simp; try with_reducible rfl)); simp only [Act.put, List.setIfInBounds_toArray, List.set_cons_zero, List.set_cons_succ]
            refine plan_take (v := ?_) rfl (by rfl) ?_ ?_; rotate_left; (focus (intro w' hS; obtain ⟨f0, f1, f2, f3⟩ := HF.out w' hS; go_simp; try with_reducible rfl)); simp only [Act.put, List.setIfInBounds_toArray, List.set_cons_zero, List.set_cons_succ]
            refine plan_take (v := ?_) rfl (by rfl) ?_ ?_; rotate_left; (focus (intro w' hS; obtain ⟨f0, f1, f2, f3⟩ := HF.out w' hS; go_simp; try with_reducible rfl)); simp only [Act.put, List.setIfInBounds_toArray, List.set_cons_zero, List.set_cons_succ]
            refine plan_take (v := ?_) rfl (by rfl) ?_ ?_; rotate_left; (focus (intro w' hS; obtain ⟨f0, f1, f2, f3⟩ := HF.out w' hS; go_simp; try with_reducible rfl)); simp only [Act.put, List.setIfInBounds_toArray, List.set_cons_zero, List.set_cons_succ]
            refine plan_take (v := ?_) rfl (by rfl) ?_ ?_; rotate_left; (focus (intro w' hS; obtain ⟨f0, f1, f2, f3⟩ := HF.out w' hS; go_simp; try with_reducible rfl)); simp only [Act.put, List.setIfInBounds_toArray, List.set_cons_zero, List.set_cons_succ]
            refine plan_take (v := ?_) rfl (by rfl) ?_ ?_; rotate_left; (focus (intro w' hS; go_simp; try with_reducible rfl)); simp only [Act.put, List.setIfInBounds_toArray, List.set_cons_zero, List.set_cons_succ]
            refine plan_take (v := ?_) rfl (by rfl) ?_ ?_; rotate_left; (focus (intro w' hS; go_simp; try with_reducible rfl)); simp only [Act.put, List.setIfInBounds_toArray, List.set_cons_zero, List.set_cons_succ]
            refine plan_take (v := ?_) rfl (by rfl) ?_ ?_; rotate_left; (focus (intro w' hS; go_simp; try with_reducible rfl)); simp only [Act.put, List.setIfInBounds_toArray, List.set_cons_zero, List.set_cons_succ]
            refine plan_take (v := ?_) rfl (by rfl) ?_ ?_; rotate_left; (focus (intro w' hS; go_simp; try with_reducible rfl)); simp only [Act.put, List.setIfInBounds_toArray, List.set_cons_zero, List.set_cons_succ]
            refine plan_take (v := ?_) rfl (by rfl) ?_ ?_; rotate_left; (focus (intro w' hS; go_simp; try with_reducible rfl)); simp only [Act.put, List.setIfInBounds_toArray, List.set_cons_zero, List.set_cons_succ]
            refine plan_take (v := ?_) rfl (by rfl) ?_ ?_; rotate_left; (focus (intro w' hS; go_simp; try with_reducible rfl)); simp only [Act.put, List.setIfInBounds_toArray, List.set_cons_zero, List.set_cons_succ]
            refine plan_take (v := ?_) rfl (by rfl) ?_ ?_; rotate_left; (focus (intro w' hS; obtain ⟨f0, f1, f2, f3⟩ := HF.out w' hS; go_simp; try with_reducible rfl)); simp only [Act.put, List.setIfInBounds_toArray, List.set_cons_zero, List.set_cons_succ]
            refine plan_take (v := ?_) rfl (by rfl) ?_ ?_; rotate_left; (focus (intro w' hS; obtain ⟨f0, f1, f2, f3⟩ := HF.out w' hS; go_simp; try with_reducible rfl)); simp only [Act.put, List.setIfInBounds_toArray, List.set_cons_zero, List.set_cons_succ]
            refine plan_take (v := ?_) rfl (by rfl) ?_ ?_; rotate_left; (focus (intro w' hS; obtain ⟨f0, f1, f2, f3⟩ := HF.out w' hS; go_simp; try with_reducible rfl)); simp only [Act.put, List.setIfInBounds_toArray, List.set_cons_zero, List.set_cons_succ]
            refine plan_take (v := ?_) rfl (by rfl) ?_ ?_; rotate_left; (focus (intro w' hS; obtain ⟨f0, f1, f2, f3⟩ := HF.out w' hS; go_simp; try with_reducible rfl)); simp only [Act.put, List.setIfInBounds_toArray, List.set_cons_zero, List.set_cons_succ]
            refine plan_take (v := ?_) rfl (by rfl) ?_ ?_; rotate_left; (focus (intro w' hS; go_simp; try with_reducible rfl)); simp only [Act.put, List.setIfInBounds_toArray, List.set_cons_zero, List.set_cons_succ]
            refine plan_take (v := ?_) rfl (by rfl) ?_ ?_; rotate_left; (focus (intro w' hS; go_simp; try with_reducible rfl)); simp only [Act.put, List.setIfInBounds_toArray, List.set_cons_zero, List.set_cons_succ]
            refine plan_take (v := ?_) rfl (by rfl) ?_ ?_; rotate_left; (focus (intro w' hS; go_simp; try with_reducible rfl)); simp only [Act.put, List.setIfInBounds_toArray, List.set_cons_zero, List.set_cons_succ]
            refine plan_done ?_
            have HE := Lib.hid hb
            clear hb HB
            go_wp2
            go_roundw
            case rel => exact ⟨k + 1, by simp, by omega, (fun j hj hjk => by
              rcases Nat.lt_or_ge j k with h1 | h1
              · exact HT.out j hj h1
              · obtain rfl : j = k := by omega
                rw [HN2.out]; exact hok.out), HE.out⟩
            case measure => simp [intOf]; omega
    · obtain rfl : k = ls.length := by omega
      clear hlt
      go_wp2
      go_ret
      refine ⟨?_, HB.out⟩
      have : (ls.any fun p => decide (6 < p.1) || decide (6 < p.2)) = false := by
        rw [List.any_eq_false]
        intro x hx
        obtain ⟨j, hj, rfl⟩ := List.getElem_of_mem hx
        have := HT.out j hj hj
        simp; omega
      rw [<- HR.out, this]
      rfl


/-- An element that comes in: its words are there. -/
def ZxE (W : World) (e : E4) : Prop := Zx2 W e.a e.b /\ Zx2 W e.c e.d
theorem Zx2.to {W V : World} {x y : Value} (h : Zx2 W x y) (hb : Below W.heap.size W V) : Zx2 V x y := by
  obtain ⟨n, A, c, xs, h1, h2, h3, h4⟩ := h
  exact ⟨n, A, c, xs, h1, h2, h3.to hb, h4⟩
theorem ZxE.to {W V : World} {e : E4} (h : ZxE W e) (hb : Below W.heap.size W V) : ZxE V e := ⟨h.1.to hb, h.2.to hb⟩
theorem ZxE.fq {W : World} {e : E4} (h : ZxE W e) : e.fq := by
  obtain ⟨⟨n, A, c, xs, h1, h2, _⟩, ⟨m, B, d, ys, h3, h4, _⟩⟩ := h
  exact ⟨⟨n, A, xs.length, c, h1, h2⟩, ⟨m, B, ys.length, d, h3, h4⟩⟩
def vlen : Value -> Nat
  | .slice _ n _ => n
  | _ => 0
def lngE (e : E4) : Bool := decide (6 < vlen e.b) || decide (6 < vlen e.d)
def lngV (es : List E4) : Bool := decide (20 < es.length) || es.any lngE

/-- A vector that comes in. -/
structure VA where
  A : Option Addr
  c : Nat
  es : List E4
structure VIn (W : World) (v : VA) : Prop where
  row : Rq W W.heap.size v.A v.es
  el : ∀ e ∈ v.es, ZxE W e
  cap : v.es.length <= v.c
  c63 : v.c <= 9223372036854775807
theorem VIn.to {W V : World} {v : VA} (h : VIn W v) (hb : Below W.heap.size W V) : VIn V v := ⟨h.row.to hb, fun e he => (h.el e he).to hb, h.cap, h.c63⟩

theorem flong_v {w : World} {v : VA} (h : VIn w v) (hl : v.es.length <= 1000) {r : Bool} (hr : v.es.any lngE = r) :
    Calls Tryz.prog 10 #[.slice v.A v.es.length v.c] w fun e w' => e = .returned (.bool r) /\ Below w.heap.size w w' := by
  obtain ⟨A, c, es⟩ := v
  obtain ⟨hrow, hel, hcap, hc63⟩ := h
  dsimp only at hrow hel hcap hc63 hl hr ⊢
  have key : ∃ g o, ∀ k, k < es.length -> A = some ⟨g, o, none⟩ /\ g < w.heap.size := by
    by_cases h0 : 0 < es.length
    · obtain ⟨b, o, rfl, hb, _⟩ := hrow 0 h0
      exact ⟨b, o, fun k _ => ⟨rfl, hb⟩⟩
    · exact ⟨0, 0, fun k hk => by omega⟩
  obtain ⟨g, o, key⟩ := key
  have h1 := flong_o g o A (es.map fun e => (vlen e.b, vlen e.d)) c w (fun k hk => key k (by simpa using hk)) (fun k hk => by
    have hk' : k < es.length := by simpa using hk
    obtain ⟨b, o', e1, hb, c0, c1, c2, c3⟩ := hrow k hk'
    obtain ⟨e2, _⟩ := key k hk'
    rw [e1] at e2
    simp only [Option.some.injEq, Addr.mk.injEq, and_true] at e2
    obtain ⟨rfl, rfl⟩ := e2
    obtain ⟨⟨n, A1, d1, xs, f1, f2, _⟩, ⟨m, A2, d2, ys, f3, f4, _⟩⟩ := hel _ (List.getElem_mem hk')
    rw [f1] at c0
    rw [f2] at c1
    rw [f3] at c2
    rw [f4] at c3
    refine ⟨n, A1, d1, m, A2, d2, c0, ?_, c2, ?_⟩
    · rw [c1]; simp [f2, vlen]
    · rw [c3]; simp [f4, vlen]) (fun k hk => by
    have hk' : k < es.length := by simpa using hk
    obtain ⟨⟨n, A1, d1, xs, f1, f2, _, _, g1, g2⟩, ⟨m, A2, d2, ys, f3, f4, _, _, g3, g4⟩⟩ := hel _ (List.getElem_mem hk')
    simp only [List.getElem_map, f2, f4, vlen]
    exact ⟨by omega, by omega⟩) (by simpa using hl) (r := r) (by rw [<- hr, List.any_map]; rfl)
  rw [List.length_map] at h1
  exact h1

theorem vlong_any (g : Nat) (vs : List VA) (cap : Nat) (w : World) (hg : g < w.heap.size) (hc : ∀ i (h : i < vs.length), w.cell? ⟨g, i, none⟩ = some (.slice vs[i].A vs[i].es.length vs[i].c)) (hv : ∀ v ∈ vs, VIn w v) (hl : vs.length <= 1000) {r : Bool} (hr : vs.any (fun v => lngV v.es) = r) :
    Calls Tryz.prog 9 #[.slice (some ⟨g, 0, none⟩) vs.length cap] w fun e w' => e = .returned (.bool r) /\ Below w.heap.size w w' := by
  have HG := Lib.hid hg
  have HC := Lib.hid hc
  have HV := Lib.hid hv
  have HR := Lib.hid hr
  clear hg hc hv hr
  go_enter Tryz.func9, Tryz.ntmps9
  go_wp2
  go_loopw [3] (fun i wr => ∃ k : Nat, i = .int .i64 k /\ k <= vs.length /\ (∀ j (hj : j < vs.length), j < k -> lngV vs[j].es = false) /\ Below w.heap.size w wr) (fun i _ => vs.length - (intOf i).toNat)
  case atStart => exact ⟨0, rfl, Nat.zero_le _, (fun j _ hj => by omega), Below.refl _ _⟩
  case round =>
    obtain ⟨k, rfl, hk, ht, hb⟩ := hrel
    have HT := Lib.hid ht
    have HB := Lib.hid hb
    clear ht hb
    by_cases hlt : k < vs.length
    · have hki : (0 : Int) <= (k : Int) := by omega
      have hki' : (k : Int) < (vs.length : Int) := by omega
      have hcell := (HB.out.cell (p := ⟨g, k, none⟩) HG.out).trans (HC.out k hlt)
      have hvk := (HV.out _ (List.getElem_mem hlt)).to HB.out
      have HN : Hid (∀ b, lngV vs[k].es = b -> lngV vs[k].es = b) := fun _ h => h
      obtain ⟨v, hve⟩ : ∃ v, vs[k] = v := ⟨_, rfl⟩
      have HVE := Lib.hid hve
      rw [hve] at hcell hvk
      have hsz := Nat.le_trans hvk.cap hvk.c63
      have HVK := Lib.hid hvk
      have HLT := Lib.hid hlt
      clear hvk HN hve
      by_cases h20 : 20 < v.es.length
      · have hd : decide ((20 : Int) < (v.es.length : Int)) = true := decide_eq_true (by omega)
        have hany : Hid (vs.any (fun v => lngV v.es) = true) := by
          show _ = _
          rw [List.any_eq_true]
          exact ⟨vs[k]'HLT.out, List.getElem_mem _, by rw [HVE.out]; unfold lngV; rw [decide_eq_true h20]; rfl⟩
        clear h20
        go_wp2
        go_ret
        exact ⟨by rw [<- HR.out, hany.out]; rfl, HB.out⟩
      · have hd : decide ((20 : Int) < (v.es.length : Int)) = false := decide_eq_false (by omega)
        have hd2 : ¬ (20 : Int) < (v.es.length : Int) := by omega
        have H20 := Lib.hid h20
        obtain ⟨r1, hr1⟩ : ∃ r1, v.es.any lngE = r1 := ⟨_, rfl⟩
        have HR1 := Lib.hid hr1
        clear h20 hr1
        go_wp2_with fail
        refine (flong_v HVK.out (by have := H20.out; omega) HR1.out).mono ?_
        rintro e V ⟨rfl, bb⟩
        have HB2 := Lib.hid (HB.out.trans (bb.mono HB.out.size))
        clear bb
        cases r1 with
        | true =>
          have hany : Hid (vs.any (fun v => lngV v.es) = true) := by
            show _ = _
            rw [List.any_eq_true]
            exact ⟨vs[k]'HLT.out, List.getElem_mem _, by rw [HVE.out]; unfold lngV; rw [HR1.out, Bool.or_true]⟩
          go_wp2
          go_ret
          exact ⟨by rw [<- HR.out, hany.out]; rfl, HB2.out⟩
        | false =>
          go_wp2
          go_roundw
          case rel =>
            refine ⟨k + 1, by simp, HLT.out, fun j hj hjk => ?_, HB2.out⟩
            by_cases hjk' : j = k
            · subst hjk'
              rw [HVE.out]
              unfold lngV
              rw [HR1.out, decide_eq_false H20.out]
              rfl
            · exact HT.out j hj (by omega)
          case measure => have := HLT.out; simp [intOf]; omega
    · obtain rfl : k = vs.length := by omega
      go_wp2
      go_ret
      refine ⟨?_, HB.out⟩
      rw [<- HR.out, show vs.any (fun v => lngV v.es) = false from by
        rw [List.any_eq_false]
        intro x hx
        obtain ⟨j, hj, rfl⟩ := List.mem_iff_getElem.1 hx
        simpa using HT.out j hj hj]
      rfl

/-- What is not long: rationals of at most 6 words, at most 20 of them. -/
theorem VIn.vi {w : World} {v : VA} (h : VIn w v) (hl : lngV v.es = false) : ∃ rs, Vi w v.A v.c v.es rs 6 /\ rs.length <= 20 := by
  obtain ⟨A, c, es⟩ := v
  obtain ⟨hrow, hel, hcap, hc63⟩ := h
  dsimp only at hrow hel hcap hc63 hl ⊢
  unfold lngV at hl
  simp only [Bool.or_eq_false_iff, decide_eq_false_iff_not, List.any_eq_false] at hl
  have key : ∀ e ∈ es, ∃ r : Rat, Qi w e.a e.b e.c e.d r 6 := fun e he => by
    have h1 := hl.2 e he
    obtain ⟨⟨n, A1, d1, xs, f1, f2, r1, g1, l1, m1⟩, ⟨m, A2, d2, ys, f3, f4, r2, g2, l2, m2⟩⟩ := hel e he
    unfold lngE at h1
    simp only [f2, f4, vlen, Bool.or_eq_true, decide_eq_true_eq, not_or] at h1
    refine ⟨_, _, _, ⟨n, A1, d1, xs, f1, f2, ⟨r1, g1, l1, m1, by omega⟩, by omega, rfl⟩, ⟨m, A2, d2, ys, f3, f4, ⟨r2, g2, l2, m2, by omega⟩, by omega, rfl⟩, rfl, Sm.zof g1 (by omega), Sm.zof g2 (by omega)⟩
  obtain ⟨rs, h1, h2⟩ : ∃ rs : List Rat, es.length = rs.length /\ ∀ i, Qi w (es.getD i E4.z).a (es.getD i E4.z).b (es.getD i E4.z).c (es.getD i E4.z).d (rs.getD i 0) 6 := by
    clear hrow hcap hl hel
    induction es with
    | nil => exact ⟨[], rfl, fun i => by simpa [E4.z] using Qi.zero w⟩
    | cons e r ih =>
      obtain ⟨q, hq⟩ := key e (by simp)
      obtain ⟨rs, h1, h2⟩ := ih (fun e he => key e (by simp [he]))
      refine ⟨q :: rs, by simp [h1], fun i => ?_⟩
      cases i with
      | zero => simpa using hq
      | succ i => simpa using h2 i
  exact ⟨rs, ⟨hrow, h1, h2, fun e he => (hel e he).fq, hcap, hc63⟩, by rw [<- h1]; omega⟩
end Go.Proofs.YtcgdbdhhoomgiaaGreat

namespace Go.Proofs.YtcgdbdhhoomgiaaGreat
open Go.RowKit Go.Shelf

theorem cmpQ_self (r : Rat) : cmpQ r r = 0 := by unfold cmpQ; simp [Rat.lt_irrefl]
theorem fitQ_getD {rs : List Rat} {n : Int} (h : rs.length <= min n.toNat 65536) (i : Nat) : (fitQ rs n).getD i 0 = rs.getD i 0 := by
  by_cases hi : i < min n.toNat 65536
  · exact fitQ_in hi
  · rw [getD_ge (by rw [fitQ_length]; omega), getD_ge (l := rs) (by omega)]
theorem lex_same {rs ss : List Rat} (h : ∀ i, rs.getD i 0 = ss.getD i 0) : lexQ rs ss = 0 := lexF_zero _ _ _ fun j _ _ => by show cmpQ _ _ = 0; rw [h j]; exact cmpQ_self _
theorem Vi.qm {W : World} {A : Option Addr} {c : Nat} {es : List E4} {rs : List Rat} {k : Nat} (h : Vi W A c es rs k) (hk : 0 < k) (i : Nat) : Qm k (rs.getD i 0) := (h.el i).qm hk


theorem vlimit_long {A : Option Addr} {c : Nat} {es : List E4} {w : World} (hA : VIn w ⟨A, c, es⟩) {n : Int} (hlng : lngV es = true) :
    Calls Tryz.prog 6 #[.slice A es.length c, .int .i64 n] w fun e w' => e = .returned (.bool true) /\ Below w.heap.size w w' := by
  obtain ⟨W0, hW0⟩ : ∃ W0, W0 = w.alloc (.cells #[.slice A es.length c] 27) := ⟨_, rfl⟩
  have hbw : Below w.heap.size w W0 := by rw [hW0]; exact (Below.refl _ _).alloc (Nat.le_refl _) _
  have hcell : W0.cell? ⟨w.heap.size, 0, none⟩ = some (.slice A es.length c) := by rw [hW0]; exact (Hp.new w _ _).one
  have hg : w.heap.size < W0.heap.size := by rw [hW0]; simp
  have HL := Lib.hid (vlong_any w.heap.size [⟨A, c, es⟩] 1 W0 hg (fun i hi => by
    match i, hi with
    | 0, _ => exact hcell) (fun v hv => by
    obtain rfl : v = ⟨A, c, es⟩ := by simpa using hv
    exact hA.to hbw) (by simp) (r := true) (by simpa using hlng))
  have HW0 := Lib.hid hW0
  have HB := Lib.hid hbw
  clear hW0 hcell hg hlng hA
  clear hbw
  go_enter Tryz.func6, Tryz.ntmps6
  go_wp2_with fail
  rw [<- HW0.out]
  refine HL.out.mono ?_
  rintro e W1 ⟨rfl, bb⟩
  replace HB := Lib.hid (HB.out.trans (bb.mono HB.out.size))
  clear bb
  go_wp2_with fail
  refine (valive_any _).mono ?_
  rintro e W2 ⟨rfl, bb⟩
  replace HB := Lib.hid (HB.out.trans (bb.mono HB.out.size))
  clear bb
  go_wp2
  go_ret
  exact ⟨rfl, HB.out⟩

theorem vlimit_small {A : Option Addr} {c : Nat} {es : List E4} {w : World} (hA : VIn w ⟨A, c, es⟩) {n : Int} (hlng : lngV es = false) (hn : n < 65533) :
    Calls Tryz.prog 6 #[.slice A es.length c, .int .i64 n] w fun e w' => e = .returned (.bool true) /\ Below w.heap.size w w' := by
  obtain ⟨W0, hW0⟩ : ∃ W0, W0 = w.alloc (.cells #[.slice A es.length c] 27) := ⟨_, rfl⟩
  have hbw : Below w.heap.size w W0 := by rw [hW0]; exact (Below.refl _ _).alloc (Nat.le_refl _) _
  have hcell : W0.cell? ⟨w.heap.size, 0, none⟩ = some (.slice A es.length c) := by rw [hW0]; exact (Hp.new w _ _).one
  have hg : w.heap.size < W0.heap.size := by rw [hW0]; simp
  have HL := Lib.hid (vlong_any w.heap.size [⟨A, c, es⟩] 1 W0 hg (fun i hi => by
    match i, hi with
    | 0, _ => exact hcell) (fun v hv => by
    obtain rfl : v = ⟨A, c, es⟩ := by simpa using hv
    exact hA.to hbw) (by simp) (r := false) (by simpa using hlng))
  have HW0 := Lib.hid hW0
  have HB := Lib.hid hbw
  clear hW0 hcell hg hlng hA
  clear hbw
  go_enter Tryz.func6, Tryz.ntmps6
  go_wp2_with fail
  rw [<- HW0.out]
  refine HL.out.mono ?_
  rintro e W1 ⟨rfl, bb⟩
  replace HB := Lib.hid (HB.out.trans (bb.mono HB.out.size))
  clear bb
  go_wp2_with fail
  refine (valive_any _).mono ?_
  rintro e W2 ⟨rfl, bb⟩
  replace HB := Lib.hid (HB.out.trans (bb.mono HB.out.size))
  clear bb
  go_wp2
  go_ret
  exact ⟨rfl, HB.out⟩

theorem vlimit_mid {A : Option Addr} {c : Nat} {es : List E4} {rs : List Rat} {w : World} (hA : VIn w ⟨A, c, es⟩) {n : Int} (hv : Vi w A c es rs 6) (h20 : rs.length <= 20) (hlng : lngV es = false) (n1 : 65533 <= n) (n2 : n <= 9223372036854775807) (hn : n < 65536) :
    Calls Tryz.prog 6 #[.slice A es.length c, .int .i64 n] w fun e w' => e = .returned (.bool true) /\ Below w.heap.size w w' := by
  obtain ⟨W0, hW0⟩ : ∃ W0, W0 = w.alloc (.cells #[.slice A es.length c] 27) := ⟨_, rfl⟩
  have hbw : Below w.heap.size w W0 := by rw [hW0]; exact (Below.refl _ _).alloc (Nat.le_refl _) _
  have hcell : W0.cell? ⟨w.heap.size, 0, none⟩ = some (.slice A es.length c) := by rw [hW0]; exact (Hp.new w _ _).one
  have hg : w.heap.size < W0.heap.size := by rw [hW0]; simp
  have HL := Lib.hid (vlong_any w.heap.size [⟨A, c, es⟩] 1 W0 hg (fun i hi => by
    match i, hi with
    | 0, _ => exact hcell) (fun v hv => by
    obtain rfl : v = ⟨A, c, es⟩ := by simpa using hv
    exact hA.to hbw) (by simp) (r := false) (by simpa using hlng))
  have HW0 := Lib.hid hW0
  have HB := Lib.hid hbw
  clear hW0 hcell hg hlng hA
  have vA := hv.to hbw
  have HLEN := Lib.hid hv.len
  have hN : min n 65536 = ((min n.toNat 65536 : Nat) : Int) := by omega
  have hx : ∀ i, Qm 6 ((fitQ rs n).getD i 0) := fun i => by rw [fitQ_getD (by omega)]; exact hv.qm (by decide) i
  have HX := Lib.hid hx
  have HE : Hid (decide (lexQ (fitQ rs n) rs = 0) = true) := decide_eq_true (lex_same (fitQ_getD (by omega)))
  have h1 : ¬ n < 65533 := by omega
  have HRZ := Lib.hid fun V (h : Vi V A c es rs 6) => vresize_v h (by decide) (by omega) n2
  have HUN := Lib.hid fun V => vunit_v (w := V) (n := n) (k := 65535) n2
  have H20 := Lib.hid h20
  have LF := Lib.hid (fitQ_length rs n)
  have LU := Lib.hid (unitQ_length n 65535)
  obtain ⟨N, eN⟩ : ∃ N, min n.toNat 65536 = N := ⟨_, rfl⟩
  rw [eN] at hN LF LU
  have hN2 : (N : Int) = n := by omega
  clear n2 eN
  clear hv hbw hx h20
  go_enter Tryz.func6, Tryz.ntmps6
  go_wp2_with fail
  rw [<- HW0.out]
  refine HL.out.mono ?_
  rintro e W1 ⟨rfl, bb⟩
  replace vA := vA.to bb
  replace HB := Lib.hid (HB.out.trans (bb.mono HB.out.size))
  clear bb HL HW0
  rw [HLEN.out]
  clear HLEN
  go_wp2_with fail
  refine (HRZ.out _ vA).mono ?_
  rintro e W2 ⟨A1, c1, es1, rfl, x, bb⟩
  rw [LF.out]
  replace vA := vA.to bb
  replace HB := Lib.hid (HB.out.trans (bb.mono HB.out.size))
  clear bb HRZ
  go_wp2_with fail
  refine (HUN.out _).mono ?_
  rintro e W3 ⟨A2, c2, es2, rfl, y, bb⟩
  rw [LU.out]
  replace vA := vA.to bb
  replace x := x.to bb
  replace HB := Lib.hid (HB.out.trans (bb.mono HB.out.size))
  clear bb HUN
  go_wp2_with fail
  have HQ := vequal_v (x.vi HX.out (by decide)) vA (by decide) (by decide) (by decide) (by rw [LF.out]; omega) (by have := H20.out; omega) HE.out
  rw [LF.out] at HQ
  refine HQ.mono ?_
  rintro e W4 ⟨rfl, bb⟩
  replace y := y.to bb
  replace HB := Lib.hid (HB.out.trans (bb.mono HB.out.size))
  clear bb HQ x vA HE HX
  clear y
  go_wp2_with fail
  refine wp_region_plan (S := fun w' => Below W4.heap.size W4 w') [(0, true), (1, true), (2, true), (3, true), (4, true), (5, true), (6, true), (7, true), (8, true), (9, true), (10, false), (11, true), (12, true)] (by kernel_rfl) (by kernel_rfl) (Below.refl _ _).drew ?_
  have hb := (Below.refl W4.heap.size W4).drew
  refine plan_take (v := ?_) rfl (by rfl) ?_ ?_; rotate_left; (focus (intro w' hS; go_simp; try with_reducible rfl)); simp only [Act.put, List.setIfInBounds_toArray, List.set_cons_zero, List.set_cons_succ]
  refine plan_take (v := ?_) rfl (by rfl) ?_ ?_; rotate_left; (focus (intro w' hS; go_simp; try with_reducible rfl)); simp only [Act.put, List.setIfInBounds_toArray, List.set_cons_zero, List.set_cons_succ]
  refine plan_take (v := ?_) rfl (by rfl) ?_ ?_; rotate_left; (focus (intro w' hS; go_simp; try with_reducible rfl)); simp only [Act.put, List.setIfInBounds_toArray, List.set_cons_zero, List.set_cons_succ]
  refine plan_skip rfl (by rfl) ?_; simp only [Act.put, List.setIfInBounds_toArray, List.set_cons_zero, List.set_cons_succ]
  refine plan_skip rfl (by rfl) ?_; simp only [Act.put, List.setIfInBounds_toArray, List.set_cons_zero, List.set_cons_succ]
  refine plan_skip rfl (by rfl) ?_; simp only [Act.put, List.setIfInBounds_toArray, List.set_cons_zero, List.set_cons_succ]
  refine plan_skip rfl (by rfl) ?_; simp only [Act.put, List.setIfInBounds_toArray, List.set_cons_zero, List.set_cons_succ]
  refine plan_skip rfl (by rfl) ?_; simp only [Act.put, List.setIfInBounds_toArray, List.set_cons_zero, List.set_cons_succ]
  refine plan_take (v := ?_) rfl (by rfl) ?_ ?_; rotate_left; (focus (intro w' hS; go_simp; try with_reducible rfl)); simp only [Act.put, List.setIfInBounds_toArray, List.set_cons_zero, List.set_cons_succ]
  refine plan_take (v := ?_) rfl (by rfl) ?_ ?_; rotate_left; (focus (intro w' hS; go_simp; try with_reducible rfl)); simp only [Act.put, List.setIfInBounds_toArray, List.set_cons_zero, List.set_cons_succ]
  refine plan_call rfl (by rfl) (fun K hK => ?_)
  go_simp
  refine (valive_any _).mono ?_
  rintro e V ⟨rfl, bb⟩
  replace hb := hb.trans (bb.mono hb.size)
  refine hK.out _ _ hb ?_
  clear hK K bb
  refine plan_take (v := ?_) rfl (by rfl) ?_ ?_; rotate_left; (focus (intro w' hS; go_simp; try with_reducible rfl)); simp only [Act.put, List.setIfInBounds_toArray, List.set_cons_zero, List.set_cons_succ]
  refine plan_take (v := ?_) rfl (by rfl) ?_ ?_; rotate_left; (focus (intro w' hS; go_simp; try with_reducible rfl)); simp only [Act.put, List.setIfInBounds_toArray, List.set_cons_zero, List.set_cons_succ]
  refine plan_done ?_
  have HE := Lib.hid (HB.out.trans (hb.mono HB.out.size))
  clear hb
  go_wp2
  go_ret
  exact ⟨rfl, HE.out⟩

theorem vlimit_big {A : Option Addr} {c : Nat} {es : List E4} {rs : List Rat} {w : World} (hA : VIn w ⟨A, c, es⟩) {n : Int} (hv : Vi w A c es rs 6) (h20 : rs.length <= 20) (hlng : lngV es = false) (n1 : 65533 <= n) (n2 : n <= 9223372036854775807) (hn : 65536 <= n) :
    Calls Tryz.prog 6 #[.slice A es.length c, .int .i64 n] w fun e w' => e = .returned (.bool true) /\ Below w.heap.size w w' := by
  obtain ⟨W0, hW0⟩ : ∃ W0, W0 = w.alloc (.cells #[.slice A es.length c] 27) := ⟨_, rfl⟩
  have hbw : Below w.heap.size w W0 := by rw [hW0]; exact (Below.refl _ _).alloc (Nat.le_refl _) _
  have hcell : W0.cell? ⟨w.heap.size, 0, none⟩ = some (.slice A es.length c) := by rw [hW0]; exact (Hp.new w _ _).one
  have hg : w.heap.size < W0.heap.size := by rw [hW0]; simp
  have HL := Lib.hid (vlong_any w.heap.size [⟨A, c, es⟩] 1 W0 hg (fun i hi => by
    match i, hi with
    | 0, _ => exact hcell) (fun v hv => by
    obtain rfl : v = ⟨A, c, es⟩ := by simpa using hv
    exact hA.to hbw) (by simp) (r := false) (by simpa using hlng))
  have HW0 := Lib.hid hW0
  have HB := Lib.hid hbw
  clear hW0 hcell hg hlng hA
  have vA := hv.to hbw
  have HLEN := Lib.hid hv.len
  have hN : min n 65536 = ((min n.toNat 65536 : Nat) : Int) := by omega
  have hx : ∀ i, Qm 6 ((fitQ rs n).getD i 0) := fun i => by rw [fitQ_getD (by omega)]; exact hv.qm (by decide) i
  have HX := Lib.hid hx
  have HE : Hid (decide (lexQ (fitQ rs n) rs = 0) = true) := decide_eq_true (lex_same (fitQ_getD (by omega)))
  have h1 : ¬ n < 65533 := by omega
  have HRZ := Lib.hid fun V (h : Vi V A c es rs 6) => vresize_v h (by decide) (by omega) n2
  have HUN := Lib.hid fun V => vunit_v (w := V) (n := n) (k := 65535) n2
  have H20 := Lib.hid h20
  have LF := Lib.hid (fitQ_length rs n)
  have LU := Lib.hid (unitQ_length n 65535)
  have LN : Hid (min n.toNat 65536 = 65536) := by show _ = _; omega
  have hd : decide (n < 65536) = false := decide_eq_false (by omega)
  have hY : Hid ((unitQ n 65535).getD 65535 0 = 1) := by show _ = _; rw [unitQ_in (by omega)]; simp
  clear n2
  clear hv hbw hx h20
  go_enter Tryz.func6, Tryz.ntmps6
  go_wp2_with fail
  rw [<- HW0.out]
  refine HL.out.mono ?_
  rintro e W1 ⟨rfl, bb⟩
  replace vA := vA.to bb
  replace HB := Lib.hid (HB.out.trans (bb.mono HB.out.size))
  clear bb HL HW0
  rw [HLEN.out]
  clear HLEN
  rw [LN.out] at hN LF LU
  go_wp2_with fail
  refine (HRZ.out _ vA).mono ?_
  rintro e W2 ⟨A1, c1, es1, rfl, x, bb⟩
  rw [LF.out]
  replace vA := vA.to bb
  replace HB := Lib.hid (HB.out.trans (bb.mono HB.out.size))
  clear bb HRZ
  go_wp2_with fail
  refine (HUN.out _).mono ?_
  rintro e W3 ⟨A2, c2, es2, rfl, y, bb⟩
  rw [LU.out]
  replace vA := vA.to bb
  replace x := x.to bb
  replace HB := Lib.hid (HB.out.trans (bb.mono HB.out.size))
  clear bb HUN
  go_wp2_with fail
  have HQ := vequal_v (x.vi HX.out (by decide)) vA (by decide) (by decide) (by decide) (by rw [LF.out]; decide) (by have := H20.out; omega) HE.out
  rw [LF.out] at HQ
  refine HQ.mono ?_
  rintro e W4 ⟨rfl, bb⟩
  replace y := y.to bb
  replace HB := Lib.hid (HB.out.trans (bb.mono HB.out.size))
  clear bb HQ x vA HE HX
  have hlt : 65535 < es2.length := by rw [y.len, LU.out]; decide
  obtain ⟨b, o, rfl, hb2, g0, g1, g2, g3⟩ := y.row 65535 hlt
  have q1 := y.el 65535
  rw [hY.out, getD_at' hlt] at q1
  generalize es2[65535] = E at g0 g1 g2 g3 q1
  have F : Hid (∀ V, Below W4.heap.size W4 V -> V.cell? ⟨b, o + 262140, none⟩ = some E.a /\ V.cell? ⟨b, o + 262141, none⟩ = some E.b /\ V.cell? ⟨b, o + 262142, none⟩ = some E.c /\ V.cell? ⟨b, o + 262143, none⟩ = some E.d) := fun V hV =>
    ⟨(hV.cell (p := ⟨b, _, none⟩) hb2).trans g0, (hV.cell (p := ⟨b, _, none⟩) hb2).trans g1, (hV.cell (p := ⟨b, _, none⟩) hb2).trans g2, (hV.cell (p := ⟨b, _, none⟩) hb2).trans g3⟩
  obtain ⟨e1, e2, e3, e4⟩ := E
  dsimp only at F q1
  clear g0 g1 g2 g3 hlt y hb2
  go_wp2_with fail
  refine wp_region_plan (S := fun w' => Below W4.heap.size W4 w') [(0, true), (1, true), (2, true), (3, true), (4, true), (5, true), (6, false), (7, false), (8, true), (9, true), (10, false), (11, true), (12, true)] (by kernel_rfl) (by kernel_rfl) (Below.refl _ _).drew ?_
  have hb := (Below.refl W4.heap.size W4).drew
  refine plan_take (v := ?_) rfl (by rfl) ?_ ?_; rotate_left; (focus (intro w' hS; obtain ⟨f0, f1, f2, f3⟩ := F.out w' hS; go_simp; try with_reducible rfl)); simp only [Act.put, List.setIfInBounds_toArray, List.set_cons_zero, List.set_cons_succ]
  refine plan_take (v := ?_) rfl (by rfl) ?_ ?_; rotate_left; (focus (intro w' hS; obtain ⟨f0, f1, f2, f3⟩ := F.out w' hS; go_simp; try with_reducible rfl)); simp only [Act.put, List.setIfInBounds_toArray, List.set_cons_zero, List.set_cons_succ]
  refine plan_take (v := ?_) rfl (by rfl) ?_ ?_; rotate_left; (focus (intro w' hS; obtain ⟨f0, f1, f2, f3⟩ := F.out w' hS; go_simp; try with_reducible rfl)); simp only [Act.put, List.setIfInBounds_toArray, List.set_cons_zero, List.set_cons_succ]
  refine plan_take (v := ?_) rfl (by rfl) ?_ ?_; rotate_left; (focus (intro w' hS; obtain ⟨f0, f1, f2, f3⟩ := F.out w' hS; go_simp; try with_reducible rfl)); simp only [Act.put, List.setIfInBounds_toArray, List.set_cons_zero, List.set_cons_succ]
  refine plan_take (v := ?_) rfl (by rfl) ?_ ?_; rotate_left; (focus (intro w' hS; obtain ⟨f0, f1, f2, f3⟩ := F.out w' hS; go_simp; try with_reducible rfl)); simp only [Act.put, List.setIfInBounds_toArray, List.set_cons_zero, List.set_cons_succ]
  refine plan_take (v := ?_) rfl (by rfl) ?_ ?_; rotate_left; (focus (intro w' hS; obtain ⟨f0, f1, f2, f3⟩ := F.out w' hS; go_simp; try with_reducible rfl)); simp only [Act.put, List.setIfInBounds_toArray, List.set_cons_zero, List.set_cons_succ]
  refine plan_call rfl (by rfl) (fun K hK => ?_)
  go_simp
  refine (rint_q 1 (by decide) (by decide) _).mono ?_
  rintro e V ⟨x1, x2, x3, x4, rfl, q2, bb⟩
  replace hb := hb.trans (bb.mono hb.size)
  refine hK.out _ _ hb ?_
  clear hK K bb
  refine plan_call rfl (by rfl) (fun K hK => ?_)
  go_simp
  refine (is_q (q1.to hb) q2 (v := true) (decide_eq_true rfl)).mono ?_
  rintro e V ⟨rfl, bb⟩
  replace hb := hb.trans (bb.mono hb.size)
  clear q2
  refine hK.out _ _ hb ?_
  clear hK K bb
  refine plan_take (v := ?_) rfl (by rfl) ?_ ?_; rotate_left; (focus (intro w' hS; obtain ⟨f0, f1, f2, f3⟩ := F.out w' hS; go_simp; try with_reducible rfl)); simp only [Act.put, List.setIfInBounds_toArray, List.set_cons_zero, List.set_cons_succ]
  refine plan_take (v := ?_) rfl (by rfl) ?_ ?_; rotate_left; (focus (intro w' hS; obtain ⟨f0, f1, f2, f3⟩ := F.out w' hS; go_simp; try with_reducible rfl)); simp only [Act.put, List.setIfInBounds_toArray, List.set_cons_zero, List.set_cons_succ]
  refine plan_call rfl (by rfl) (fun K hK => ?_)
  go_simp
  refine (valive_any _).mono ?_
  rintro e V ⟨rfl, bb⟩
  replace hb := hb.trans (bb.mono hb.size)
  refine hK.out _ _ hb ?_
  clear hK K bb
  refine plan_take (v := ?_) rfl (by rfl) ?_ ?_; rotate_left; (focus (intro w' hS; obtain ⟨f0, f1, f2, f3⟩ := F.out w' hS; go_simp; try with_reducible rfl)); simp only [Act.put, List.setIfInBounds_toArray, List.set_cons_zero, List.set_cons_succ]
  refine plan_take (v := ?_) rfl (by rfl) ?_ ?_; rotate_left; (focus (intro w' hS; obtain ⟨f0, f1, f2, f3⟩ := F.out w' hS; go_simp; try with_reducible rfl)); simp only [Act.put, List.setIfInBounds_toArray, List.set_cons_zero, List.set_cons_succ]
  refine plan_done ?_
  have HE := Lib.hid (HB.out.trans (hb.mono HB.out.size))
  clear hb
  go_wp2
  go_ret
  exact ⟨rfl, HE.out⟩

theorem vlimit_any {A : Option Addr} {c : Nat} {es : List E4} {n : Int} {w : World} (hA : VIn w ⟨A, c, es⟩) (n2 : n <= 9223372036854775807) :
    Calls Tryz.prog 6 #[.slice A es.length c, .int .i64 n] w fun e w' => e = .returned (.bool true) /\ Below w.heap.size w w' := by
  cases hl : lngV es with
  | true => exact vlimit_long hA hl
  | false =>
    by_cases h1 : n < 65533
    · exact vlimit_small hA hl h1
    · obtain ⟨rs, hv, h20⟩ := hA.vi hl
      by_cases h2 : n < 65536
      · exact vlimit_mid hA hv h20 hl (by omega) n2 h2
      · exact vlimit_big hA hv h20 hl (by omega) n2 (by omega)
end Go.Proofs.YtcgdbdhhoomgiaaGreat

namespace Go.Proofs.YtcgdbdhhoomgiaaGreat
open Go.ChangeShapes Go.WideShapes Go.ChangeAt Go.RowKit Go.Joins

instance : Inhabited E4 := ⟨E4.z⟩

theorem spot_none {W : World} {a : Addr} {v : Value} (h : W.cell? a = some v) : a.spot = none := by
  unfold World.cell? at h
  split at h
  · split at h
    · cases h
    · rename_i hs
      simpa using hs
  · cases h

theorem open_v {H : Type} {enc : TypeId × Value -> H} {W : World} {base : Nat} {spare : Nat -> Bool} {held : Bool} {r : Reach} {b0 : Nat} {v : Value} {d : DataW H} {p : List MemPlace}
    (hs : ∀ b, spare b = true) (hv : Value.okWide Tryz.prog W r b0 27 v) (h : DataW.Trod enc Tryz.prog W base spare held 27 v d p) :
    ∃ A c es, v = .slice A es.length c /\ VIn W ⟨A, c, es⟩ := by
  obtain ⟨a, len, cap, rfl⟩ := okWide_slice Tryz.underlying27 hv
  obtain ⟨fuel, hf⟩ := h
  replace hf : DataW.trod enc Tryz.prog W base spare held fuel 27 [.slice a len cap] = some (d, p) := hf
  rcases Go.Deep.open_slice Tryz.underlying27 hf with ⟨e1, _⟩ | ⟨ad, l, cp, m, n, D, Pl, e1, hb, hl, hm, hmm, _, hx⟩
  · simp only [List.cons.injEq, Value.slice.injEq, and_true] at e1
    obtain ⟨rfl, rfl, rfl⟩ := e1
    exact ⟨none, 0, [], rfl, ⟨Rq.nil, fun e he => (by cases he), Nat.le_refl _, by decide⟩⟩
  · simp only [List.cons.injEq, Value.slice.injEq, and_true] at e1
    obtain ⟨rfl, rfl, rfl⟩ := e1
    have hlm : len <= m := by rw [hmm]; split <;> omega
    have each : ∀ i, i < len -> ∃ E : E4, (W.cell? (ad.add (i * 4)) = some E.a /\ W.cell? (ad.add (i * 4 + 1)) = some E.b /\ W.cell? (ad.add (i * 4 + 2)) = some E.c /\ W.cell? (ad.add (i * 4 + 3)) = some E.d) /\ ZxE W E := by
      intro i hi
      obtain ⟨cs', h1, h2⟩ := hx i (by omega)
      rw [cellsQ] at h1
      obtain ⟨_, hlen, hcell⟩ := World.cells?_some h1
      match cs', hlen with
      | [c0, c1, c2, c3], _ =>
        have f0 := hcell 0 (by omega)
        have f1 := hcell 1 (by omega)
        have f2 := hcell 2 (by omega)
        have f3 := hcell 3 (by omega)
        rw [Go.Deep.add_add] at f0 f1 f2 f3
        exact ⟨⟨c0, c1, c2, c3⟩, ⟨by simpa using f0, by simpa using f1, by simpa using f2, by simpa using f3⟩, trod_q hs h2⟩
    obtain ⟨E, hE⟩ := Go.Deep.choose_lt each
    have hlen : ((List.range len).map E).length = len := by simp
    refine ⟨some ad, cap, (List.range len).map E, by rw [hlen], ⟨?_, ?_, by show ((List.range len).map E).length <= cap; rw [hlen]; exact hl, by have := hm; unfold maxLen at this; show cap <= _; omega⟩⟩
    · intro k hk
      have hk' : k < len := by rw [<- hlen]; exact hk
      obtain ⟨⟨c0, c1, c2, c3⟩, _⟩ := hE k hk'
      have hsp := spot_none (hE 0 (by omega)).1.1
      obtain ⟨b, o, sp⟩ := ad
      have h0 : (⟨b, o, sp⟩ : Addr).add (0 * 4) = ⟨b, o, sp⟩ := by simp [Addr.add]
      rw [h0] at hsp
      dsimp only at hsp
      subst hsp
      have hadd : ∀ j, (⟨b, o, none⟩ : Addr).add j = ⟨b, o + j, none⟩ := fun j => by
        unfold Addr.add
        by_cases hj : j = 0
        · simp [hj]
        · simp [hj]
      rw [hadd] at c0 c1 c2 c3
      refine ⟨b, o, rfl, World.block_lt_of_cell? W _ c0, ?_⟩
      have he : ((List.range len).map E)[k] = E k := by simp
      show W.cell? ⟨b, o + k * 4, none⟩ = some (((List.range len).map E)[k]).a /\ W.cell? ⟨b, o + k * 4 + 1, none⟩ = some (((List.range len).map E)[k]).b /\ W.cell? ⟨b, o + k * 4 + 2, none⟩ = some (((List.range len).map E)[k]).c /\ W.cell? ⟨b, o + k * 4 + 3, none⟩ = some (((List.range len).map E)[k]).d
      rw [he]
      exact ⟨c0, by rw [<- Nat.add_assoc] at c1; exact c1, by rw [<- Nat.add_assoc] at c2; exact c2, by rw [<- Nat.add_assoc] at c3; exact c3⟩
    · intro e he
      obtain ⟨i, hi, rfl⟩ := List.mem_map.1 he
      exact (hE i (List.mem_range.1 hi)).2
end Go.Proofs.YtcgdbdhhoomgiaaGreat
