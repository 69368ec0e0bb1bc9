/- Parts: 3. -/
import Derived.Test.YtcgdbdhhoomgiabGreatVb18
import Derived.Test.YtcgdbdhhoomgiabGreatVb21
import Derived.Test.YtcgdbdhhoomgiabGreatVb22
import Derived.Test.YtcgdbdhhoomgiabGreatVb23
set_option linter.unusedVariables false
set_option linter.unusedSimpArgs false
set_option maxRecDepth 100000
set_option maxHeartbeats 40000000

namespace Go.Proofs.YtcgdbdhhoomgiabGreat
open Go.RowKit Go.Shelf

theorem flong_o (g o : Nat) (A : Option Addr) (ls : List (Nat × Nat)) (cap : Nat) (w : World) (hA : ∀ (k : Nat), k < ls.length -> A = some ⟨g, o, none⟩ /\ g < w.heap.size)
    (h : ∀ (k : Nat) (hk : k < ls.length), ∃ n1 A1 c1 n2 A2 c2, w.cell? ⟨g, o + k * 4, none⟩ = some (.bool n1) /\ w.cell? ⟨g, o + k * 4 + 1, none⟩ = some (.slice A1 ls[k].1 c1) /\ w.cell? ⟨g, o + k * 4 + 2, none⟩ = some (.bool n2) /\ w.cell? ⟨g, o + k * 4 + 3, none⟩ = some (.slice A2 ls[k].2 c2))
    (hs : ∀ (k : Nat) (hk : k < ls.length), ls[k].1 <= 9223372036854775807 /\ ls[k].2 <= 9223372036854775807) (hl : ls.length <= 1000) {r : Bool} (hr : (ls.any fun p => decide (6 < p.1) || decide (6 < p.2)) = r) :
    Calls Tryz.prog 16 #[.slice A ls.length cap] w fun e w' => e = .returned (.bool r) /\ Below w.heap.size w w' := by
  have H := Lib.hid h
  have HS := Lib.hid hs
  have HA := Lib.hid hA
  have HR := Lib.hid hr
  clear h hs hA hr
  go_enter Tryz.func16, Tryz.ntmps16
  go_wp2
  go_loopw [3] (fun i wr => ∃ k : Nat, i = .int .i64 k /\ k <= ls.length /\ (∀ j (hj : j < ls.length), j < k -> ls[j].1 <= 6 /\ ls[j].2 <= 6) /\ Below w.heap.size w wr) (fun i _ => ls.length - (intOf i).toNat)
  case atStart => exact ⟨0, rfl, Nat.zero_le _, (fun j _ hj => by omega), Below.refl _ _⟩
  case round =>
    obtain ⟨k, rfl, hk, ht, hb⟩ := hrel
    have HT := Lib.hid ht
    have HB := Lib.hid hb
    clear ht hb
    by_cases hlt : k < ls.length
    · obtain ⟨rfl, hg⟩ := HA.out k hlt
      have HG := Lib.hid hg
      clear hg
      have hc := H.out k hlt
      have hm := HS.out k hlt
      have hki : (0 : Int) <= (k : Int) := by omega
      have hki' : (k : Int) < (ls.length : Int) := by omega
      have HN : Hid (ls[k] = ls[k]) := rfl
      obtain ⟨⟨m1, m2⟩, hn⟩ : ∃ m, ls[k] = m := ⟨_, rfl⟩
      rw [hn] at hc hm
      have HN2 := Lib.hid hn
      obtain ⟨n1, A1, c1, n2, A2, c2, hc⟩ := hc
      have HF : Hid (∀ w', Below w.heap.size w w' -> w'.cell? ⟨g, o + k * 4, none⟩ = some (.bool n1) /\ w'.cell? ⟨g, o + k * 4 + 1, none⟩ = some (.slice A1 m1 c1) /\ w'.cell? ⟨g, o + k * 4 + 2, none⟩ = some (.bool n2) /\ w'.cell? ⟨g, o + k * 4 + 3, none⟩ = some (.slice A2 m2 c2)) := fun w' hS =>
        ⟨(hS.cell (p := ⟨g, o + k * 4, none⟩) HG.out).trans hc.1, (hS.cell (p := ⟨g, o + k * 4 + 1, none⟩) HG.out).trans hc.2.1, (hS.cell (p := ⟨g, o + k * 4 + 2, none⟩) HG.out).trans hc.2.2.1, (hS.cell (p := ⟨g, o + k * 4 + 3, none⟩) HG.out).trans hc.2.2.2⟩
      have M1 := Lib.hid hm.1
      have M2 := Lib.hid hm.2
      clear hc hm hn HN
      by_cases ha : 12 < m1 ∨ 12 < m2
      · have HL : Hid ([m1, m2].any (fun n => decide (12 < n)) = true) := by show _ = _; simpa using ha
        have hany : Hid ((ls.any fun p => decide (6 < p.1) || decide (6 < p.2)) = true) := by
          show _ = _
          rw [List.any_eq_true]
          exact ⟨ls[k], List.getElem_mem hlt, by rw [HN2.out]; simp; omega⟩
        clear ha
        go_wp2_with fail
        refine wp_region_plan (S := fun w' => Below w.heap.size w w') [(0, true), (1, true), (2, true), (3, true), (4, true), (5, true), (6, true), (7, true), (8, true), (9, true), (10, false), (11, false), (12, true), (13, true), (14, true), (15, true), (16, true), (17, true), (18, true), (19, true), (20, true), (21, true), (22, true), (23, true), (24, true), (25, true), (26, true), (27, true), (28, true), (29, true), (30, true), (31, true)] (by kernel_rfl) (by kernel_rfl) HB.out.drew ?_
        have hb := HB.out.drew
        refine plan_take (v := ?_) rfl (by rfl) ?_ ?_; rotate_left; (focus (intro w' hS; obtain ⟨f0, f1, f2, f3⟩ := HF.out w' hS; go_simp; try with_reducible rfl)); simp only [Act.put, List.setIfInBounds_toArray, List.set_cons_zero, List.set_cons_succ]
        refine plan_take (v := ?_) rfl (by rfl) ?_ ?_; rotate_left; (focus (intro w' hS; obtain ⟨f0, f1, f2, f3⟩ := HF.out w' hS; go_simp; try with_reducible rfl)); simp only [Act.put, List.setIfInBounds_toArray, List.set_cons_zero, List.set_cons_succ]
        refine plan_take (v := ?_) rfl (by rfl) ?_ ?_; rotate_left; (focus (intro w' hS; obtain ⟨f0, f1, f2, f3⟩ := HF.out w' hS; go_simp; try with_reducible rfl)); simp only [Act.put, List.setIfInBounds_toArray, List.set_cons_zero, List.set_cons_succ]
        refine plan_take (v := ?_) rfl (by rfl) ?_ ?_; rotate_left; (focus (intro w' hS; obtain ⟨f0, f1, f2, f3⟩ := HF.out w' hS; go_simp; try with_reducible rfl)); simp only [Act.put, List.setIfInBounds_toArray, List.set_cons_zero, List.set_cons_succ]
        refine plan_take (v := ?_) rfl (by rfl) ?_ ?_; rotate_left; (focus (intro w' hS; obtain ⟨f0, f1, f2, f3⟩ := HF.out w' hS; go_simp; try with_reducible rfl)); simp only [Act.put, List.setIfInBounds_toArray, List.set_cons_zero, List.set_cons_succ]
        refine plan_take (v := ?_) rfl (by rfl) ?_ ?_; rotate_left; (focus (intro w' hS; obtain ⟨f0, f1, f2, f3⟩ := HF.out w' hS; go_simp; try with_reducible rfl)); simp only [Act.put, List.setIfInBounds_toArray, List.set_cons_zero, List.set_cons_succ]
        refine plan_take (v := ?_) rfl (by rfl) ?_ ?_; rotate_left; (focus (intro w' hS; obtain ⟨f0, f1, f2, f3⟩ := HF.out w' hS; go_simp; try with_reducible rfl)); simp only [Act.put, List.setIfInBounds_toArray, List.set_cons_zero, List.set_cons_succ]
        refine plan_take (v := ?_) rfl (by rfl) ?_ ?_; rotate_left; (focus (intro w' hS; obtain ⟨f0, f1, f2, f3⟩ := HF.out w' hS; go_simp; try with_reducible rfl)); simp only [Act.put, List.setIfInBounds_toArray, List.set_cons_zero, List.set_cons_succ]
        refine plan_take (v := ?_) rfl (by rfl) ?_ ?_; rotate_left; (focus (intro w' hS; obtain ⟨f0, f1, f2, f3⟩ := HF.out w' hS; go_simp; try with_reducible rfl)); simp only [Act.put, List.setIfInBounds_toArray, List.set_cons_zero, List.set_cons_succ]
        refine plan_take (v := ?_) rfl (by rfl) ?_ ?_; rotate_left; (focus (intro w' hS; obtain ⟨f0, f1, f2, f3⟩ := HF.out w' hS; go_simp; try with_reducible rfl)); simp only [Act.put, List.setIfInBounds_toArray, List.set_cons_zero, List.set_cons_succ]
        refine plan_call rfl (by rfl) (fun K hK => ?_)
        go_simp
        have hnew := (Four.new wr (.bool n1) (.slice A1 m1 c1) (.bool n2) (.slice A2 m2 c2) 29).to (Below.refl _ _).drew
        replace hb := hb.alloc hb.size (.cells #[.bool n1, .slice A1 m1 c1, .bool n2, .slice A2 m2 c2] 29)
        refine hK.out _ _ hb ?_
        clear hK K
        refine plan_call rfl (by rfl) (fun K hK => ?_)
        go_simp
        refine (long_2 M1.out M2.out hnew.c1 hnew.c3 HL.out).mono ?_
        rintro e V ⟨rfl, rfl⟩
        refine hK.out _ _ hb ?_
        clear hK K hnew
        refine plan_take (v := ?_) rfl (by rfl) ?_ ?_; rotate_left; (focus (intro w' hS; go_simp; try with_reducible rfl)); simp only [Act.put, List.setIfInBounds_toArray, List.set_cons_zero, List.set_cons_succ]
        refine plan_skip rfl (by rfl) ?_; simp only [Act.put, List.setIfInBounds_toArray, List.set_cons_zero, List.set_cons_succ]
        refine plan_skip rfl (by rfl) ?_; simp only [Act.put, List.setIfInBounds_toArray, List.set_cons_zero, List.set_cons_succ]
        refine plan_skip rfl (by rfl) ?_; simp only [Act.put, List.setIfInBounds_toArray, List.set_cons_zero, List.set_cons_succ]
        refine plan_skip rfl (by rfl) ?_; simp only [Act.put, List.setIfInBounds_toArray, List.set_cons_zero, List.set_cons_succ]
        refine plan_skip rfl (by rfl) ?_; simp only [Act.put, List.setIfInBounds_toArray, List.set_cons_zero, List.set_cons_succ]
        refine plan_skip rfl (by rfl) ?_; simp only [Act.put, List.setIfInBounds_toArray, List.set_cons_zero, List.set_cons_succ]
        refine plan_skip rfl (by rfl) ?_; simp only [Act.put, List.setIfInBounds_toArray, List.set_cons_zero, List.set_cons_succ]
        refine plan_skip rfl (by rfl) ?_; simp only [Act.put, List.setIfInBounds_toArray, List.set_cons_zero, List.set_cons_succ]
        refine plan_take (v := ?_) rfl (by rfl) ?_ ?_; rotate_left; (focus (intro w' hS; go_simp; try with_reducible rfl)); simp only [Act.put, List.setIfInBounds_toArray, List.set_cons_zero, List.set_cons_succ]
        refine plan_take (v := ?_) rfl (by rfl) ?_ ?_; rotate_left; (focus (intro w' hS; go_simp; try with_reducible rfl)); simp only [Act.put, List.setIfInBounds_toArray, List.set_cons_zero, List.set_cons_succ]
        refine plan_skip rfl (by rfl) ?_; simp only [Act.put, List.setIfInBounds_toArray, List.set_cons_zero, List.set_cons_succ]
        refine plan_skip rfl (by rfl) ?_; simp only [Act.put, List.setIfInBounds_toArray, List.set_cons_zero, List.set_cons_succ]
        refine plan_skip rfl (by rfl) ?_; simp only [Act.put, List.setIfInBounds_toArray, List.set_cons_zero, List.set_cons_succ]
        refine plan_skip rfl (by rfl) ?_; simp only [Act.put, List.setIfInBounds_toArray, List.set_cons_zero, List.set_cons_succ]
        refine plan_skip rfl (by rfl) ?_; simp only [Act.put, List.setIfInBounds_toArray, List.set_cons_zero, List.set_cons_succ]
        refine plan_skip rfl (by rfl) ?_; simp only [Act.put, List.setIfInBounds_toArray, List.set_cons_zero, List.set_cons_succ]
        refine plan_skip rfl (by rfl) ?_; simp only [Act.put, List.setIfInBounds_toArray, List.set_cons_zero, List.set_cons_succ]
        refine plan_skip rfl (by rfl) ?_; simp only [Act.put, List.setIfInBounds_toArray, List.set_cons_zero, List.set_cons_succ]
        refine plan_take (v := ?_) rfl (by rfl) ?_ ?_; rotate_left; (focus (intro w' hS; go_simp; try with_reducible rfl)); simp only [Act.put, List.setIfInBounds_toArray, List.set_cons_zero, List.set_cons_succ]
        refine plan_done ?_
        have HE := Lib.hid hb
        clear hb HB
        go_wp2
        go_ret
        exact ⟨by rw [<- HR.out, hany.out]; rfl, HE.out⟩
      · have HL : Hid ([m1, m2].any (fun n => decide (12 < n)) = false) := by show _ = _; simpa using ha
        by_cases hb6 : 6 < m1
        · have hany : Hid ((ls.any fun p => decide (6 < p.1) || decide (6 < p.2)) = true) := by
            show _ = _
            rw [List.any_eq_true]
            exact ⟨ls[k], List.getElem_mem hlt, by rw [HN2.out]; simp; omega⟩
          clear ha
          have d1 : decide ((6 : Int) < (m1 : Int)) = true := by simp; omega
          clear hb6
          go_wp2_with fail
          refine wp_region_plan (S := fun w' => Below w.heap.size w w') [(0, true), (1, true), (2, true), (3, true), (4, true), (5, true), (6, true), (7, true), (8, true), (9, true), (10, false), (11, false), (12, true), (13, true), (14, true), (15, true), (16, true), (17, true), (18, true), (19, true), (20, true), (21, true), (22, true), (23, true), (24, true), (25, true), (26, true), (27, true), (28, true), (29, true), (30, true), (31, true)] (by kernel_rfl) (by kernel_rfl) HB.out.drew ?_
          have hb := HB.out.drew
          refine plan_take (v := ?_) rfl (by rfl) ?_ ?_; rotate_left; (focus (intro w' hS; obtain ⟨f0, f1, f2, f3⟩ := HF.out w' hS; go_simp; try with_reducible rfl)); simp only [Act.put, List.setIfInBounds_toArray, List.set_cons_zero, List.set_cons_succ]
          refine plan_take (v := ?_) rfl (by rfl) ?_ ?_; rotate_left; (focus (intro w' hS; obtain ⟨f0, f1, f2, f3⟩ := HF.out w' hS; go_simp; try with_reducible rfl)); simp only [Act.put, List.setIfInBounds_toArray, List.set_cons_zero, List.set_cons_succ]
          refine plan_take (v := ?_) rfl (by rfl) ?_ ?_; rotate_left; (focus (intro w' hS; obtain ⟨f0, f1, f2, f3⟩ := HF.out w' hS; go_simp; try with_reducible rfl)); simp only [Act.put, List.setIfInBounds_toArray, List.set_cons_zero, List.set_cons_succ]
          refine plan_take (v := ?_) rfl (by rfl) ?_ ?_; rotate_left; (focus (intro w' hS; obtain ⟨f0, f1, f2, f3⟩ := HF.out w' hS; go_simp; try with_reducible rfl)); simp only [Act.put, List.setIfInBounds_toArray, List.set_cons_zero, List.set_cons_succ]
          refine plan_take (v := ?_) rfl (by rfl) ?_ ?_; rotate_left; (focus (intro w' hS; obtain ⟨f0, f1, f2, f3⟩ := HF.out w' hS; go_simp; try with_reducible rfl)); simp only [Act.put, List.setIfInBounds_toArray, List.set_cons_zero, List.set_cons_succ]
          refine plan_take (v := ?_) rfl (by rfl) ?_ ?_; rotate_left; (focus (intro w' hS; obtain ⟨f0, f1, f2, f3⟩ := HF.out w' hS; go_simp; try with_reducible rfl)); simp only [Act.put, List.setIfInBounds_toArray, List.set_cons_zero, List.set_cons_succ]
          refine plan_take (v := ?_) rfl (by rfl) ?_ ?_; rotate_left; (focus (intro w' hS; obtain ⟨f0, f1, f2, f3⟩ := HF.out w' hS; go_simp; try with_reducible rfl)); simp only [Act.put, List.setIfInBounds_toArray, List.set_cons_zero, List.set_cons_succ]
          refine plan_take (v := ?_) rfl (by rfl) ?_ ?_; rotate_left; (focus (intro w' hS; obtain ⟨f0, f1, f2, f3⟩ := HF.out w' hS; go_simp; try with_reducible rfl)); simp only [Act.put, List.setIfInBounds_toArray, List.set_cons_zero, List.set_cons_succ]
          refine plan_take (v := ?_) rfl (by rfl) ?_ ?_; rotate_left; (focus (intro w' hS; obtain ⟨f0, f1, f2, f3⟩ := HF.out w' hS; go_simp; try with_reducible rfl)); simp only [Act.put, List.setIfInBounds_toArray, List.set_cons_zero, List.set_cons_succ]
          refine plan_take (v := ?_) rfl (by rfl) ?_ ?_; rotate_left; (focus (intro w' hS; obtain ⟨f0, f1, f2, f3⟩ := HF.out w' hS; go_simp; try with_reducible rfl)); simp only [Act.put, List.setIfInBounds_toArray, List.set_cons_zero, List.set_cons_succ]
          refine plan_call rfl (by rfl) (fun K hK => ?_)
          go_simp
          have hnew := (Four.new wr (.bool n1) (.slice A1 m1 c1) (.bool n2) (.slice A2 m2 c2) 29).to (Below.refl _ _).drew
          replace hb := hb.alloc hb.size (.cells #[.bool n1, .slice A1 m1 c1, .bool n2, .slice A2 m2 c2] 29)
          refine hK.out _ _ hb ?_
          clear hK K
          refine plan_call rfl (by rfl) (fun K hK => ?_)
          go_simp
          refine (long_2 M1.out M2.out hnew.c1 hnew.c3 HL.out).mono ?_
          rintro e V ⟨rfl, rfl⟩
          refine hK.out _ _ hb ?_
          clear hK K hnew
          refine plan_take (v := ?_) rfl (by rfl) ?_ ?_; rotate_left; (focus (intro w' hS; go_simp; try with_reducible rfl)); simp only [Act.put, List.setIfInBounds_toArray, List.set_cons_zero, List.set_cons_succ]
          refine plan_take (v := ?_) rfl (by rfl) ?_ ?_; rotate_left; (focus (intro w' hS; go_simp; try with_reducible rfl)); simp only [Act.put, List.setIfInBounds_toArray, List.set_cons_zero, List.set_cons_succ]
          refine plan_take (v := ?_) rfl (by rfl) ?_ ?_; rotate_left; (focus (intro w' hS; go_simp; try with_reducible rfl)); simp only [Act.put, List.setIfInBounds_toArray, List.set_cons_zero, List.set_cons_succ]
          refine plan_take (v := ?_) rfl (by rfl) ?_ ?_; rotate_left; (focus (intro w' hS; obtain ⟨f0, f1, f2, f3⟩ := HF.out w' hS; go_simp; try with_reducible rfl)); simp only [Act.put, List.setIfInBounds_toArray, List.set_cons_zero, List.set_cons_succ]
          refine plan_take (v := ?_) rfl (by rfl) ?_ ?_; rotate_left; (focus (intro w' hS; obtain ⟨f0, f1, f2, f3⟩ := HF.out w' hS; go_simp; try with_reducible rfl)); simp only [Act.put, List.setIfInBounds_toArray, List.set_cons_zero, List.set_cons_succ]
          refine plan_take (v := ?_) rfl (by rfl) ?_ ?_; rotate_left; (focus (intro w' hS; obtain ⟨f0, f1, f2, f3⟩ := HF.out w' hS; go_simp; try with_reducible rfl)); simp only [Act.put, List.setIfInBounds_toArray, List.set_cons_zero, List.set_cons_succ]
          refine plan_take (v := ?_) rfl (by rfl) ?_ ?_; rotate_left; (focus (intro w' hS; obtain ⟨f0, f1, f2, f3⟩ := HF.out w' hS; go_simp; try with_reducible rfl)); simp only [Act.put, List.setIfInBounds_toArray, List.set_cons_zero, List.set_cons_succ]
          refine plan_take (v := ?_) rfl (by rfl) ?_ ?_; rotate_left; (focus (intro w' hS; go_simp; try with_reducible rfl)); simp only [Act.put, List.setIfInBounds_toArray, List.set_cons_zero, List.set_cons_succ]
          refine plan_take (v := ?_) rfl (by rfl) ?_ ?_; rotate_left; (focus (intro w' hS; go_simp; try with_reducible rfl)); simp only [Act.put, List.setIfInBounds_toArray, List.set_cons_zero, List.set_cons_succ]
          refine plan_take (v := ?_) rfl (by rfl) ?_ ?_; rotate_left; (focus (intro w' hS; go_simp; try with_reducible rfl)); simp only [Act.put, List.setIfInBounds_toArray, List.set_cons_zero, List.set_cons_succ]
          refine plan_take (v := ?_) rfl (by rfl) ?_ ?_; rotate_left; (focus (intro w' hS; go_simp; try with_reducible rfl)); simp only [Act.put, List.setIfInBounds_toArray, List.set_cons_zero, List.set_cons_succ]
          refine plan_skip rfl (by rfl) ?_; simp only [Act.put, List.setIfInBounds_toArray, List.set_cons_zero, List.set_cons_succ]
          refine plan_skip rfl (by rfl) ?_; simp only [Act.put, List.setIfInBounds_toArray, List.set_cons_zero, List.set_cons_succ]
          refine plan_skip rfl (by rfl) ?_; simp only [Act.put, List.setIfInBounds_toArray, List.set_cons_zero, List.set_cons_succ]
          refine plan_skip rfl (by rfl) ?_; simp only [Act.put, List.setIfInBounds_toArray, List.set_cons_zero, List.set_cons_succ]
          refine plan_skip rfl (by rfl) ?_; simp only [Act.put, List.setIfInBounds_toArray, List.set_cons_zero, List.set_cons_succ]
          refine plan_skip rfl (by rfl) ?_; simp only [Act.put, List.setIfInBounds_toArray, List.set_cons_zero, List.set_cons_succ]
          refine plan_skip rfl (by rfl) ?_; simp only [Act.put, List.setIfInBounds_toArray, List.set_cons_zero, List.set_cons_succ]
          refine plan_skip rfl (by rfl) ?_; simp only [Act.put, List.setIfInBounds_toArray, List.set_cons_zero, List.set_cons_succ]
          refine plan_take (v := ?_) rfl (by rfl) ?_ ?_; rotate_left; (focus (intro w' hS; go_simp; try with_reducible rfl)); simp only [Act.put, List.setIfInBounds_toArray, List.set_cons_zero, List.set_cons_succ]
          refine plan_done ?_
          have HE := Lib.hid hb
          clear hb HB
          go_wp2
          go_ret
          exact ⟨by rw [<- HR.out, hany.out]; rfl, HE.out⟩
        · by_cases hc6 : 6 < m2
          · have hany : Hid ((ls.any fun p => decide (6 < p.1) || decide (6 < p.2)) = true) := by
              show _ = _
              rw [List.any_eq_true]
              exact ⟨ls[k], List.getElem_mem hlt, by rw [HN2.out]; simp; omega⟩
            clear ha
            have d1 : decide ((6 : Int) < (m1 : Int)) = false := by simp; omega
            have d2 : decide ((6 : Int) < (m2 : Int)) = true := by simp; omega
            clear hb6 hc6
            go_wp2_with fail
            refine wp_region_plan (S := fun w' => Below w.heap.size w w') [(0, true), (1, true), (2, true), (3, true), (4, true), (5, true), (6, true), (7, true), (8, true), (9, true), (10, false), (11, false), (12, true), (13, true), (14, true), (15, true), (16, true), (17, true), (18, true), (19, true), (20, true), (21, true), (22, true), (23, true), (24, true), (25, true), (26, true), (27, true), (28, true), (29, true), (30, true), (31, true)] (by kernel_rfl) (by kernel_rfl) HB.out.drew ?_
            have hb := HB.out.drew
            refine plan_take (v := ?_) rfl (by rfl) ?_ ?_; rotate_left; (focus (intro w' hS; obtain ⟨f0, f1, f2, f3⟩ := HF.out w' hS; go_simp; try with_reducible rfl)); simp only [Act.put, List.setIfInBounds_toArray, List.set_cons_zero, List.set_cons_succ]
            refine plan_take (v := ?_) rfl (by rfl) ?_ ?_; rotate_left; (focus (intro w' hS; obtain ⟨f0, f1, f2, f3⟩ := HF.out w' hS; go_simp; try with_reducible rfl)); simp only [Act.put, List.setIfInBounds_toArray, List.set_cons_zero, List.set_cons_succ]
            refine plan_take (v := ?_) rfl (by rfl) ?_ ?_; rotate_left; (focus (intro w' hS; obtain ⟨f0, f1, f2, f3⟩ := HF.out w' hS; go_simp; try with_reducible rfl)); simp only [Act.put, List.setIfInBounds_toArray, List.set_cons_zero, List.set_cons_succ]
            refine plan_take (v := ?_) rfl (by rfl) ?_ ?_; rotate_left; (focus (intro w' hS; obtain ⟨f0, f1, f2, f3⟩ := HF.out w' hS; go_simp; try with_reducible rfl)); simp only [Act.put, List.setIfInBounds_toArray, List.set_cons_zero, List.set_cons_succ]
            refine plan_take (v := ?_) rfl (by rfl) ?_ ?_; rotate_left; (focus (intro w' hS; obtain ⟨f0, f1, f2, f3⟩ := HF.out w' hS; go_simp; try with_reducible rfl)); simp only [Act.put, List.setIfInBounds_toArray, List.set_cons_zero, List.set_cons_succ]
            refine plan_take (v := ?_) rfl (by rfl) ?_ ?_; rotate_left; (focus (intro w' hS; obtain ⟨f0, f1, f2, f3⟩ := HF.out w' hS; go_simp; try with_reducible rfl)); simp only [Act.put, List.setIfInBounds_toArray, List.set_cons_zero, List.set_cons_succ]
            refine plan_take (v := ?_) rfl (by rfl) ?_ ?_; rotate_left; (focus (intro w' hS; obtain ⟨f0, f1, f2, f3⟩ := HF.out w' hS; go_simp; try with_reducible rfl)); simp only [Act.put, List.setIfInBounds_toArray, List.set_cons_zero, List.set_cons_succ]
            refine plan_take (v := ?_) rfl (by rfl) ?_ ?_; rotate_left; (focus (intro w' hS; obtain ⟨f0, f1, f2, f3⟩ := HF.out w' hS; go_simp; try with_reducible rfl)); simp only [Act.put, List.setIfInBounds_toArray, List.set_cons_zero, List.set_cons_succ]
            refine plan_take (v := ?_) rfl (by rfl) ?_ ?_; rotate_left; (focus (intro w' hS; obtain ⟨f0, f1, f2, f3⟩ := HF.out w' hS; go_simp; try with_reducible rfl)); simp only [Act.put, List.setIfInBounds_toArray, List.set_cons_zero, List.set_cons_succ]
            refine plan_take (v := ?_) rfl (by rfl) ?_ ?_; rotate_left; (focus (intro w' hS; obtain ⟨f0, f1, f2, f3⟩ := HF.out w' hS; go_simp; try with_reducible rfl)); simp only [Act.put, List.setIfInBounds_toArray, List.set_cons_zero, List.set_cons_succ]
            refine plan_call rfl (by rfl) (fun K hK => ?_)
            go_simp
            have hnew := (Four.new wr (.bool n1) (.slice A1 m1 c1) (.bool n2) (.slice A2 m2 c2) 29).to (Below.refl _ _).drew
            replace hb := hb.alloc hb.size (.cells #[.bool n1, .slice A1 m1 c1, .bool n2, .slice A2 m2 c2] 29)
            refine hK.out _ _ hb ?_
            clear hK K
            refine plan_call rfl (by rfl) (fun K hK => ?_)
            go_simp
            refine (long_2 M1.out M2.out hnew.c1 hnew.c3 HL.out).mono ?_
            rintro e V ⟨rfl, rfl⟩
            refine hK.out _ _ hb ?_
            clear hK K hnew
            refine plan_take (v := ?_) rfl (by rfl) ?_ ?_; rotate_left; (focus (intro w' hS; go_simp; try with_reducible rfl)); simp only [Act.put, List.setIfInBounds_toArray, List.set_cons_zero, List.set_cons_succ]
            refine plan_take (v := ?_) rfl (by rfl) ?_ ?_; rotate_left; (focus (intro w' hS; go_simp; try with_reducible rfl)); simp only [Act.put, List.setIfInBounds_toArray, List.set_cons_zero, List.set_cons_succ]
            refine plan_take (v := ?_) rfl (by rfl) ?_ ?_; rotate_left; (focus (intro w' hS; go_simp; try with_reducible rfl)); simp only [Act.put, List.setIfInBounds_toArray, List.set_cons_zero, List.set_cons_succ]
            refine plan_take (v := ?_) rfl (by rfl) ?_ ?_; rotate_left; (focus (intro w' hS; obtain ⟨f0, f1, f2, f3⟩ := HF.out w' hS; go_simp; try with_reducible rfl)); simp only [Act.put, List.setIfInBounds_toArray, List.set_cons_zero, List.set_cons_succ]
            refine plan_take (v := ?_) rfl (by rfl) ?_ ?_; rotate_left; (focus (intro w' hS; obtain ⟨f0, f1, f2, f3⟩ := HF.out w' hS; go_simp; try with_reducible rfl)); simp only [Act.put, List.setIfInBounds_toArray, List.set_cons_zero, List.set_cons_succ]
            refine plan_take (v := ?_) rfl (by rfl) ?_ ?_; rotate_left; (focus (intro w' hS; obtain ⟨f0, f1, f2, f3⟩ := HF.out w' hS; go_simp; try with_reducible rfl)); simp only [Act.put, List.setIfInBounds_toArray, List.set_cons_zero, List.set_cons_succ]
            refine plan_take (v := ?_) rfl (by rfl) ?_ ?_; rotate_left; (focus (intro w' hS; obtain ⟨f0, f1, f2, f3⟩ := HF.out w' hS; go_simp; try with_reducible rfl)); simp only [Act.put, List.setIfInBounds_toArray, List.set_cons_zero, List.set_cons_succ]
            refine plan_take (v := ?_) rfl (by rfl) ?_ ?_; rotate_left; (focus (intro w' hS; go_simp; try with_reducible rfl)); simp only [Act.put, List.setIfInBounds_toArray, List.set_cons_zero, List.set_cons_succ]
            refine plan_take (v := ?_) rfl (by rfl) ?_ ?_; rotate_left; (focus (intro w' hS; go_simp; try with_reducible rfl)); simp only [Act.put, List.setIfInBounds_toArray, List.set_cons_zero, List.set_cons_succ]
            refine plan_take (v := ?_) rfl (by rfl) ?_ ?_; rotate_left; (focus (intro w' hS; go_simp; try with_reducible rfl)); simp only [Act.put, List.setIfInBounds_toArray, List.set_cons_zero, List.set_cons_succ]
            refine plan_take (v := ?_) rfl (by rfl) ?_ ?_; rotate_left; (focus (intro w' hS; go_simp; try with_reducible rfl)); simp only [Act.put, List.setIfInBounds_toArray, List.set_cons_zero, List.set_cons_succ]
            refine plan_take (v := ?_) rfl (by rfl) ?_ ?_; rotate_left; (focus (intro w' hS; go_simp; try with_reducible rfl)); simp only [Act.put, List.setIfInBounds_toArray, List.set_cons_zero, List.set_cons_succ]
            refine plan_take (v := ?_) rfl (by rfl) ?_ ?_; rotate_left; (focus (intro w' hS; go_simp; try with_reducible rfl)); simp only [Act.put, List.setIfInBounds_toArray, List.set_cons_zero, List.set_cons_succ]
            refine plan_take (v := ?_) rfl (by rfl) ?_ ?_; rotate_left; (focus (intro w' hS; obtain ⟨f0, f1, f2, f3⟩ := HF.out w' hS; go_simp; try with_reducible rfl)); simp only [Act.put, List.setIfInBounds_toArray, List.set_cons_zero, List.set_cons_succ]
            refine plan_take (v := ?_) rfl (by rfl) ?_ ?_; rotate_left; (focus (intro w' hS; obtain ⟨f0, f1, f2, f3⟩ := HF.out w' hS; go_simp; try with_reducible rfl)); simp only [Act.put, List.setIfInBounds_toArray, List.set_cons_zero, List.set_cons_succ]
            refine plan_take (v := ?_) rfl (by rfl) ?_ ?_; rotate_left; (focus (intro w' hS; obtain ⟨f0, f1, f2, f3⟩ := HF.out w' hS; go_simp; try with_reducible rfl)); simp only [Act.put, List.setIfInBounds_toArray, List.set_cons_zero, List.set_cons_succ]
            refine plan_take (v := ?_) rfl (by rfl) ?_ ?_; rotate_left; (focus (intro w' hS; obtain ⟨f0, f1, f2, f3⟩ := HF.out w' hS; go_simp; try with_reducible rfl)); simp only [Act.put, List.setIfInBounds_toArray, List.set_cons_zero, List.set_cons_succ]
            refine plan_take (v := ?_) rfl (by rfl) ?_ ?_; rotate_left; (focus (intro w' hS; go_simp; try with_reducible rfl)); simp only [Act.put, List.setIfInBounds_toArray, List.set_cons_zero, List.set_cons_succ]
            refine plan_take (v := ?_) rfl (by rfl) ?_ ?_; rotate_left; (focus (intro w' hS; go_simp; try with_reducible rfl)); simp only [Act.put, List.setIfInBounds_toArray, List.set_cons_zero, List.set_cons_succ]
            refine plan_take (v := ?_) rfl (by rfl) ?_ ?_; rotate_left; (focus (intro w' hS; go_simp; try with_reducible rfl)); simp only [Act.put, List.setIfInBounds_toArray, List.set_cons_zero, List.set_cons_succ]
            refine plan_done ?_
            have HE := Lib.hid hb
            clear hb HB
            go_wp2
            go_ret
            exact ⟨by rw [<- HR.out, hany.out]; rfl, HE.out⟩
          · have hok : Hid (m1 <= 6 /\ m2 <= 6) := by show _ /\ _; omega
            clear ha
            have d1 : decide ((6 : Int) < (m1 : Int)) = false := by simp; omega
            have d2 : decide ((6 : Int) < (m2 : Int)) = false := by simp; omega
            clear hb6 hc6
            go_wp2_with fail
            refine wp_region_plan (S := fun w' => Below w.heap.size w w') [(0, true), (1, true), (2, true), (3, true), (4, true), (5, true), (6, true), (7, true), (8, true), (9, true), (10, false), (11, false), (12, true), (13, true), (14, true), (15, true), (16, true), (17, true), (18, true), (19, true), (20, true), (21, true), (22, true), (23, true), (24, true), (25, true), (26, true), (27, true), (28, true), (29, true), (30, true), (31, true)] (by kernel_rfl) (by kernel_rfl) HB.out.drew ?_
            have hb := HB.out.drew
            refine plan_take (v := ?_) rfl (by rfl) ?_ ?_; rotate_left; (focus (intro w' hS; obtain ⟨f0, f1, f2, f3⟩ := HF.out w' hS; go_simp; try with_reducible rfl)); simp only [Act.put, List.setIfInBounds_toArray, List.set_cons_zero, List.set_cons_succ]
            refine plan_take (v := ?_) rfl (by rfl) ?_ ?_; rotate_left; (focus (intro w' hS; obtain ⟨f0, f1, f2, f3⟩ := HF.out w' hS; go_simp; try with_reducible rfl)); simp only [Act.put, List.setIfInBounds_toArray, List.set_cons_zero, List.set_cons_succ]
            refine plan_take (v := ?_) rfl (by rfl) ?_ ?_; rotate_left; (focus (intro w' hS; obtain ⟨f0, f1, f2, f3⟩ := HF.out w' hS; go_simp; try with_reducible rfl)); simp only [Act.put, List.setIfInBounds_toArray, List.set_cons_zero, List.set_cons_succ]
            refine plan_take (v := ?_) rfl (by rfl) ?_ ?_; rotate_left; (focus (intro w' hS; obtain ⟨f0, f1, f2, f3⟩ := HF.out w' hS; go_simp; try with_reducible rfl)); simp only [Act.put, List.setIfInBounds_toArray, List.set_cons_zero, List.set_cons_succ]
            refine plan_take (v := ?_) rfl (by rfl) ?_ ?_; rotate_left; (focus (intro w' hS; obtain ⟨f0, f1, f2, f3⟩ := HF.out w' hS; go_simp; try with_reducible rfl)); simp only [Act.put, List.setIfInBounds_toArray, List.set_cons_zero, List.set_cons_succ]
            refine plan_take (v := ?_) rfl (by rfl) ?_ ?_; rotate_left; (focus (intro w' hS; obtain ⟨f0, f1, f2, f3⟩ := HF.out w' hS; go_simp; try with_reducible rfl)); simp only [Act.put, List.setIfInBounds_toArray, List.set_cons_zero, List.set_cons_succ]
            refine plan_take (v := ?_) rfl (by rfl) ?_ ?_; rotate_left; (focus (intro w' hS; obtain ⟨f0, f1, f2, f3⟩ := HF.out w' hS; go_simp; try with_reducible rfl)); simp only [Act.put, List.setIfInBounds_toArray, List.set_cons_zero, List.set_cons_succ]
            refine plan_take (v := ?_) rfl (by rfl) ?_ ?_; rotate_left; (focus (intro w' hS; obtain ⟨f0, f1, f2, f3⟩ := HF.out w' hS; go_simp; try with_reducible rfl)); simp only [Act.put, List.setIfInBounds_toArray, List.set_cons_zero, List.set_cons_succ]
            refine plan_take (v := ?_) rfl (by rfl) ?_ ?_; rotate_left; (focus (intro w' hS; obtain ⟨f0, f1, f2, f3⟩ := HF.out w' hS; go_simp; try with_reducible rfl)); simp only [Act.put, List.setIfInBounds_toArray, List.set_cons_zero, List.set_cons_succ]
            refine plan_take (v := ?_) rfl (by rfl) ?_ ?_; rotate_left; (focus (intro w' hS; obtain ⟨f0, f1, f2, f3⟩ := HF.out w' hS; go_simp; try with_reducible rfl)); simp only [Act.put, List.setIfInBounds_toArray, List.set_cons_zero, List.set_cons_succ]
            refine plan_call rfl (by rfl) (fun K hK => ?_)
            go_simp
            have hnew := (Four.new wr (.bool n1) (.slice A1 m1 c1) (.bool n2) (.slice A2 m2 c2) 29).to (Below.refl _ _).drew
            replace hb := hb.alloc hb.size (.cells #[.bool n1, .slice A1 m1 c1, .bool n2, .slice A2 m2 c2] 29)
            refine hK.out _ _ hb ?_
            clear hK K
            refine plan_call rfl (by rfl) (fun K hK => ?_)
            go_simp
            refine (long_2 M1.out M2.out hnew.c1 hnew.c3 HL.out).mono ?_
            rintro e V ⟨rfl, rfl⟩
            refine hK.out _ _ hb ?_
            clear hK K hnew
            refine plan_take (v := ?_) rfl (by rfl) ?_ ?_; rotate_left; (focus (intro w' hS; go_simp; try with_reducible rfl)); simp only [Act.put, List.setIfInBounds_toArray, List.set_cons_zero, List.set_cons_succ]
            refine plan_take (v := ?_) rfl (by rfl) ?_ ?_; rotate_left; (focus (intro w' hS; go_simp; try with_reducible rfl)); simp only [Act.put, List.setIfInBounds_toArray, List.set_cons_zero, List.set_cons_succ]
            refine plan_take (v := ?_) rfl (by rfl) ?_ ?_; rotate_left; (focus (intro w' hS; go_simp; try with_reducible rfl)); simp only [Act.put, List.setIfInBounds_toArray, List.set_cons_zero, List.set_cons_succ]
            refine plan_take (v := ?_) rfl (by rfl) ?_ ?_; rotate_left; (focus (intro w' hS; obtain ⟨f0, f1, f2, f3⟩ := HF.out w' hS; go_simp; try with_reducible rfl)); simp only [Act.put, List.setIfInBounds_toArray, List.set_cons_zero, List.set_cons_succ]
            refine plan_take (v := ?_) rfl (by rfl) ?_ ?_; rotate_left; (focus (intro w' hS; obtain ⟨f0, f1, f2, f3⟩ := HF.out w' hS; go_simp; try with_reducible rfl)); simp only [Act.put, List.setIfInBounds_toArray, List.set_cons_zero, List.set_cons_succ]
            refine plan_take (v := ?_) rfl (by rfl) ?_ ?_; rotate_left; (focus (intro w' hS; obtain ⟨f0, f1, f2, f3⟩ := HF.out w' hS; go_simp; try with_reducible rfl)); simp only [Act.put, List.setIfInBounds_toArray, List.set_cons_zero, List.set_cons_succ]
            refine plan_take (v := ?_) rfl (by rfl) ?_ ?_; rotate_left; (focus (intro w' hS; obtain ⟨f0, f1, f2, f3⟩ := HF.out w' hS; go_simp; try with_reducible rfl)); simp only [Act.put, List.setIfInBounds_toArray, List.set_cons_zero, List.set_cons_succ]
            refine plan_take (v := ?_) rfl (by rfl) ?_ ?_; rotate_left; (focus (intro w' hS; go_simp; try with_reducible rfl)); simp only [Act.put, List.setIfInBounds_toArray, List.set_cons_zero, List.set_cons_succ]
            refine plan_take (v := ?_) rfl (by rfl) ?_ ?_; rotate_left; (focus (intro w' hS; go_simp; try with_reducible rfl)); simp only [Act.put, List.setIfInBounds_toArray, List.set_cons_zero, List.set_cons_succ]
            refine plan_take (v := ?_) rfl (by rfl) ?_ ?_; rotate_left; (focus (intro w' hS; go_simp; try with_reducible rfl)); simp only [Act.put, List.setIfInBounds_toArray, List.set_cons_zero, List.set_cons_succ]
            refine plan_take (v := ?_) rfl (by rfl) ?_ ?_; rotate_left; (focus (intro w' hS; go_simp; try with_reducible rfl)); simp only [Act.put, List.setIfInBounds_toArray, List.set_cons_zero, List.set_cons_succ]
            refine plan_take (v := ?_) rfl (by rfl) ?_ ?_; rotate_left; (focus (intro w' hS; go_simp; try with_reducible rfl)); simp only [Act.put, List.setIfInBounds_toArray, List.set_cons_zero, List.set_cons_succ]
            refine plan_take (v := ?_) rfl (by rfl) ?_ ?_; rotate_left; (focus (intro w' hS; go_simp; try with_reducible rfl)); simp only [Act.put, List.setIfInBounds_toArray, List.set_cons_zero, List.set_cons_succ]
            refine plan_take (v := ?_) rfl (by rfl) ?_ ?_; rotate_left; (focus (intro w' hS; obtain ⟨f0, f1, f2, f3⟩ := HF.out w' hS; go_simp; try with_reducible rfl)); simp only [Act.put, List.setIfInBounds_toArray, List.set_cons_zero, List.set_cons_succ]
            refine plan_take (v := ?_) rfl (by rfl) ?_ ?_; rotate_left; (focus (intro w' hS; obtain ⟨f0, f1, f2, f3⟩ := HF.out w' hS; go_simp; try with_reducible rfl)); simp only [Act.put, List.setIfInBounds_toArray, List.set_cons_zero, List.set_cons_succ]
            refine plan_take (v := ?_) rfl (by rfl) ?_ ?_; rotate_left; (focus (intro w' hS; obtain ⟨f0, f1, f2, f3⟩ := HF.out w' hS; go_simp; try with_reducible rfl)); simp only [Act.put, List.setIfInBounds_toArray, List.set_cons_zero, List.set_cons_succ]
            refine plan_take (v := ?_) rfl (by rfl) ?_ ?_; rotate_left; (focus (intro w' hS; obtain ⟨f0, f1, f2, f3⟩ := HF.out w' hS; go_simp; try with_reducible rfl)); simp only [Act.put, List.setIfInBounds_toArray, List.set_cons_zero, List.set_cons_succ]
            refine plan_take (v := ?_) rfl (by rfl) ?_ ?_; rotate_left; (focus (intro w' hS; go_simp; try with_reducible rfl)); simp only [Act.put, List.setIfInBounds_toArray, List.set_cons_zero, List.set_cons_succ]
            refine plan_take (v := ?_) rfl (by rfl) ?_ ?_; rotate_left; (focus (intro w' hS; go_simp; try with_reducible rfl)); simp only [Act.put, List.setIfInBounds_toArray, List.set_cons_zero, List.set_cons_succ]
            refine plan_take (v := ?_) rfl (by rfl) ?_ ?_; rotate_left; (focus (intro w' hS; go_simp; try with_reducible rfl)); simp only [Act.put, List.setIfInBounds_toArray, List.set_cons_zero, List.set_cons_succ]
            refine plan_done ?_
            have HE := Lib.hid hb
            clear hb HB
            go_wp2
            go_roundw
            case rel => exact ⟨k + 1, by simp, by omega, (fun j hj hjk => by
              rcases Nat.lt_or_ge j k with h1 | h1
              · exact HT.out j hj h1
              · obtain rfl : j = k := by omega
                rw [HN2.out]; exact hok.out), HE.out⟩
            case measure => simp [intOf]; omega
    · obtain rfl : k = ls.length := by omega
      clear hlt
      go_wp2
      go_ret
      refine ⟨?_, HB.out⟩
      have : (ls.any fun p => decide (6 < p.1) || decide (6 < p.2)) = false := by
        rw [List.any_eq_false]
        intro x hx
        obtain ⟨j, hj, rfl⟩ := List.getElem_of_mem hx
        have := HT.out j hj hj
        simp; omega
      rw [<- HR.out, this]
      rfl


/-- An element that comes in: its words are there. -/
def ZxE (W : World) (e : E4) : Prop := Zx2 W e.a e.b /\ Zx2 W e.c e.d
theorem Zx2.to {W V : World} {x y : Value} (h : Zx2 W x y) (hb : Below W.heap.size W V) : Zx2 V x y := by
  obtain ⟨n, A, c, xs, h1, h2, h3, h4⟩ := h
  exact ⟨n, A, c, xs, h1, h2, h3.to hb, h4⟩
theorem ZxE.to {W V : World} {e : E4} (h : ZxE W e) (hb : Below W.heap.size W V) : ZxE V e := ⟨h.1.to hb, h.2.to hb⟩
theorem ZxE.fq {W : World} {e : E4} (h : ZxE W e) : e.fq := by
  obtain ⟨⟨n, A, c, xs, h1, h2, _⟩, ⟨m, B, d, ys, h3, h4, _⟩⟩ := h
  exact ⟨⟨n, A, xs.length, c, h1, h2⟩, ⟨m, B, ys.length, d, h3, h4⟩⟩
def vlen : Value -> Nat
  | .slice _ n _ => n
  | _ => 0
def lngE (e : E4) : Bool := decide (6 < vlen e.b) || decide (6 < vlen e.d)
def lngV (es : List E4) : Bool := decide (20 < es.length) || es.any lngE

/-- A vector that comes in. -/
structure VA where
  A : Option Addr
  c : Nat
  es : List E4
structure VIn (W : World) (v : VA) : Prop where
  row : Rq W W.heap.size v.A v.es
  el : ∀ e ∈ v.es, ZxE W e
  cap : v.es.length <= v.c
  c63 : v.c <= 9223372036854775807
theorem VIn.to {W V : World} {v : VA} (h : VIn W v) (hb : Below W.heap.size W V) : VIn V v := ⟨h.row.to hb, fun e he => (h.el e he).to hb, h.cap, h.c63⟩

theorem flong_v {w : World} {v : VA} (h : VIn w v) (hl : v.es.length <= 1000) {r : Bool} (hr : v.es.any lngE = r) :
    Calls Tryz.prog 16 #[.slice v.A v.es.length v.c] w fun e w' => e = .returned (.bool r) /\ Below w.heap.size w w' := by
  obtain ⟨A, c, es⟩ := v
  obtain ⟨hrow, hel, hcap, hc63⟩ := h
  dsimp only at hrow hel hcap hc63 hl hr ⊢
  have key : ∃ g o, ∀ k, k < es.length -> A = some ⟨g, o, none⟩ /\ g < w.heap.size := by
    by_cases h0 : 0 < es.length
    · obtain ⟨b, o, rfl, hb, _⟩ := hrow 0 h0
      exact ⟨b, o, fun k _ => ⟨rfl, hb⟩⟩
    · exact ⟨0, 0, fun k hk => by omega⟩
  obtain ⟨g, o, key⟩ := key
  have h1 := flong_o g o A (es.map fun e => (vlen e.b, vlen e.d)) c w (fun k hk => key k (by simpa using hk)) (fun k hk => by
    have hk' : k < es.length := by simpa using hk
    obtain ⟨b, o', e1, hb, c0, c1, c2, c3⟩ := hrow k hk'
    obtain ⟨e2, _⟩ := key k hk'
    rw [e1] at e2
    simp only [Option.some.injEq, Addr.mk.injEq, and_true] at e2
    obtain ⟨rfl, rfl⟩ := e2
    obtain ⟨⟨n, A1, d1, xs, f1, f2, _⟩, ⟨m, A2, d2, ys, f3, f4, _⟩⟩ := hel _ (List.getElem_mem hk')
    rw [f1] at c0
    rw [f2] at c1
    rw [f3] at c2
    rw [f4] at c3
    refine ⟨n, A1, d1, m, A2, d2, c0, ?_, c2, ?_⟩
    · rw [c1]; simp [f2, vlen]
    · rw [c3]; simp [f4, vlen]) (fun k hk => by
    have hk' : k < es.length := by simpa using hk
    obtain ⟨⟨n, A1, d1, xs, f1, f2, _, _, g1, g2⟩, ⟨m, A2, d2, ys, f3, f4, _, _, g3, g4⟩⟩ := hel _ (List.getElem_mem hk')
    simp only [List.getElem_map, f2, f4, vlen]
    exact ⟨by omega, by omega⟩) (by simpa using hl) (r := r) (by rw [<- hr, List.any_map]; rfl)
  rw [List.length_map] at h1
  exact h1

theorem vlong_any (g : Nat) (vs : List VA) (cap : Nat) (w : World) (hg : g < w.heap.size) (hc : ∀ i (h : i < vs.length), w.cell? ⟨g, i, none⟩ = some (.slice vs[i].A vs[i].es.length vs[i].c)) (hv : ∀ v ∈ vs, VIn w v) (hl : vs.length <= 1000) {r : Bool} (hr : vs.any (fun v => lngV v.es) = r) :
    Calls Tryz.prog 5 #[.slice (some ⟨g, 0, none⟩) vs.length cap] w fun e w' => e = .returned (.bool r) /\ Below w.heap.size w w' := by
  have HG := Lib.hid hg
  have HC := Lib.hid hc
  have HV := Lib.hid hv
  have HR := Lib.hid hr
  clear hg hc hv hr
  go_enter Tryz.func5, Tryz.ntmps5
  go_wp2
  go_loopw [3] (fun i wr => ∃ k : Nat, i = .int .i64 k /\ k <= vs.length /\ (∀ j (hj : j < vs.length), j < k -> lngV vs[j].es = false) /\ Below w.heap.size w wr) (fun i _ => vs.length - (intOf i).toNat)
  case atStart => exact ⟨0, rfl, Nat.zero_le _, (fun j _ hj => by omega), Below.refl _ _⟩
  case round =>
    obtain ⟨k, rfl, hk, ht, hb⟩ := hrel
    have HT := Lib.hid ht
    have HB := Lib.hid hb
    clear ht hb
    by_cases hlt : k < vs.length
    · have hki : (0 : Int) <= (k : Int) := by omega
      have hki' : (k : Int) < (vs.length : Int) := by omega
      have hcell := (HB.out.cell (p := ⟨g, k, none⟩) HG.out).trans (HC.out k hlt)
      have hvk := (HV.out _ (List.getElem_mem hlt)).to HB.out
      have HN : Hid (∀ b, lngV vs[k].es = b -> lngV vs[k].es = b) := fun _ h => h
      obtain ⟨v, hve⟩ : ∃ v, vs[k] = v := ⟨_, rfl⟩
      have HVE := Lib.hid hve
      rw [hve] at hcell hvk
      have hsz := Nat.le_trans hvk.cap hvk.c63
      have HVK := Lib.hid hvk
      have HLT := Lib.hid hlt
      clear hvk HN hve
      by_cases h20 : 20 < v.es.length
      · have hd : decide ((20 : Int) < (v.es.length : Int)) = true := decide_eq_true (by omega)
        have hany : Hid (vs.any (fun v => lngV v.es) = true) := by
          show _ = _
          rw [List.any_eq_true]
          exact ⟨vs[k]'HLT.out, List.getElem_mem _, by rw [HVE.out]; unfold lngV; rw [decide_eq_true h20]; rfl⟩
        clear h20
        go_wp2
        go_ret
        exact ⟨by rw [<- HR.out, hany.out]; rfl, HB.out⟩
      · have hd : decide ((20 : Int) < (v.es.length : Int)) = false := decide_eq_false (by omega)
        have hd2 : ¬ (20 : Int) < (v.es.length : Int) := by omega
        have H20 := Lib.hid h20
        obtain ⟨r1, hr1⟩ : ∃ r1, v.es.any lngE = r1 := ⟨_, rfl⟩
        have HR1 := Lib.hid hr1
        clear h20 hr1
        go_wp2_with fail
        refine (flong_v HVK.out (by have := H20.out; omega) HR1.out).mono ?_
        rintro e V ⟨rfl, bb⟩
        have HB2 := Lib.hid (HB.out.trans (bb.mono HB.out.size))
        clear bb
        cases r1 with
        | true =>
          have hany : Hid (vs.any (fun v => lngV v.es) = true) := by
            show _ = _
            rw [List.any_eq_true]
            exact ⟨vs[k]'HLT.out, List.getElem_mem _, by rw [HVE.out]; unfold lngV; rw [HR1.out, Bool.or_true]⟩
          go_wp2
          go_ret
          exact ⟨by rw [<- HR.out, hany.out]; rfl, HB2.out⟩
        | false =>
          go_wp2
          go_roundw
          case rel =>
            refine ⟨k + 1, by simp, HLT.out, fun j hj hjk => ?_, HB2.out⟩
            by_cases hjk' : j = k
            · subst hjk'
              rw [HVE.out]
              unfold lngV
              rw [HR1.out, decide_eq_false H20.out]
              rfl
            · exact HT.out j hj (by omega)
          case measure => have := HLT.out; simp [intOf]; omega
    · obtain rfl : k = vs.length := by omega
      go_wp2
      go_ret
      refine ⟨?_, HB.out⟩
      rw [<- HR.out, show vs.any (fun v => lngV v.es) = false from by
        rw [List.any_eq_false]
        intro x hx
        obtain ⟨j, hj, rfl⟩ := List.mem_iff_getElem.1 hx
        simpa using HT.out j hj hj]
      rfl

/-- What is not long: rationals of at most 6 words, at most 20 of them. -/
theorem VIn.vi {w : World} {v : VA} (h : VIn w v) (hl : lngV v.es = false) : ∃ rs, Vi w v.A v.c v.es rs 6 /\ rs.length <= 20 := by
  obtain ⟨A, c, es⟩ := v
  obtain ⟨hrow, hel, hcap, hc63⟩ := h
  dsimp only at hrow hel hcap hc63 hl ⊢
  unfold lngV at hl
  simp only [Bool.or_eq_false_iff, decide_eq_false_iff_not, List.any_eq_false] at hl
  have key : ∀ e ∈ es, ∃ r : Rat, Qi w e.a e.b e.c e.d r 6 := fun e he => by
    have h1 := hl.2 e he
    obtain ⟨⟨n, A1, d1, xs, f1, f2, r1, g1, l1, m1⟩, ⟨m, A2, d2, ys, f3, f4, r2, g2, l2, m2⟩⟩ := hel e he
    unfold lngE at h1
    simp only [f2, f4, vlen, Bool.or_eq_true, decide_eq_true_eq, not_or] at h1
    refine ⟨_, _, _, ⟨n, A1, d1, xs, f1, f2, ⟨r1, g1, l1, m1, by omega⟩, by omega, rfl⟩, ⟨m, A2, d2, ys, f3, f4, ⟨r2, g2, l2, m2, by omega⟩, by omega, rfl⟩, rfl, Sm.zof g1 (by omega), Sm.zof g2 (by omega)⟩
  obtain ⟨rs, h1, h2⟩ : ∃ rs : List Rat, es.length = rs.length /\ ∀ i, Qi w (es.getD i E4.z).a (es.getD i E4.z).b (es.getD i E4.z).c (es.getD i E4.z).d (rs.getD i 0) 6 := by
    clear hrow hcap hl hel
    induction es with
    | nil => exact ⟨[], rfl, fun i => by simpa [E4.z] using Qi.zero w⟩
    | cons e r ih =>
      obtain ⟨q, hq⟩ := key e (by simp)
      obtain ⟨rs, h1, h2⟩ := ih (fun e he => key e (by simp [he]))
      refine ⟨q :: rs, by simp [h1], fun i => ?_⟩
      cases i with
      | zero => simpa using hq
      | succ i => simpa using h2 i
  exact ⟨rs, ⟨hrow, h1, h2, fun e he => (hel e he).fq, hcap, hc63⟩, by rw [<- h1]; omega⟩
end Go.Proofs.YtcgdbdhhoomgiabGreat

namespace Go.Proofs.YtcgdbdhhoomgiabGreat
open Go.RowKit Go.Shelf

theorem lexF_cases (f : Nat -> Int) : ∀ (n k : Nat), (lexF f k n = 0 /\ ∀ i, k <= i -> i < k + n -> f i = 0) ∨ ∃ m, k <= m /\ m < k + n /\ f m ≠ 0 /\ lexF f k n = f m /\ ∀ j, k <= j -> j < m -> f j = 0
  | 0, k => .inl ⟨rfl, fun i h1 h2 => by omega⟩
  | n + 1, k => by
    by_cases h : f k = 0
    · have e : lexF f k (n + 1) = lexF f (k + 1) n := by rw [lexF, if_pos h]
      rw [e]
      rcases lexF_cases f n (k + 1) with ⟨h1, h2⟩ | ⟨m, h1, h2, h3, h4, h5⟩
      · refine .inl ⟨h1, fun i h3 h4 => ?_⟩
        by_cases hik : i = k
        · rw [hik]; exact h
        · exact h2 i (by omega) (by omega)
      · refine .inr ⟨m, by omega, by omega, h3, h4, fun j h6 h7 => ?_⟩
        by_cases hjk : j = k
        · rw [hjk]; exact h
        · exact h5 j (by omega) h7
    · exact .inr ⟨k, Nat.le_refl _, by omega, h, by rw [lexF, if_neg h], fun j h1 h2 => by omega⟩
theorem cmp00 : cmpQ 0 0 = 0 := by decide +kernel
theorem lex_zero {a b : List Rat} : lexQ a b = 0 ↔ ∀ i, a.getD i 0 = b.getD i 0 := by
  constructor
  · intro h i
    rcases lexF_cases (fun i => cmpQ (a.getD i 0) (b.getD i 0)) (max a.length b.length) 0 with ⟨_, h2⟩ | ⟨m, h1, h2, h3, h4, h5⟩
    · by_cases hi : i < max a.length b.length
      · exact cmpQ_zero.1 (h2 i (Nat.zero_le _) (by omega))
      · rw [getD_ge (by omega), getD_ge (by omega)]
    · exact absurd (h4.symm.trans h) h3
  · intro h
    exact lexF_zero _ _ _ fun j _ _ => cmpQ_zero.2 (h j)

theorem cmpQ_cs (r s : Rat) : (cmpQ r s = -1 /\ r < s) ∨ (cmpQ r s = 0 /\ r = s) ∨ (cmpQ r s = 1 /\ s < r) := by
  by_cases h1 : r < s
  · exact .inl ⟨by simp [cmpQ, h1], h1⟩
  · by_cases h2 : s < r
    · exact .inr (.inr ⟨by simp [cmpQ, h1, h2], h2⟩)
    · exact .inr (.inl ⟨by simp [cmpQ, h1, h2], Rat.le_antisymm (Rat.not_lt.1 h2) (Rat.not_lt.1 h1)⟩)
theorem cmpQ_g {r s : Rat} (h : s < r) : cmpQ r s = 1 := by simp [cmpQ, h, Rat.not_lt.2 (Rat.le_of_lt h)]
/-- A rational times a vector. -/
def scaleQ (t : Rat) (rs : List Rat) : List Rat := ptw (fun r s => t * r + s) rs []
/-- A vector's words and length. -/
structure Vm (k : Nat) (rs : List Rat) : Prop where
  qm : ∀ i, Qm k (rs.getD i 0)
  len : rs.length <= 20
theorem Vm.l {k : Nat} {rs : List Rat} (h : Vm k rs) : rs.length <= 4398046511104 := Nat.le_trans h.len (by decide)
theorem Vm.nil : Vm 1 [] := ⟨fun i => ⟨Nat.pow_pos (by decide), Sm.one (by decide)⟩, by decide⟩
theorem Vm.add {k l : Nat} {rs ss : List Rat} (h : Vm k rs) (h' : Vm l ss) : Vm (k + l + 1) (ptw (fun r s => r + s) rs ss) :=
  ⟨fun i => by rw [ptw_getD (by decide +kernel)]; exact (h.qm i).add (h'.qm i), by have := h.len; have := h'.len; rw [ptw_length]; omega⟩
theorem Vm.sub {k l : Nat} {rs ss : List Rat} (h : Vm k rs) (h' : Vm l ss) : Vm (k + l + 1) (ptw (fun r s => r - s) rs ss) :=
  ⟨fun i => by rw [ptw_getD (by decide +kernel)]; exact (h.qm i).sub (h'.qm i), by have := h.len; have := h'.len; rw [ptw_length]; omega⟩
end Go.Proofs.YtcgdbdhhoomgiabGreat

namespace Go.Proofs.YtcgdbdhhoomgiabGreat
open Go.RowKit Go.Shelf

theorem Vi.qm {W : World} {A : Option Addr} {c : Nat} {es : List E4} {rs : List Rat} {k : Nat} (h : Vi W A c es rs k) (hk : 0 < k) (i : Nat) : Qm k (rs.getD i 0) := (h.el i).qm hk

theorem Vm.dot {k l : Nat} {rs ss : List Rat} (h : Vm k rs) (h' : Vm l ss) : Qm (20 * (k + l + 1) + 1) (dotQ rs ss) := by
  have h1 := Qm.sumF (f := fun i => rs.getD i 0 * ss.getD i 0) (fun i => (h.qm i).mul (h'.qm i)) (max rs.length ss.length)
  have h2 : max rs.length ss.length * (k + l + 1) <= 20 * (k + l + 1) := Nat.mul_le_mul_right _ (by have := h.len; have := h'.len; omega)
  exact h1.mono (by omega)
theorem vdot_m {w : World} {A A' : Option Addr} {c c' : Nat} {es fs : List E4} {rs ss : List Rat} {k l : Nat} (hA : Vi w A c es rs k) (hB : Vi w A' c' fs ss l) (hk : 0 < k) (hl : 0 < l) (mA : Vm k rs) (mB : Vm l ss) (hN : 20 * (k + l + 1) + 1 + (k + l) + 1 <= 10000) :
    Calls Tryz.prog 10 #[.slice A rs.length c, .slice A' ss.length c'] w (QR w (dotQ rs ss)) :=
  vdot_v hA hB hk hl mA.l mB.l (by
    have h2 : max rs.length ss.length * (k + l + 1) <= 20 * (k + l + 1) := Nat.mul_le_mul_right _ (by have := mA.len; have := mB.len; omega)
    omega)
end Go.Proofs.YtcgdbdhhoomgiabGreat
