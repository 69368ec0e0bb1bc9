/- Parts: 3. -/
import Derived.Test.YtcgdbdhhoomgiaaGreatVo17
import Derived.Test.YtcgdbdhhoomgiaaGreatVo20
import Derived.Test.YtcgdbdhhoomgiaaGreatVo22
set_option linter.unusedVariables false
set_option linter.unusedSimpArgs false
set_option maxRecDepth 100000
set_option maxHeartbeats 40000000

namespace Go.Proofs.YtcgdbdhhoomgiaaGreat
open Go.RowKit Go.Shelf
theorem flong_o (g o : Nat) (A : Option Addr) (ls : List (Nat × Nat)) (cap : Nat) (w : World) (hA : ∀ (k : Nat), k < ls.length -> A = some ⟨g, o, none⟩ /\ g < w.heap.size)
  (h : ∀ (k : Nat) (hk : k < ls.length), ∃ n1 A1 c1 n2 A2 c2, w.cell? ⟨g, o + k * 4, none⟩ = some (.bool n1) /\ w.cell? ⟨g, o + k * 4 + 1, none⟩ = some (.slice A1 ls[k].1 c1) /\ w.cell? ⟨g, o + k * 4 + 2, none⟩ = some (.bool n2) /\ w.cell? ⟨g, o + k * 4 + 3, none⟩ = some (.slice A2 ls[k].2 c2))
  (hs : ∀ (k : Nat) (hk : k < ls.length), ls[k].1 <= 9223372036854775807 /\ ls[k].2 <= 9223372036854775807) (hl : ls.length <= 1000) {r : Bool} (hr : (ls.any fun p => decide (6 < p.1) || decide (6 < p.2)) = r) :
  Calls Tryz.prog 10 #[.slice A ls.length cap] w fun e w' => e = .returned (.bool r) /\ Below w.heap.size w w' := by
 have H := Hd h
 have HS := Hd hs
 have HA := Hd hA
 have HR := Hd hr
 clear h hs hA hr
 go_enter Tryz.func10, Tryz.ntmps10
 go_wp2
 go_loopw [3] (fun i wr => ∃ k : Nat, i = .int .i64 k /\ k <= ls.length /\ (∀ j (hj : j < ls.length), j < k -> ls[j].1 <= 6 /\ ls[j].2 <= 6) /\ Below w.heap.size w wr) (fun i _ => ls.length - (intOf i).toNat)
 case atStart => exact ⟨0, rfl, Nat.zero_le _, (fun j _ hj => by omega), Below.refl _ _⟩
 case round =>
  obtain ⟨k, rfl, hk, ht, hb⟩ := hrel
  have HT := Hd ht
  have HB := Hd hb
  clear ht hb
  by_cases hlt : k < ls.length
  .obtain ⟨rfl, hg⟩ := HA.out k hlt
   have HG := Hd hg
   clear hg
   have hc := H.out k hlt
   have hm := HS.out k hlt
   have hki : (0 : Int) <= (k : Int) := by omega
   have hki' : (k : Int) < (ls.length : Int) := by omega
   have HN : Hid (ls[k] = ls[k]) := rfl
   obtain ⟨⟨m1, m2⟩, hn⟩ : ∃ m, ls[k] = m := ⟨_, rfl⟩
   rw [hn] at hc hm
   have HN2 := Hd hn
   obtain ⟨n1, A1, c1, n2, A2, c2, hc⟩ := hc
   have HF : Hid (∀ w', Below w.heap.size w w' -> w'.cell? ⟨g, o + k * 4, none⟩ = some (.bool n1) /\ w'.cell? ⟨g, o + k * 4 + 1, none⟩ = some (.slice A1 m1 c1) /\ w'.cell? ⟨g, o + k * 4 + 2, none⟩ = some (.bool n2) /\ w'.cell? ⟨g, o + k * 4 + 3, none⟩ = some (.slice A2 m2 c2)) := fun w' hS =>
    ⟨(hS.cell (p := ⟨g, o + k * 4, none⟩) HG.out).trans hc.1, (hS.cell (p := ⟨g, o + k * 4 + 1, none⟩) HG.out).trans hc.2.1, (hS.cell (p := ⟨g, o + k * 4 + 2, none⟩) HG.out).trans hc.2.2.1, (hS.cell (p := ⟨g, o + k * 4 + 3, none⟩) HG.out).trans hc.2.2.2⟩
   have M1 := Hd hm.1
   have M2 := Hd hm.2
   clear hc hm hn HN
   by_cases ha : 12 < m1 ∨ 12 < m2
   .have HL : Hid ([m1, m2].any (fun n => decide (12 < n)) = true) := by show _ = _; simpa using ha
    have hany : Hid ((ls.any fun p => decide (6 < p.1) || decide (6 < p.2)) = true) := by
     show _ = _
     rw [List.any_eq_true]
     exact ⟨ls[k], List.getElem_mem hlt, by rw [HN2.out]; simp; omega⟩
    clear ha
    go_wp2_with fail
    refine wp_region_plan (S := fun w' => Below w.heap.size w w') [(0, true), (1, true), (2, true), (3, true), (4, true), (5, true), (6, true), (7, true), (8, true), (9, true), (10, false), (11, false), (12, true), (13, true), (14, true), (15, true), (16, true), (17, true), (18, true), (19, true), (20, true), (21, true), (22, true), (23, true), (24, true), (25, true), (26, true), (27, true), (28, true), (29, true), (30, true), (31, true)] (by kernel_rfl) (by kernel_rfl) HB.out.drew ?_
    have hb := HB.out.drew
    iterate 10 (refine plan_take (v := ?_) rfl (by rfl) ?_ ?_; rotate_left; (focus (intro w' hS; obtain ⟨f0, f1, f2, f3⟩ := HF.out w' hS; go_simp; try with_reducible rfl)); simp only [Act.put, List.setIfInBounds_toArray, List.set_cons_zero, List.set_cons_succ])
    refine plan_call rfl (by rfl) (fun K hK => ?_)
    go_simp
    have hnew := (Four.new wr (.bool n1) (.slice A1 m1 c1) (.bool n2) (.slice A2 m2 c2) 24).to (Below.refl _ _).drew
    replace hb := hb.alloc hb.size (.cells #[.bool n1, .slice A1 m1 c1, .bool n2, .slice A2 m2 c2] 24)
    refine hK.out _ _ hb ?_
    clear hK K
    refine plan_call rfl (by rfl) (fun K hK => ?_)
    go_simp
    refine (long_2 M1.out M2.out hnew.c1 hnew.c3 HL.out).mono ?_
    rintro e V ⟨rfl, rfl⟩
    refine hK.out _ _ hb ?_
    clear hK K hnew
    refine plan_take (v := ?_) rfl (by rfl) ?_ ?_; rotate_left; (focus (intro w' hS; go_simp; try with_reducible rfl)); simp only [Act.put, List.setIfInBounds_toArray, List.set_cons_zero, List.set_cons_succ]
    iterate 8 (refine plan_skip rfl (by rfl) ?_; simp only [Act.put, List.setIfInBounds_toArray, List.set_cons_zero, List.set_cons_succ])
    iterate 2 (refine plan_take (v := ?_) rfl (by rfl) ?_ ?_; rotate_left; (focus (intro w' hS; go_simp; try with_reducible rfl)); simp only [Act.put, List.setIfInBounds_toArray, List.set_cons_zero, List.set_cons_succ])
    iterate 8 (refine plan_skip rfl (by rfl) ?_; simp only [Act.put, List.setIfInBounds_toArray, List.set_cons_zero, List.set_cons_succ])
    refine plan_take (v := ?_) rfl (by rfl) ?_ ?_; rotate_left; (focus (intro w' hS; go_simp; try with_reducible rfl)); simp only [Act.put, List.setIfInBounds_toArray, List.set_cons_zero, List.set_cons_succ]
    refine plan_done ?_
    have HE := Hd hb
    clear hb HB
    go_wp2
    go_ret
    exact ⟨by rw [<- HR.out, hany.out]; rfl, HE.out⟩
   .have HL : Hid ([m1, m2].any (fun n => decide (12 < n)) = false) := by show _ = _; simpa using ha
    by_cases hb6 : 6 < m1
    .have hany : Hid ((ls.any fun p => decide (6 < p.1) || decide (6 < p.2)) = true) := by
      show _ = _
      rw [List.any_eq_true]
      exact ⟨ls[k], List.getElem_mem hlt, by rw [HN2.out]; simp; omega⟩
     clear ha
     have d1 : decide ((6 : Int) < (m1 : Int)) = true := by simp; omega
     clear hb6
     go_wp2_with fail
     refine wp_region_plan (S := fun w' => Below w.heap.size w w') [(0, true), (1, true), (2, true), (3, true), (4, true), (5, true), (6, true), (7, true), (8, true), (9, true), (10, false), (11, false), (12, true), (13, true), (14, true), (15, true), (16, true), (17, true), (18, true), (19, true), (20, true), (21, true), (22, true), (23, true), (24, true), (25, true), (26, true), (27, true), (28, true), (29, true), (30, true), (31, true)] (by kernel_rfl) (by kernel_rfl) HB.out.drew ?_
     have hb := HB.out.drew
     iterate 10 (refine plan_take (v := ?_) rfl (by rfl) ?_ ?_; rotate_left; (focus (intro w' hS; obtain ⟨f0, f1, f2, f3⟩ := HF.out w' hS; go_simp; try with_reducible rfl)); simp only [Act.put, List.setIfInBounds_toArray, List.set_cons_zero, List.set_cons_succ])
     refine plan_call rfl (by rfl) (fun K hK => ?_)
     go_simp
     have hnew := (Four.new wr (.bool n1) (.slice A1 m1 c1) (.bool n2) (.slice A2 m2 c2) 24).to (Below.refl _ _).drew
     replace hb := hb.alloc hb.size (.cells #[.bool n1, .slice A1 m1 c1, .bool n2, .slice A2 m2 c2] 24)
     refine hK.out _ _ hb ?_
     clear hK K
     refine plan_call rfl (by rfl) (fun K hK => ?_)
     go_simp
     refine (long_2 M1.out M2.out hnew.c1 hnew.c3 HL.out).mono ?_
     rintro e V ⟨rfl, rfl⟩
     refine hK.out _ _ hb ?_
     clear hK K hnew
     iterate 3 (refine plan_take (v := ?_) rfl (by rfl) ?_ ?_; rotate_left; (focus (intro w' hS; go_simp; try with_reducible rfl)); simp only [Act.put, List.setIfInBounds_toArray, List.set_cons_zero, List.set_cons_succ])
     iterate 4 (refine plan_take (v := ?_) rfl (by rfl) ?_ ?_; rotate_left; (focus (intro w' hS; obtain ⟨f0, f1, f2, f3⟩ := HF.out w' hS; go_simp; try with_reducible rfl)); simp only [Act.put, List.setIfInBounds_toArray, List.set_cons_zero, List.set_cons_succ])
     iterate 4 (refine plan_take (v := ?_) rfl (by rfl) ?_ ?_; rotate_left; (focus (intro w' hS; go_simp; try with_reducible rfl)); simp only [Act.put, List.setIfInBounds_toArray, List.set_cons_zero, List.set_cons_succ])
     iterate 8 (refine plan_skip rfl (by rfl) ?_; simp only [Act.put, List.setIfInBounds_toArray, List.set_cons_zero, List.set_cons_succ])
     refine plan_take (v := ?_) rfl (by rfl) ?_ ?_; rotate_left; (focus (intro w' hS; go_simp; try with_reducible rfl)); simp only [Act.put, List.setIfInBounds_toArray, List.set_cons_zero, List.set_cons_succ]
     refine plan_done ?_
     have HE := Hd hb
     clear hb HB
     go_wp2
     go_ret
     exact ⟨by rw [<- HR.out, hany.out]; rfl, HE.out⟩
    .by_cases hc6 : 6 < m2
     .have hany : Hid ((ls.any fun p => decide (6 < p.1) || decide (6 < p.2)) = true) := by
       show _ = _
       rw [List.any_eq_true]
       exact ⟨ls[k], List.getElem_mem hlt, by rw [HN2.out]; simp; omega⟩
      clear ha
      have d1 : decide ((6 : Int) < (m1 : Int)) = false := by simp; omega
      have d2 : decide ((6 : Int) < (m2 : Int)) = true := by simp; omega
      clear hb6 hc6
      go_wp2_with fail
      refine wp_region_plan (S := fun w' => Below w.heap.size w w') [(0, true), (1, true), (2, true), (3, true), (4, true), (5, true), (6, true), (7, true), (8, true), (9, true), (10, false), (11, false), (12, true), (13, true), (14, true), (15, true), (16, true), (17, true), (18, true), (19, true), (20, true), (21, true), (22, true), (23, true), (24, true), (25, true), (26, true), (27, true), (28, true), (29, true), (30, true), (31, true)] (by kernel_rfl) (by kernel_rfl) HB.out.drew ?_
      have hb := HB.out.drew
      iterate 10 (refine plan_take (v := ?_) rfl (by rfl) ?_ ?_; rotate_left; (focus (intro w' hS; obtain ⟨f0, f1, f2, f3⟩ := HF.out w' hS; go_simp; try with_reducible rfl)); simp only [Act.put, List.setIfInBounds_toArray, List.set_cons_zero, List.set_cons_succ])
      refine plan_call rfl (by rfl) (fun K hK => ?_)
      go_simp
      have hnew := (Four.new wr (.bool n1) (.slice A1 m1 c1) (.bool n2) (.slice A2 m2 c2) 24).to (Below.refl _ _).drew
      replace hb := hb.alloc hb.size (.cells #[.bool n1, .slice A1 m1 c1, .bool n2, .slice A2 m2 c2] 24)
      refine hK.out _ _ hb ?_
      clear hK K
      refine plan_call rfl (by rfl) (fun K hK => ?_)
      go_simp
      refine (long_2 M1.out M2.out hnew.c1 hnew.c3 HL.out).mono ?_
      rintro e V ⟨rfl, rfl⟩
      refine hK.out _ _ hb ?_
      clear hK K hnew
      iterate 3 (refine plan_take (v := ?_) rfl (by rfl) ?_ ?_; rotate_left; (focus (intro w' hS; go_simp; try with_reducible rfl)); simp only [Act.put, List.setIfInBounds_toArray, List.set_cons_zero, List.set_cons_succ])
      iterate 4 (refine plan_take (v := ?_) rfl (by rfl) ?_ ?_; rotate_left; (focus (intro w' hS; obtain ⟨f0, f1, f2, f3⟩ := HF.out w' hS; go_simp; try with_reducible rfl)); simp only [Act.put, List.setIfInBounds_toArray, List.set_cons_zero, List.set_cons_succ])
      iterate 6 (refine plan_take (v := ?_) rfl (by rfl) ?_ ?_; rotate_left; (focus (intro w' hS; go_simp; try with_reducible rfl)); simp only [Act.put, List.setIfInBounds_toArray, List.set_cons_zero, List.set_cons_succ])
      iterate 4 (refine plan_take (v := ?_) rfl (by rfl) ?_ ?_; rotate_left; (focus (intro w' hS; obtain ⟨f0, f1, f2, f3⟩ := HF.out w' hS; go_simp; try with_reducible rfl)); simp only [Act.put, List.setIfInBounds_toArray, List.set_cons_zero, List.set_cons_succ])
      iterate 3 (refine plan_take (v := ?_) rfl (by rfl) ?_ ?_; rotate_left; (focus (intro w' hS; go_simp; try with_reducible rfl)); simp only [Act.put, List.setIfInBounds_toArray, List.set_cons_zero, List.set_cons_succ])
      refine plan_done ?_
      have HE := Hd hb
      clear hb HB
      go_wp2
      go_ret
      exact ⟨by rw [<- HR.out, hany.out]; rfl, HE.out⟩
     .have hok : Hid (m1 <= 6 /\ m2 <= 6) := by show _ /\ _; omega
      clear ha
      have d1 : decide ((6 : Int) < (m1 : Int)) = false := by simp; omega
      have d2 : decide ((6 : Int) < (m2 : Int)) = false := by simp; omega
      clear hb6 hc6
      go_wp2_with fail
      refine wp_region_plan (S := fun w' => Below w.heap.size w w') [(0, true), (1, true), (2, true), (3, true), (4, true), (5, true), (6, true), (7, true), (8, true), (9, true), (10, false), (11, false), (12, true), (13, true), (14, true), (15, true), (16, true), (17, true), (18, true), (19, true), (20, true), (21, true), (22, true), (23, true), (24, true), (25, true), (26, true), (27, true), (28, true), (29, true), (30, true), (31, true)] (by kernel_rfl) (by kernel_rfl) HB.out.drew ?_
      have hb := HB.out.drew
      iterate 10 (refine plan_take (v := ?_) rfl (by rfl) ?_ ?_; rotate_left; (focus (intro w' hS; obtain ⟨f0, f1, f2, f3⟩ := HF.out w' hS; go_simp; try with_reducible rfl)); simp only [Act.put, List.setIfInBounds_toArray, List.set_cons_zero, List.set_cons_succ])
      refine plan_call rfl (by rfl) (fun K hK => ?_)
      go_simp
      have hnew := (Four.new wr (.bool n1) (.slice A1 m1 c1) (.bool n2) (.slice A2 m2 c2) 24).to (Below.refl _ _).drew
      replace hb := hb.alloc hb.size (.cells #[.bool n1, .slice A1 m1 c1, .bool n2, .slice A2 m2 c2] 24)
      refine hK.out _ _ hb ?_
      clear hK K
      refine plan_call rfl (by rfl) (fun K hK => ?_)
      go_simp
      refine (long_2 M1.out M2.out hnew.c1 hnew.c3 HL.out).mono ?_
      rintro e V ⟨rfl, rfl⟩
      refine hK.out _ _ hb ?_
      clear hK K hnew
      iterate 3 (refine plan_take (v := ?_) rfl (by rfl) ?_ ?_; rotate_left; (focus (intro w' hS; go_simp; try with_reducible rfl)); simp only [Act.put, List.setIfInBounds_toArray, List.set_cons_zero, List.set_cons_succ])
      iterate 4 (refine plan_take (v := ?_) rfl (by rfl) ?_ ?_; rotate_left; (focus (intro w' hS; obtain ⟨f0, f1, f2, f3⟩ := HF.out w' hS; go_simp; try with_reducible rfl)); simp only [Act.put, List.setIfInBounds_toArray, List.set_cons_zero, List.set_cons_succ])
      iterate 6 (refine plan_take (v := ?_) rfl (by rfl) ?_ ?_; rotate_left; (focus (intro w' hS; go_simp; try with_reducible rfl)); simp only [Act.put, List.setIfInBounds_toArray, List.set_cons_zero, List.set_cons_succ])
      iterate 4 (refine plan_take (v := ?_) rfl (by rfl) ?_ ?_; rotate_left; (focus (intro w' hS; obtain ⟨f0, f1, f2, f3⟩ := HF.out w' hS; go_simp; try with_reducible rfl)); simp only [Act.put, List.setIfInBounds_toArray, List.set_cons_zero, List.set_cons_succ])
      iterate 3 (refine plan_take (v := ?_) rfl (by rfl) ?_ ?_; rotate_left; (focus (intro w' hS; go_simp; try with_reducible rfl)); simp only [Act.put, List.setIfInBounds_toArray, List.set_cons_zero, List.set_cons_succ])
      refine plan_done ?_
      have HE := Hd hb
      clear hb HB
      go_wp2
      go_roundw
      case rel => exact ⟨k + 1, by simp, by omega, (fun j hj hjk => by
       rcases Nat.lt_or_ge j k with h1 | h1
       .exact HT.out j hj h1
       .obtain rfl : j = k := by omega
        rw [HN2.out]; exact hok.out), HE.out⟩
      case measure => simp [intOf]; omega
  .obtain rfl : k = ls.length := by omega
   clear hlt
   go_wp2
   go_ret
   refine ⟨?_, HB.out⟩
   have : (ls.any fun p => decide (6 < p.1) || decide (6 < p.2)) = false := by
    rw [List.any_eq_false]
    intro x hx
    obtain ⟨j, hj, rfl⟩ := List.getElem_of_mem hx
    have := HT.out j hj hj
    simp; omega
   rw [<- HR.out, this]
   rfl
def ZxE (W : World) (e : E4) : Prop := Zx2 W e.a e.b /\ Zx2 W e.c e.d
theorem Zx2.to {W V : World} {x y : Value} (h : Zx2 W x y) (hb : Below W.heap.size W V) : Zx2 V x y := by
 obtain ⟨n, A, c, xs, h1, h2, h3, h4⟩ := h
 exact ⟨n, A, c, xs, h1, h2, h3.to hb, h4⟩
theorem ZxE.to {W V : World} {e : E4} (h : ZxE W e) (hb : Below W.heap.size W V) : ZxE V e := ⟨h.1.to hb, h.2.to hb⟩
theorem ZxE.fq {W : World} {e : E4} (h : ZxE W e) : e.fq := by
 obtain ⟨⟨n, A, c, xs, h1, h2, _⟩, ⟨m, B, d, ys, h3, h4, _⟩⟩ := h
 exact ⟨⟨n, A, xs.length, c, h1, h2⟩, ⟨m, B, ys.length, d, h3, h4⟩⟩
def vlen : Value -> Nat
 | .slice _ n _ => n
 | _ => 0
def lngE (e : E4) : Bool := decide (6 < vlen e.b) || decide (6 < vlen e.d)
def lngV (es : List E4) : Bool := decide (20 < es.length) || es.any lngE
structure VA where
 A : Option Addr
 c : Nat
 es : List E4
structure VIn (W : World) (v : VA) : Prop where
 row : Rq W W.heap.size v.A v.es
 el : ∀ e ∈ v.es, ZxE W e
 cap : v.es.length <= v.c
 c63 : v.c <= 9223372036854775807
theorem VIn.to {W V : World} {v : VA} (h : VIn W v) (hb : Below W.heap.size W V) : VIn V v := ⟨h.row.to hb, fun e he => (h.el e he).to hb, h.cap, h.c63⟩
theorem flong_v {w : World} {v : VA} (h : VIn w v) (hl : v.es.length <= 1000) {r : Bool} (hr : v.es.any lngE = r) :
  Calls Tryz.prog 10 #[.slice v.A v.es.length v.c] w fun e w' => e = .returned (.bool r) /\ Below w.heap.size w w' := by
 obtain ⟨A, c, es⟩ := v
 obtain ⟨hrow, hel, hcap, hc63⟩ := h
 dsimp only at hrow hel hcap hc63 hl hr ⊢
 have key : ∃ g o, ∀ k, k < es.length -> A = some ⟨g, o, none⟩ /\ g < w.heap.size := by
  by_cases h0 : 0 < es.length
  .obtain ⟨b, o, rfl, hb, _⟩ := hrow 0 h0
   exact ⟨b, o, fun k _ => ⟨rfl, hb⟩⟩
  .exact ⟨0, 0, fun k hk => by omega⟩
 obtain ⟨g, o, key⟩ := key
 have h1 := flong_o g o A (es.map fun e => (vlen e.b, vlen e.d)) c w (fun k hk => key k (by simpa using hk)) (fun k hk => by
  have hk' : k < es.length := by simpa using hk
  obtain ⟨b, o', e1, hb, c0, c1, c2, c3⟩ := hrow k hk'
  obtain ⟨e2, _⟩ := key k hk'
  rw [e1] at e2
  simp only [Option.some.injEq, Addr.mk.injEq, and_true] at e2
  obtain ⟨rfl, rfl⟩ := e2
  obtain ⟨⟨n, A1, d1, xs, f1, f2, _⟩, ⟨m, A2, d2, ys, f3, f4, _⟩⟩ := hel _ (List.getElem_mem hk')
  rw [f1] at c0
  rw [f2] at c1
  rw [f3] at c2
  rw [f4] at c3
  refine ⟨n, A1, d1, m, A2, d2, c0, ?_, c2, ?_⟩
  .rw [c1]; simp [f2, vlen]
  .rw [c3]; simp [f4, vlen]) (fun k hk => by
  have hk' : k < es.length := by simpa using hk
  obtain ⟨⟨n, A1, d1, xs, f1, f2, _, _, g1, g2⟩, ⟨m, A2, d2, ys, f3, f4, _, _, g3, g4⟩⟩ := hel _ (List.getElem_mem hk')
  simp only [List.getElem_map, f2, f4, vlen]
  exact ⟨by omega, by omega⟩) (by simpa using hl) (r := r) (by rw [<- hr, List.any_map]; rfl)
 rw [List.length_map] at h1
 exact h1
theorem vlong_any (g : Nat) (vs : List VA) (cap : Nat) (w : World) (hg : g < w.heap.size) (hc : ∀ i (h : i < vs.length), w.cell? ⟨g, i, none⟩ = some (.slice vs[i].A vs[i].es.length vs[i].c)) (hv : ∀ v ∈ vs, VIn w v) (hl : vs.length <= 1000) {r : Bool} (hr : vs.any (fun v => lngV v.es) = r) :
  Calls Tryz.prog 9 #[.slice (some ⟨g, 0, none⟩) vs.length cap] w fun e w' => e = .returned (.bool r) /\ Below w.heap.size w w' := by
 have HG := Hd hg
 have HC := Hd hc
 have HV := Hd hv
 have HR := Hd hr
 clear hg hc hv hr
 go_enter Tryz.func9, Tryz.ntmps9
 go_wp2
 go_loopw [3] (fun i wr => ∃ k : Nat, i = .int .i64 k /\ k <= vs.length /\ (∀ j (hj : j < vs.length), j < k -> lngV vs[j].es = false) /\ Below w.heap.size w wr) (fun i _ => vs.length - (intOf i).toNat)
 case atStart => exact ⟨0, rfl, Nat.zero_le _, (fun j _ hj => by omega), Below.refl _ _⟩
 case round =>
  obtain ⟨k, rfl, hk, ht, hb⟩ := hrel
  have HT := Hd ht
  have HB := Hd hb
  clear ht hb
  by_cases hlt : k < vs.length
  .have hki : (0 : Int) <= (k : Int) := by omega
   have hki' : (k : Int) < (vs.length : Int) := by omega
   have hcell := (HB.out.cell (p := ⟨g, k, none⟩) HG.out).trans (HC.out k hlt)
   have hvk := (HV.out _ (List.getElem_mem hlt)).to HB.out
   have HN : Hid (∀ b, lngV vs[k].es = b -> lngV vs[k].es = b) := fun _ h => h
   obtain ⟨v, hve⟩ : ∃ v, vs[k] = v := ⟨_, rfl⟩
   have HVE := Hd hve
   rw [hve] at hcell hvk
   have hsz := Nat.le_trans hvk.cap hvk.c63
   have HVK := Hd hvk
   have HLT := Hd hlt
   clear hvk HN hve
   by_cases h20 : 20 < v.es.length
   .have hd : decide ((20 : Int) < (v.es.length : Int)) = true := decide_eq_true (by omega)
    have hany : Hid (vs.any (fun v => lngV v.es) = true) := by
     show _ = _
     rw [List.any_eq_true]
     exact ⟨vs[k]'HLT.out, List.getElem_mem _, by rw [HVE.out]; unfold lngV; rw [decide_eq_true h20]; rfl⟩
    clear h20
    go_wp2
    go_ret
    exact ⟨by rw [<- HR.out, hany.out]; rfl, HB.out⟩
   .have hd : decide ((20 : Int) < (v.es.length : Int)) = false := decide_eq_false (by omega)
    have hd2 : ¬ (20 : Int) < (v.es.length : Int) := by omega
    have H20 := Hd h20
    obtain ⟨r1, hr1⟩ : ∃ r1, v.es.any lngE = r1 := ⟨_, rfl⟩
    have HR1 := Hd hr1
    clear h20 hr1
    go_wp2_with fail
    refine (flong_v HVK.out (by have := H20.out; omega) HR1.out).mono ?_
    rintro e V ⟨rfl, bb⟩
    have HB2 := hx HB bb
    clear bb
    cases r1 with
    | true =>
     have hany : Hid (vs.any (fun v => lngV v.es) = true) := by
      show _ = _
      rw [List.any_eq_true]
      exact ⟨vs[k]'HLT.out, List.getElem_mem _, by rw [HVE.out]; unfold lngV; rw [HR1.out, Bool.or_true]⟩
     go_wp2
     go_ret
     exact ⟨by rw [<- HR.out, hany.out]; rfl, HB2.out⟩
    | false =>
     go_wp2
     go_roundw
     case rel =>
      refine ⟨k + 1, by simp, HLT.out, fun j hj hjk => ?_, HB2.out⟩
      by_cases hjk' : j = k
      .subst hjk'
       rw [HVE.out]
       unfold lngV
       rw [HR1.out, decide_eq_false H20.out]
       rfl
      .exact HT.out j hj (by omega)
     case measure => have := HLT.out; simp [intOf]; omega
  .obtain rfl : k = vs.length := by omega
   go_wp2
   go_ret
   refine ⟨?_, HB.out⟩
   rw [<- HR.out, show vs.any (fun v => lngV v.es) = false from by
    rw [List.any_eq_false]
    intro x hx
    obtain ⟨j, hj, rfl⟩ := List.mem_iff_getElem.1 hx
    simpa using HT.out j hj hj]
   rfl
theorem VIn.vi {w : World} {v : VA} (h : VIn w v) (hl : lngV v.es = false) : ∃ rs, Vi w v.A v.c v.es rs 6 /\ rs.length <= 20 := by
 obtain ⟨A, c, es⟩ := v
 obtain ⟨hrow, hel, hcap, hc63⟩ := h
 dsimp only at hrow hel hcap hc63 hl ⊢
 unfold lngV at hl
 simp only [Bool.or_eq_false_iff, decide_eq_false_iff_not, List.any_eq_false] at hl
 have key : ∀ e ∈ es, ∃ r : Rat, Qi w e.a e.b e.c e.d r 6 := fun e he => by
  have h1 := hl.2 e he
  obtain ⟨⟨n, A1, d1, xs, f1, f2, r1, g1, l1, m1⟩, ⟨m, A2, d2, ys, f3, f4, r2, g2, l2, m2⟩⟩ := hel e he
  unfold lngE at h1
  simp only [f2, f4, vlen, Bool.or_eq_true, decide_eq_true_eq, not_or] at h1
  refine ⟨_, _, _, ⟨n, A1, d1, xs, f1, f2, ⟨r1, g1, l1, m1, by omega⟩, by omega, rfl⟩, ⟨m, A2, d2, ys, f3, f4, ⟨r2, g2, l2, m2, by omega⟩, by omega, rfl⟩, rfl, Sm.zof g1 (by omega), Sm.zof g2 (by omega)⟩
 obtain ⟨rs, h1, h2⟩ : ∃ rs : List Rat, es.length = rs.length /\ ∀ i, Qi w (es.getD i E4.z).a (es.getD i E4.z).b (es.getD i E4.z).c (es.getD i E4.z).d (rs.getD i 0) 6 := by
  clear hrow hcap hl hel
  induction es with
  | nil => exact ⟨[], rfl, fun i => by simpa [E4.z] using Qi.zero w⟩
  | cons e r ih =>
   obtain ⟨q, hq⟩ := key e (by simp)
   obtain ⟨rs, h1, h2⟩ := ih (fun e he => key e (by simp [he]))
   refine ⟨q :: rs, by simp [h1], fun i => ?_⟩
   cases i with
   | zero => simpa using hq
   | succ i => simpa using h2 i
 exact ⟨rs, ⟨hrow, h1, h2, fun e he => (hel e he).fq, hcap, hc63⟩, by rw [<- h1]; omega⟩
theorem lexF_more (f : Nat -> Int) (d : Nat) : ∀ (n k : Nat), (∀ i, k + n <= i -> f i = 0) -> lexF f k (n + d) = lexF f k n
 | 0, k, h => by
  rw [Nat.zero_add, lexF_zero f d k fun j h1 _ => h j (by omega)]
  rfl
 | n + 1, k, h => by
  rw [show n + 1 + d = (n + d) + 1 from by omega]
  unfold lexF
  rw [lexF_more f d n (k + 1) fun i hi => h i (by omega)]
theorem lexF_cases (f : Nat -> Int) : ∀ (n k : Nat), (lexF f k n = 0 /\ ∀ i, k <= i -> i < k + n -> f i = 0) ∨ ∃ m, k <= m /\ m < k + n /\ f m ≠ 0 /\ lexF f k n = f m /\ ∀ j, k <= j -> j < m -> f j = 0
 | 0, k => .inl ⟨rfl, fun i h1 h2 => by omega⟩
 | n + 1, k => by
  by_cases h : f k = 0
  .have e : lexF f k (n + 1) = lexF f (k + 1) n := by rw [lexF, if_pos h]
   rw [e]
   rcases lexF_cases f n (k + 1) with ⟨h1, h2⟩ | ⟨m, h1, h2, h3, h4, h5⟩
   .refine .inl ⟨h1, fun i h3 h4 => ?_⟩
    by_cases hik : i = k
    .rw [hik]; exact h
    .exact h2 i (by omega) (by omega)
   .refine .inr ⟨m, by omega, by omega, h3, h4, fun j h6 h7 => ?_⟩
    by_cases hjk : j = k
    .rw [hjk]; exact h
    .exact h5 j (by omega) h7
  .exact .inr ⟨k, Nat.le_refl _, by omega, h, by rw [lexF, if_neg h], fun j h1 h2 => by omega⟩
theorem lexF_congr {f g : Nat -> Int} : ∀ (n k : Nat), (∀ i, f i = g i) -> lexF f k n = lexF g k n
 | 0, _, _ => rfl
 | n + 1, k, h => by
  unfold lexF
  rw [h k, lexF_congr n (k + 1) h]
theorem lexF_neg {f g : Nat -> Int} : ∀ (n k : Nat), (∀ i, f i = -g i) -> lexF f k n = -lexF g k n
 | 0, _, _ => rfl
 | n + 1, k, h => by
  unfold lexF
  rw [h k, lexF_neg n (k + 1) h]
  by_cases h0 : g k = 0
  .rw [if_pos h0, if_pos (by omega)]
  .rw [if_neg h0, if_neg (by omega)]
theorem cmp00 : cmpQ 0 0 = 0 := by decide +kernel
theorem lexM {rs ss : List Rat} {M : Nat} (h : max rs.length ss.length <= M) : lexQ rs ss = lexF (fun i => cmpQ (rs.getD i 0) (ss.getD i 0)) 0 M := by
 unfold lexQ
 obtain ⟨d, rfl⟩ := Nat.le.dest h
 rw [lexF_more _ d _ 0 fun i hi => ?_]
 show cmpQ _ _ = 0
 rw [getD_ge (by omega), getD_ge (by omega)]
 exact cmp00
theorem lex_congr {a b c d : List Rat} (h : ∀ i, cmpQ (a.getD i 0) (b.getD i 0) = cmpQ (c.getD i 0) (d.getD i 0)) : lexQ a b = lexQ c d := by
 rw [lexM (M := max (max a.length b.length) (max c.length d.length)) (by omega), lexM (rs := c) (ss := d) (M := max (max a.length b.length) (max c.length d.length)) (by omega)]
 exact lexF_congr _ _ h
theorem lex_neg {a b c d : List Rat} (h : ∀ i, cmpQ (a.getD i 0) (b.getD i 0) = -cmpQ (c.getD i 0) (d.getD i 0)) : lexQ a b = -lexQ c d := by
 rw [lexM (M := max (max a.length b.length) (max c.length d.length)) (by omega), lexM (rs := c) (ss := d) (M := max (max a.length b.length) (max c.length d.length)) (by omega)]
 exact lexF_neg _ _ h
theorem lex_zero {a b : List Rat} : lexQ a b = 0 ↔ ∀ i, a.getD i 0 = b.getD i 0 := by
 constructor
 .intro h i
  rcases lexF_cases (fun i => cmpQ (a.getD i 0) (b.getD i 0)) (max a.length b.length) 0 with ⟨_, h2⟩ | ⟨m, h1, h2, h3, h4, h5⟩
  .by_cases hi : i < max a.length b.length
   .exact cmpQ_zero.1 (h2 i (Nat.zero_le _) (by omega))
   .rw [getD_ge (by omega), getD_ge (by omega)]
  .exact absurd (h4.symm.trans h) h3
 .intro h
  exact lexF_zero _ _ _ fun j _ _ => cmpQ_zero.2 (h j)
theorem cmpQ_cs (r s : Rat) : (cmpQ r s = -1 /\ r < s) ∨ (cmpQ r s = 0 /\ r = s) ∨ (cmpQ r s = 1 /\ s < r) := by
 by_cases h1 : r < s
 .exact .inl ⟨by simp [cmpQ, h1], h1⟩
 .by_cases h2 : s < r
  .exact .inr (.inr ⟨by simp [cmpQ, h1, h2], h2⟩)
  .exact .inr (.inl ⟨by simp [cmpQ, h1, h2], Rat.le_antisymm (Rat.not_lt.1 h2) (Rat.not_lt.1 h1)⟩)
theorem cmpQ_l {r s : Rat} (h : r < s) : cmpQ r s = -1 := by simp [cmpQ, h]
theorem cmpQ_g {r s : Rat} (h : s < r) : cmpQ r s = 1 := by simp [cmpQ, h, Rat.not_lt.2 (Rat.le_of_lt h)]
theorem cmpQ_neg (a b : Rat) : cmpQ b a = -cmpQ a b := by
 rcases cmpQ_cs a b with ⟨h, h'⟩ | ⟨h, h'⟩ | ⟨h, h'⟩
 .rw [h, cmpQ_g h']; decide
 .rw [h, h']; exact cmpQ_zero.2 rfl
 .rw [h, cmpQ_l h']
theorem lex_range (a b : List Rat) : lexQ a b = -1 ∨ lexQ a b = 0 ∨ lexQ a b = 1 := by
 rcases lexF_cases (fun i => cmpQ (a.getD i 0) (b.getD i 0)) (max a.length b.length) 0 with ⟨h1, _⟩ | ⟨m, h1, h2, h3, h4, h5⟩
 .exact .inr (.inl h1)
 .have e : lexQ a b = cmpQ (a.getD m 0) (b.getD m 0) := h4
  rw [e]
  rcases cmpQ_cs (a.getD m 0) (b.getD m 0) with ⟨h, _⟩ | ⟨h, _⟩ | ⟨h, _⟩
  .exact .inl h
  .exact .inr (.inl h)
  .exact .inr (.inr h)
theorem lex_anti (a b : List Rat) : lexQ b a = -lexQ a b := lex_neg fun i => cmpQ_neg _ _
theorem lex_trans {a b c : List Rat} (h1 : lexQ a b <= 0) (h2 : lexQ b c <= 0) : lexQ a c = min (lexQ a b) (lexQ b c) := by
 obtain ⟨M, hM⟩ : ∃ M, max (max a.length b.length) c.length = M := ⟨_, rfl⟩
 rw [lexM (rs := a) (ss := b) (M := M) (by omega)] at h1 ⊢
 rw [lexM (rs := b) (ss := c) (M := M) (by omega)] at h2 ⊢
 rw [lexM (rs := a) (ss := c) (M := M) (by omega)]
 rcases lexF_cases (fun i => cmpQ (a.getD i 0) (b.getD i 0)) M 0 with ⟨e1, z1⟩ | ⟨k, _, k2, k3, k4, k5⟩
 .rw [e1]
  rw [show lexF (fun i => cmpQ (a.getD i 0) (c.getD i 0)) 0 M = lexF (fun i => cmpQ (b.getD i 0) (c.getD i 0)) 0 M from lexF_congr _ _ fun i => by
   have : a.getD i 0 = b.getD i 0 := by
    by_cases hi : i < M
    .exact cmpQ_zero.1 (z1 i (Nat.zero_le _) (by omega))
    .rw [getD_ge (by omega), getD_ge (by omega)]
   rw [this]]
  omega
 .rcases lexF_cases (fun i => cmpQ (b.getD i 0) (c.getD i 0)) M 0 with ⟨e2, z2⟩ | ⟨l, _, l2, l3, l4, l5⟩
  .rw [e2]
   rw [show lexF (fun i => cmpQ (a.getD i 0) (c.getD i 0)) 0 M = lexF (fun i => cmpQ (a.getD i 0) (b.getD i 0)) 0 M from lexF_congr _ _ fun i => by
    have : b.getD i 0 = c.getD i 0 := by
     by_cases hi : i < M
     .exact cmpQ_zero.1 (z2 i (Nat.zero_le _) (by omega))
     .rw [getD_ge (by omega), getD_ge (by omega)]
    rw [this]]
   omega
  .rw [k4] at h1 ⊢
   rw [l4] at h2 ⊢
   have hk : a.getD k 0 < b.getD k 0 /\ cmpQ (a.getD k 0) (b.getD k 0) = -1 := by
    rcases cmpQ_cs (a.getD k 0) (b.getD k 0) with ⟨h, h'⟩ | ⟨h, h'⟩ | ⟨h, h'⟩
    .exact ⟨h', h⟩
    .exact absurd h k3
    .omega
   have hl : b.getD l 0 < c.getD l 0 /\ cmpQ (b.getD l 0) (c.getD l 0) = -1 := by
    rcases cmpQ_cs (b.getD l 0) (c.getD l 0) with ⟨h, h'⟩ | ⟨h, h'⟩ | ⟨h, h'⟩
    .exact ⟨h', h⟩
    .exact absurd h l3
    .omega
   rw [hk.2, hl.2]
   obtain ⟨m, hm, hm2, hm3⟩ : ∃ m, m < M /\ a.getD m 0 < c.getD m 0 /\ ∀ j, j < m -> j < k /\ j < l := by
    rcases Nat.lt_trichotomy k l with h | h | h
    .have e := cmpQ_zero.1 (l5 k (Nat.zero_le _) h)
     exact ⟨k, by omega, by rw [<- e]; exact hk.1, fun j hj => ⟨hj, by omega⟩⟩
    .subst h
     exact ⟨k, by omega, Rat.not_le.1 fun h2 => absurd hl.1 (Rat.not_lt.2 (Rat.le_trans h2 (Rat.le_of_lt hk.1))), fun j hj => ⟨hj, hj⟩⟩
    .have e := cmpQ_zero.1 (k5 l (Nat.zero_le _) h)
     exact ⟨l, by omega, by rw [e]; exact hl.1, fun j hj => ⟨by omega, hj⟩⟩
   have hz : ∀ j, 0 <= j -> j < m -> cmpQ (a.getD j 0) (c.getD j 0) = 0 := fun j _ hj => by
    obtain ⟨h1, h2⟩ := hm3 j hj
    rw [cmpQ_zero, cmpQ_zero.1 (k5 j (Nat.zero_le _) h1), cmpQ_zero.1 (l5 j (Nat.zero_le _) h2)]
   rw [lexF_stop (fun i => cmpQ (a.getD i 0) (c.getD i 0)) M 0 m hz (Nat.zero_le _) (by omega) (by rw [cmpQ_l hm2]; decide), cmpQ_l hm2]
   decide
theorem cmp_add (a b c : Rat) : cmpQ (a + c) (b + c) = cmpQ a b := by
 have h1 : (a + c < b + c) = (a < b) := propext Rat.add_lt_add_right
 have h2 : (b + c < a + c) = (b < a) := propext Rat.add_lt_add_right
 unfold cmpQ
 simp only [h1, h2]
theorem lex_add (a b c : List Rat) : lexQ (ptw (fun r s => r + s) a c) (ptw (fun r s => r + s) b c) = lexQ a b := lex_congr fun i => by
 rw [ptw_getD (by decide +kernel), ptw_getD (by decide +kernel), cmp_add]
theorem cmp_sub (a b : Rat) : cmpQ (a - b) 0 = cmpQ a b := by
 have h := cmp_add (a - b) 0 b
 rw [Rat.sub_add_cancel, Rat.zero_add] at h
 exact h.symm
theorem lex_sub (a b : List Rat) : lexQ (ptw (fun r s => r - s) a b) [] = lexQ a b := lex_congr fun i => by
 rw [ptw_getD (by decide +kernel), show ([] : List Rat).getD i 0 = 0 from rfl, cmp_sub]
def scaleQ (t : Rat) (rs : List Rat) : List Rat := ptw (fun r s => t * r + s) rs []
theorem scaleQ_getD (t : Rat) (rs : List Rat) (i : Nat) : (scaleQ t rs).getD i 0 = t * rs.getD i 0 := by
 unfold scaleQ
 rw [ptw_getD (by rw [Rat.mul_zero, Rat.add_zero]), show ([] : List Rat).getD i 0 = 0 from rfl, Rat.add_zero]
theorem lex_scale (t : Rat) (a b : List Rat) : lexQ (scaleQ t a) (scaleQ t b) = lexQ a b * sgnQ t := by
 have hs := sgn_num t
 change sgnQ t = _ at hs
 by_cases h0 : t = 0
 .rw [hs, if_pos h0, Int.mul_zero, lex_zero]
  intro i
  rw [scaleQ_getD, scaleQ_getD, h0, Rat.zero_mul, Rat.zero_mul]
 .by_cases h1 : t < 0
  .rw [hs, if_neg h0, if_pos h1, show lexQ a b * -1 = -lexQ a b from by omega]
   refine lex_neg fun i => ?_
   rw [scaleQ_getD, scaleQ_getD]
   have hc : 0 < -t := by rw [Rat.lt_neg_iff]; exact h1
   have hm : ∀ x y : Rat, x < y -> t * y < t * x := fun x y hxy => by
    have h2 := Rat.mul_lt_mul_of_pos_right hxy hc
    rw [Rat.mul_neg, Rat.mul_neg, Rat.neg_lt_neg_iff, Rat.mul_comm, Rat.mul_comm x] at h2
    exact h2
   rcases cmpQ_cs (a.getD i 0) (b.getD i 0) with ⟨h, h'⟩ | ⟨h, h'⟩ | ⟨h, h'⟩
   .rw [h, cmpQ_g (hm _ _ h')]; decide
   .rw [h, h']; exact cmpQ_zero.2 rfl
   .rw [h, cmpQ_l (hm _ _ h')]
  .have h2 : 0 < t := Rat.lt_of_le_of_ne (Rat.not_lt.1 h1) (Ne.symm h0)
   rw [hs, if_neg h0, if_neg h1, Int.mul_one]
   refine lex_congr fun i => ?_
   rw [scaleQ_getD, scaleQ_getD]
   have hm : ∀ x y : Rat, x < y -> t * x < t * y := fun x y hxy => by
    have h3 := Rat.mul_lt_mul_of_pos_right hxy h2
    rw [Rat.mul_comm, Rat.mul_comm y] at h3
    exact h3
   rcases cmpQ_cs (a.getD i 0) (b.getD i 0) with ⟨h, h'⟩ | ⟨h, h'⟩ | ⟨h, h'⟩
   .rw [h, cmpQ_l (hm _ _ h')]
   .rw [h, h']; exact cmpQ_zero.2 rfl
   .rw [h, cmpQ_g (hm _ _ h')]
structure Vm (k : Nat) (rs : List Rat) : Prop where
 qm : ∀ i, Qm k (rs.getD i 0)
 len : rs.length <= 20
theorem Vm.l {k : Nat} {rs : List Rat} (h : Vm k rs) : rs.length <= 4398046511104 := Nat.le_trans h.len (by decide)
theorem Vm.nil : Vm 1 [] := ⟨fun i => ⟨Nat.pow_pos (by decide), Sm.one (by decide)⟩, by decide⟩
theorem Vm.add {k l : Nat} {rs ss : List Rat} (h : Vm k rs) (h' : Vm l ss) : Vm (k + l + 1) (ptw (fun r s => r + s) rs ss) :=
 ⟨fun i => by rw [ptw_getD (by decide +kernel)]; exact (h.qm i).add (h'.qm i), by have := h.len; have := h'.len; rw [ptw_length]; omega⟩
theorem Vm.sub {k l : Nat} {rs ss : List Rat} (h : Vm k rs) (h' : Vm l ss) : Vm (k + l + 1) (ptw (fun r s => r - s) rs ss) :=
 ⟨fun i => by rw [ptw_getD (by decide +kernel)]; exact (h.qm i).sub (h'.qm i), by have := h.len; have := h'.len; rw [ptw_length]; omega⟩
theorem Vm.scale {m k : Nat} {t : Rat} {rs : List Rat} (ht : Qm m t) (h : Vm k rs) : Vm (m + k) (scaleQ t rs) :=
 ⟨fun i => by rw [scaleQ_getD]; exact ht.mul (h.qm i), by unfold scaleQ; rw [ptw_length]; have := h.len; simp; omega⟩
theorem Vi.qm {W : World} {A : Option Addr} {c : Nat} {es : List E4} {rs : List Rat} {k : Nat} (h : Vi W A c es rs k) (hk : 0 < k) (i : Nat) : Qm k (rs.getD i 0) := (h.el i).qm hk
theorem vscale_v {w : World} {k1 k2 k3 k4 : Value} {t : Rat} {m : Nat} {A : Option Addr} {c : Nat} {es : List E4} {rs : List Rat} {k : Nat} (hT : Qi w k1 k2 k3 k4 t m) (hA : Vi w A c es rs k) (hm : 0 < m) (hk : 0 < k) (hmk : m + k + 2 <= 10000) (h1 : rs.length <= 4398046511104) :
  Calls Tryz.prog 18 #[.agg #[k1, k2, k3, k4], .slice A rs.length c] w (VR w (scaleQ t rs)) := by
 obtain ⟨W0, hW0⟩ : ∃ W0, W0 = w.alloc (.cells #[k1, k2, k3, k4] 26) := ⟨_, rfl⟩
 have hbw : Below w.heap.size w W0 := by rw [hW0]; exact (Below.refl _ _).alloc (Nat.le_refl _) _
 have HC := Hd (vscaled_v (c' := 0) (A' := none) (hT.to hbw) (hA.to hbw) (Vi.nil W0 (k := 1) (by decide)) hm hk (by decide) (by omega) h1 (by decide))
 have HW0 := Hd hW0
 have HB := Hd hbw
 clear hA hT hW0 hbw
 go_enter Tryz.func18, Tryz.ntmps18
 go_wp2_with fail
 rw [<- HW0.out]
 refine HC.out.mono ?_
 rintro e V ⟨A1, c1, fl, rfl, hv, bb⟩
 go_wp2
 go_ret
 exact ⟨_, _, _, rfl, hv, HB.out.trans (bb.mono HB.out.size)⟩
end Go.Proofs.YtcgdbdhhoomgiaaGreat
