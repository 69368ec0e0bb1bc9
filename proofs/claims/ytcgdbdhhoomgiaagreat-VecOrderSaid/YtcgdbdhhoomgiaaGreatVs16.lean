/- Parts: 2. -/
import Derived.Test.YtcgdbdhhoomgiaaGreatVs15
import Derived.Laws.EntriesVeiled
set_option linter.unusedVariables false
set_option linter.unusedSimpArgs false
set_option maxRecDepth 100000
set_option maxHeartbeats 40000000

namespace Go.Proofs.YtcgdbdhhoomgiaaGreat
open Go.RowKit Go.Shelf
theorem callf_enter {P : Program} {f : FuncId} {fn : Func} (hf : P.funcs[f]? = some fn) (hname : (fn.name == "runtime.NumGoroutine") = false) (hb : fn.body.isNone = false) (args : Array Value) (w : World) :
  (callFunc f args).run P w = .ok (.enter f args) w := by
 have h1 : fn.name ≠ "runtime.NumGoroutine" := by simpa using hname
 have h2 : fn.body ≠ none := fun h => by rw [h] at hb; cases hb
 simp [callFunc, hf, h1, h2]
theorem operate_any {w : World} {a1 a2 a3 a4 b1 b2 b3 b4 : Value} {r s R : Rat} {k l i : Nat} {sg : Int} {fn fd : Nat} (h1 : Qi w a1 a2 a3 a4 r k) (h2 : Qi w b1 b2 b3 b4 s l) (hk : 0 < k) (hl : 0 < l) (hk2 : k <= 10000) (hl2 : l <= 10000)
  (hf : Instr.findNow (.int .i32) (.int .i32 sg) #[⟨.int .i32 43, .agg #[.func (.func 85) #[] #[], .func (.func 87) #[] #[]], 0⟩, ⟨.int .i32 45, .agg #[.func (.func 88) #[] #[], .func (.func 87) #[] #[]], 1⟩, ⟨.int .i32 42, .agg #[.func (.func 90) #[] #[], .func (.func 87) #[] #[]], 2⟩, ⟨.int .i32 47, .agg #[.func (.func 80) #[] #[], .func (.func 91) #[] #[]], 3⟩].toList 0 = some (some (i, .agg #[.func (.func fn) #[] #[], .func (.func fd) #[] #[]])))
  (ecn : ∀ args V, (callFunc fn args).run Tryz.prog V = .ok (.enter fn args) V) (ecd : ∀ args V, (callFunc fd args).run Tryz.prog V = .ok (.enter fd args) V)
  (num den : Int -> Int -> Int -> Int -> Int)
  (hn : ∀ (V : World) (a1 a2 a3 a4 b1 b2 b3 b4 : Value) (N1 D1 N2 D2 : Int), Up V a1 a2 a3 a4 r k N1 D1 -> Up V b1 b2 b3 b4 s l N2 D2 -> Calls Tryz.prog fn #[.agg #[a1, a2, a3, a4], .agg #[b1, b2, b3, b4]] V (ZR V (num N1 D1 N2 D2)))
  (hd : ∀ (V : World) (a1 a2 a3 a4 b1 b2 b3 b4 : Value) (N1 D1 N2 D2 : Int), Up V a1 a2 a3 a4 r k N1 D1 -> Up V b1 b2 b3 b4 s l N2 D2 -> Calls Tryz.prog fd #[.agg #[a1, a2, a3, a4], .agg #[b1, b2, b3, b4]] V (ZR V (den N1 D1 N2 D2)))
  (hz : ∀ N1 D1 N2 D2 : Int, 0 < D1 -> 0 < D2 -> Sm k N1 -> Sm k D1 -> Sm l N2 -> Sm l D2 -> Rat.divInt N1 D1 = r -> Rat.divInt N2 D2 = s -> den N1 D1 N2 D2 ≠ 0 /\ Sg (num N1 D1 N2 D2) /\ Sg (den N1 D1 N2 D2) /\ Rat.divInt (num N1 D1 N2 D2) (den N1 D1 N2 D2) = R) :
  Calls Tryz.prog 65 #[.int .i32 sg, .agg #[a1, a2, a3, a4], .agg #[b1, b2, b3, b4]] w (QR w R) := by
 obtain ⟨W0, hW0⟩ : ∃ W0, W0 = ((w.alloc (.cells #[a1, a2, a3, a4] 26)).alloc (.cells #[b1, b2, b3, b4] 26)).alloc (.cells #[.bool false, .slice none 0 0, .bool false, .slice none 0 0] 26) := ⟨_, rfl⟩
 have hbw : Below w.heap.size w W0 := by rw [hW0]; exact (((Below.refl _ _).alloc (Nat.le_refl _) _).alloc (by simp) _).alloc (by simp; omega) _
 have tA : Four W0 w.heap.size a1 a2 a3 a4 := by rw [hW0]; exact ((Four.new w _ _ _ _ _).alloc _).alloc _
 have tB : Four W0 (w.heap.size + 1) b1 b2 b3 b4 := by
  have h := Four.new (w.alloc (.cells #[a1, a2, a3, a4] 26)) b1 b2 b3 b4 26
  rw [World.size_alloc] at h
  rw [hW0]; exact h.alloc _
 have tR : Four W0 (w.heap.size + 1 + 1) (.bool false) (.slice none 0 0) (.bool false) (.slice none 0 0) := by
  have h := Four.new ((w.alloc (.cells #[a1, a2, a3, a4] 26)).alloc (.cells #[b1, b2, b3, b4] 26)) (.bool false) (.slice none 0 0) (.bool false) (.slice none 0 0) 26
  rw [World.size_alloc, World.size_alloc] at h
  rw [hW0]; exact h
 have HW0 := Hd hW0
 have HU1 : Hid (∀ V, Below W0.heap.size W0 V -> Calls Tryz.prog 78 #[.agg #[a1, a2, a3, a4]] V (UpR V r k)) := fun V hb => upright_q ((h1.to hbw).to hb) hk hk2
 have HU2 : Hid (∀ V, Below W0.heap.size W0 V -> Calls Tryz.prog 78 #[.agg #[b1, b2, b3, b4]] V (UpR V s l)) := fun V hb => upright_q ((h2.to hbw).to hb) hl hl2
 have ECN := Hd ecn
 have ECD := Hd ecd
 have HN := Hd hn
 have HD := Hd hd
 have HZ := Hd hz
 have HB0 := Hd hbw
 clear hW0 hbw h1 h2 hk hl hk2 hl2 hn hd hz ecn ecd
 have e0 : (Instr.makeMap 87 none).run Tryz.prog W0 = .ok (.map (some W0.heap.size)) (W0.alloc (.map #[] 0)) := rfl
 have e1 : (Instr.mapUpdate 87 (.map (some W0.heap.size)) (.int .i32 43) (.agg #[.func (.func 85) #[] #[], .func (.func 87) #[] #[]])).run Tryz.prog (W0.alloc (.map #[] 0)) = .ok () (W0.alloc (.map #[⟨.int .i32 43, .agg #[.func (.func 85) #[] #[], .func (.func 87) #[] #[]], 0⟩] 1)) := run_ins Tryz.underlying87 Tryz.underlying21 rfl
 have e2 : (Instr.mapUpdate 87 (.map (some W0.heap.size)) (.int .i32 45) (.agg #[.func (.func 88) #[] #[], .func (.func 87) #[] #[]])).run Tryz.prog (W0.alloc (.map #[⟨.int .i32 43, .agg #[.func (.func 85) #[] #[], .func (.func 87) #[] #[]], 0⟩] 1)) = .ok () (W0.alloc (.map #[⟨.int .i32 43, .agg #[.func (.func 85) #[] #[], .func (.func 87) #[] #[]], 0⟩, ⟨.int .i32 45, .agg #[.func (.func 88) #[] #[], .func (.func 87) #[] #[]], 1⟩] 2)) := run_ins Tryz.underlying87 Tryz.underlying21 rfl
 have e3 : (Instr.mapUpdate 87 (.map (some W0.heap.size)) (.int .i32 42) (.agg #[.func (.func 90) #[] #[], .func (.func 87) #[] #[]])).run Tryz.prog (W0.alloc (.map #[⟨.int .i32 43, .agg #[.func (.func 85) #[] #[], .func (.func 87) #[] #[]], 0⟩, ⟨.int .i32 45, .agg #[.func (.func 88) #[] #[], .func (.func 87) #[] #[]], 1⟩] 2)) = .ok () (W0.alloc (.map #[⟨.int .i32 43, .agg #[.func (.func 85) #[] #[], .func (.func 87) #[] #[]], 0⟩, ⟨.int .i32 45, .agg #[.func (.func 88) #[] #[], .func (.func 87) #[] #[]], 1⟩, ⟨.int .i32 42, .agg #[.func (.func 90) #[] #[], .func (.func 87) #[] #[]], 2⟩] 3)) := run_ins Tryz.underlying87 Tryz.underlying21 rfl
 have e4 : (Instr.mapUpdate 87 (.map (some W0.heap.size)) (.int .i32 47) (.agg #[.func (.func 80) #[] #[], .func (.func 91) #[] #[]])).run Tryz.prog (W0.alloc (.map #[⟨.int .i32 43, .agg #[.func (.func 85) #[] #[], .func (.func 87) #[] #[]], 0⟩, ⟨.int .i32 45, .agg #[.func (.func 88) #[] #[], .func (.func 87) #[] #[]], 1⟩, ⟨.int .i32 42, .agg #[.func (.func 90) #[] #[], .func (.func 87) #[] #[]], 2⟩] 3)) = .ok () (W0.alloc (.map #[⟨.int .i32 43, .agg #[.func (.func 85) #[] #[], .func (.func 87) #[] #[]], 0⟩, ⟨.int .i32 45, .agg #[.func (.func 88) #[] #[], .func (.func 87) #[] #[]], 1⟩, ⟨.int .i32 42, .agg #[.func (.func 90) #[] #[], .func (.func 87) #[] #[]], 2⟩, ⟨.int .i32 47, .agg #[.func (.func 80) #[] #[], .func (.func 91) #[] #[]], 3⟩] 4)) := run_ins Tryz.underlying87 Tryz.underlying21 rfl
 have e6 : (Instr.lookup 87 (.map (some W0.heap.size)) (.int .i32 sg) false).run Tryz.prog (W0.alloc (.map #[⟨.int .i32 43, .agg #[.func (.func 85) #[] #[], .func (.func 87) #[] #[]], 0⟩, ⟨.int .i32 45, .agg #[.func (.func 88) #[] #[], .func (.func 87) #[] #[]], 1⟩, ⟨.int .i32 42, .agg #[.func (.func 90) #[] #[], .func (.func 87) #[] #[]], 2⟩, ⟨.int .i32 47, .agg #[.func (.func 80) #[] #[], .func (.func 91) #[] #[]], 3⟩] 4)) = .ok (.agg #[.func (.func fn) #[] #[], .func (.func fd) #[] #[]]) (W0.alloc (.map #[⟨.int .i32 43, .agg #[.func (.func 85) #[] #[], .func (.func 87) #[] #[]], 0⟩, ⟨.int .i32 45, .agg #[.func (.func 88) #[] #[], .func (.func 87) #[] #[]], 1⟩, ⟨.int .i32 42, .agg #[.func (.func 90) #[] #[], .func (.func 87) #[] #[]], 2⟩, ⟨.int .i32 47, .agg #[.func (.func 80) #[] #[], .func (.func 91) #[] #[]], 3⟩] 4)) := run_look Tryz.underlying87 Tryz.underlying21 (World.alloc_heap_new W0 (.map #[⟨.int .i32 43, .agg #[.func (.func 85) #[] #[], .func (.func 87) #[] #[]], 0⟩, ⟨.int .i32 45, .agg #[.func (.func 88) #[] #[], .func (.func 87) #[] #[]], 1⟩, ⟨.int .i32 42, .agg #[.func (.func 90) #[] #[], .func (.func 87) #[] #[]], 2⟩, ⟨.int .i32 47, .agg #[.func (.func 80) #[] #[], .func (.func 91) #[] #[]], 3⟩] 4)) hf
 clear hf
 go_enter Tryz.func65, Tryz.ntmps65
 go_wp2_with fail
 rw [<- HW0.out, e0]
 go_wp2_with fail
 obtain ⟨W1, hW1⟩ : ∃ W1, W1 = (W0.alloc (.map #[⟨.int .i32 43, .agg #[.func (.func 85) #[] #[], .func (.func 87) #[] #[]], 0⟩, ⟨.int .i32 45, .agg #[.func (.func 88) #[] #[], .func (.func 87) #[] #[]], 1⟩, ⟨.int .i32 42, .agg #[.func (.func 90) #[] #[], .func (.func 87) #[] #[]], 2⟩, ⟨.int .i32 47, .agg #[.func (.func 80) #[] #[], .func (.func 91) #[] #[]], 3⟩] 4)).alloc (.cells #[.func (.func fn) #[] #[], .func (.func fd) #[] #[]] 86) := ⟨_, rfl⟩
 obtain ⟨g8, hg8⟩ : ∃ g, g = W0.heap.size + 1 := ⟨_, rfl⟩
 have bw : Below W0.heap.size W0 W1 := by rw [hW1]; exact ((Below.refl _ _).alloc (Nat.le_refl _) _).alloc (by simp) _
 have t8 : Two W1 g8 (.func (.func fn) #[] #[]) (.func (.func fd) #[] #[]) := by
  have h := Two.new (W0.alloc (.map #[⟨.int .i32 43, .agg #[.func (.func 85) #[] #[], .func (.func 87) #[] #[]], 0⟩, ⟨.int .i32 45, .agg #[.func (.func 88) #[] #[], .func (.func 87) #[] #[]], 1⟩, ⟨.int .i32 42, .agg #[.func (.func 90) #[] #[], .func (.func 87) #[] #[]], 2⟩, ⟨.int .i32 47, .agg #[.func (.func 80) #[] #[], .func (.func 91) #[] #[]], 3⟩] 4)) (.func (.func fn) #[] #[]) (.func (.func fd) #[] #[]) 86
  rw [World.size_alloc] at h
  rw [hW1, hg8]; exact h
 have gne : w.heap.size + 1 + 1 < g8 := by have := tR.lt; omega
 rw [<- hW1, <- hg8]
 clear hW1 hg8 e0 e1 e2 e3 e4 e6 HW0
 replace tA := tA.to bw
 replace tB := tB.to bw
 replace tR := tR.to bw
 replace HU1 : Hid (∀ V, Below W1.heap.size W1 V -> Calls Tryz.prog 78 #[.agg #[a1, a2, a3, a4]] V (UpR V r k)) := fun V hb => HU1.out V (bx bw hb)
 replace HU2 : Hid (∀ V, Below W1.heap.size W1 V -> Calls Tryz.prog 78 #[.agg #[b1, b2, b3, b4]] V (UpR V s l)) := fun V hb => HU2.out V (bx bw hb)
 replace HB0 := hx HB0 bw
 clear bw
 refine wp_cut (fun a' v' w' => ∃ (x1 x2 : Value) (g1 g2 : Nat) (u10 u11 u12 u13 u20 u21 u22 u23 y1 y2 : Value) (N1 D1 N2 D2 : Int), v' = ((((((a'.put (some 20) x1).put (some 22) x2).put (some 21) y1).put (some 23) y2).put (some 9) (.pointer (some ⟨g1, 0, none⟩))).put (some 10) (.pointer (some ⟨g2, 0, none⟩))) /\ Four w' g1 u10 u11 u12 u13 /\ Four w' g2 u20 u21 u22 u23 /\ Up w' u10 u11 u12 u13 r k N1 D1 /\ Up w' u20 u21 u22 u23 s l N2 D2 /\ (W1.heap.size <= g1 /\ W1.heap.size <= g2) /\ Below W1.heap.size W1 w') ?_ ?_
 .refine wp_region_planTo (S := fun w' => Below W1.heap.size W1 w') [(0, true), (2, true)] #[true, false, true, false, false, false, false, false] 6 (by kernel_rfl) (by kernel_rfl) (Below.refl _ _).drew ?_
  refine plan_take rfl (by rfl) (fun w' hS => load_four (by rfl) (tA.to hS)) ?_; simp only [Act.put, List.setIfInBounds_toArray, List.set_cons_zero, List.set_cons_succ]
  refine plan_take rfl (by rfl) (fun w' hS => load_four (by rfl) (tB.to hS)) ?_; simp only [Act.put, List.setIfInBounds_toArray, List.set_cons_zero, List.set_cons_succ]
  intro HB
  refine wpAnyH_ready (rs := [1, 4, 5]) (by kernel_rfl) (by simp) (ready_cons rfl (by rfl) (fun K hK => ?_) (ready_cons rfl (by rfl) (fun K hK => ?_) (ready_cons rfl (by rfl) (fun K hK => ?_) AllReadyH.nil)))
  .go_simp
   refine (HU1 _ HB).mono ?_
   rintro e V ⟨u10, u11, u12, u13, N1, D1, rfl, r1, bb⟩
   replace HB := bx HB bb
   refine hK.out _ _ HB ?_
   clear hK K bb
   refine wpAnyH_ready (rs := [3, 4, 5]) (by kernel_rfl) (by simp) (ready_cons rfl (by rfl) (fun K hK => ?_) (ready_cons rfl (by rfl) (fun K hK => ?_) (ready_cons rfl (by rfl) (fun K hK => ?_) AllReadyH.nil)))
   .go_simp
    refine (HU2 _ HB).mono ?_
    rintro e V ⟨u20, u21, u22, u23, N2, D2, rfl, r2, bb⟩
    replace HB := bx HB bb
    replace r1 := r1.to bb
    refine hK.out _ _ HB ?_
    clear hK K bb
    refine wpAnyH_ready (rs := [4, 5]) (by kernel_rfl) (by simp) (ready_cons rfl (by rfl) (fun K hK => ?_) (ready_cons rfl (by rfl) (fun K hK => ?_) AllReadyH.nil))
    .refine wp_alloc_four (fun g1 V t1 bb hg => ?_)
     have b1 := Nat.le_trans HB.size hg
     replace HB := bx HB bb
     replace r1 := r1.to bb
     replace r2 := r2.to bb
     refine hK.out _ _ HB ?_
     clear hK K bb hg
     simp only [Act.put, List.setIfInBounds_toArray, List.set_cons_zero, List.set_cons_succ]
     refine rdy1 (i := 5) (by kernel_rfl) rfl (by rfl) (fun K hK => ?_)
     .refine wp_alloc_four (fun g2 V t2 bb hg => ?_)
      have b2 := Nat.le_trans HB.size hg
      replace HB := bx HB bb
      have ne : g1 ≠ g2 := Nat.ne_of_lt (Nat.lt_of_lt_of_le t1.lt hg)
      replace t1 := t1.to bb
      replace r1 := r1.to bb
      replace r2 := r2.to bb
      refine hK.out _ _ HB ?_
      clear hK K bb hg
      simp only [Act.put, List.setIfInBounds_toArray, List.set_cons_zero, List.set_cons_succ]
      refine rdy1 (i := 6) (by kernel_rfl) rfl (by rfl) (fun K hK => ?_)
      .refine wp_store_q (by rfl) (by rfl) t1 Fq.nil r1.fq (fun V u kp => ?_)
       replace t2 := kp.four (Ne.symm ne) t2
       replace r1 := kp.up r1
       replace r2 := kp.up r2
       replace HB := kp.bel _ _ HB b1
       clear t1
       have t1 := u
       refine hK.out _ _ HB ?_
       clear hK K kp u
       simp only [Act.put, List.setIfInBounds_toArray, List.set_cons_zero, List.set_cons_succ]
       refine rdy1 (i := 7) (by kernel_rfl) rfl (by rfl) (fun K hK => ?_)
       .refine wp_store_q (by rfl) (by rfl) t2 Fq.nil r2.fq (fun V u kp => ?_)
        replace t1 := kp.four ne t1
        replace r1 := kp.up r1
        replace r2 := kp.up r2
        replace HB := kp.bel _ _ HB b2
        clear t2
        have t2 := u
        refine hK.out _ _ HB ?_
        clear hK K kp u
        simp only [Act.put, List.setIfInBounds_toArray, List.set_cons_zero, List.set_cons_succ]
        exact wpAnyH_done (by kernel_rfl) ⟨rfl, _, _, g1, g2, _, _, _, _, _, _, _, _, _, _, _, _, _, _, by rfl, t1, t2, r1, r2, ⟨b1, b2⟩, HB⟩ _
    .refine wp_alloc_four (fun g2 V t2 bb hg => ?_)
     have b2 := Nat.le_trans HB.size hg
     replace HB := bx HB bb
     replace r1 := r1.to bb
     replace r2 := r2.to bb
     refine hK.out _ _ HB ?_
     clear hK K bb hg
     simp only [Act.put, List.setIfInBounds_toArray, List.set_cons_zero, List.set_cons_succ]
     refine rdy1 (i := 4) (by kernel_rfl) rfl (by rfl) (fun K hK => ?_)
     .refine wp_alloc_four (fun g1 V t1 bb hg => ?_)
      have b1 := Nat.le_trans HB.size hg
      replace HB := bx HB bb
      have ne : g1 ≠ g2 := Nat.ne_of_gt (Nat.lt_of_lt_of_le t2.lt hg)
      replace t2 := t2.to bb
      replace r1 := r1.to bb
      replace r2 := r2.to bb
      refine hK.out _ _ HB ?_
      clear hK K bb hg
      simp only [Act.put, List.setIfInBounds_toArray, List.set_cons_zero, List.set_cons_succ]
      refine rdy1 (i := 6) (by kernel_rfl) rfl (by rfl) (fun K hK => ?_)
      .refine wp_store_q (by rfl) (by rfl) t1 Fq.nil r1.fq (fun V u kp => ?_)
       replace t2 := kp.four (Ne.symm ne) t2
       replace r1 := kp.up r1
       replace r2 := kp.up r2
       replace HB := kp.bel _ _ HB b1
       clear t1
       have t1 := u
       refine hK.out _ _ HB ?_
       clear hK K kp u
       simp only [Act.put, List.setIfInBounds_toArray, List.set_cons_zero, List.set_cons_succ]
       refine rdy1 (i := 7) (by kernel_rfl) rfl (by rfl) (fun K hK => ?_)
       .refine wp_store_q (by rfl) (by rfl) t2 Fq.nil r2.fq (fun V u kp => ?_)
        replace t1 := kp.four ne t1
        replace r1 := kp.up r1
        replace r2 := kp.up r2
        replace HB := kp.bel _ _ HB b2
        clear t2
        have t2 := u
        refine hK.out _ _ HB ?_
        clear hK K kp u
        simp only [Act.put, List.setIfInBounds_toArray, List.set_cons_zero, List.set_cons_succ]
        exact wpAnyH_done (by kernel_rfl) ⟨rfl, _, _, g1, g2, _, _, _, _, _, _, _, _, _, _, _, _, _, _, by rfl, t1, t2, r1, r2, ⟨b1, b2⟩, HB⟩ _
   .refine wp_alloc_four (fun g1 V t1 bb hg => ?_)
    have b1 := Nat.le_trans HB.size hg
    replace HB := bx HB bb
    replace r1 := r1.to bb
    refine hK.out _ _ HB ?_
    clear hK K bb hg
    simp only [Act.put, List.setIfInBounds_toArray, List.set_cons_zero, List.set_cons_succ]
    refine wpAnyH_ready (rs := [3, 5]) (by kernel_rfl) (by simp) (ready_cons rfl (by rfl) (fun K hK => ?_) (ready_cons rfl (by rfl) (fun K hK => ?_) AllReadyH.nil))
    .go_simp
     refine (HU2 _ HB).mono ?_
     rintro e V ⟨u20, u21, u22, u23, N2, D2, rfl, r2, bb⟩
     replace HB := bx HB bb
     replace t1 := t1.to bb
     replace r1 := r1.to bb
     refine hK.out _ _ HB ?_
     clear hK K bb
     refine rdy1 (i := 5) (by kernel_rfl) rfl (by rfl) (fun K hK => ?_)
     .refine wp_alloc_four (fun g2 V t2 bb hg => ?_)
      have b2 := Nat.le_trans HB.size hg
      replace HB := bx HB bb
      have ne : g1 ≠ g2 := Nat.ne_of_lt (Nat.lt_of_lt_of_le t1.lt hg)
      replace t1 := t1.to bb
      replace r1 := r1.to bb
      replace r2 := r2.to bb
      refine hK.out _ _ HB ?_
      clear hK K bb hg
      simp only [Act.put, List.setIfInBounds_toArray, List.set_cons_zero, List.set_cons_succ]
      refine rdy1 (i := 6) (by kernel_rfl) rfl (by rfl) (fun K hK => ?_)
      .refine wp_store_q (by rfl) (by rfl) t1 Fq.nil r1.fq (fun V u kp => ?_)
       replace t2 := kp.four (Ne.symm ne) t2
       replace r1 := kp.up r1
       replace r2 := kp.up r2
       replace HB := kp.bel _ _ HB b1
       clear t1
       have t1 := u
       refine hK.out _ _ HB ?_
       clear hK K kp u
       simp only [Act.put, List.setIfInBounds_toArray, List.set_cons_zero, List.set_cons_succ]
       refine rdy1 (i := 7) (by kernel_rfl) rfl (by rfl) (fun K hK => ?_)
       .refine wp_store_q (by rfl) (by rfl) t2 Fq.nil r2.fq (fun V u kp => ?_)
        replace t1 := kp.four ne t1
        replace r1 := kp.up r1
        replace r2 := kp.up r2
        replace HB := kp.bel _ _ HB b2
        clear t2
        have t2 := u
        refine hK.out _ _ HB ?_
        clear hK K kp u
        simp only [Act.put, List.setIfInBounds_toArray, List.set_cons_zero, List.set_cons_succ]
        exact wpAnyH_done (by kernel_rfl) ⟨rfl, _, _, g1, g2, _, _, _, _, _, _, _, _, _, _, _, _, _, _, by rfl, t1, t2, r1, r2, ⟨b1, b2⟩, HB⟩ _
    .refine wp_alloc_four (fun g2 V t2 bb hg => ?_)
     have b2 := Nat.le_trans HB.size hg
     replace HB := bx HB bb
     have ne : g1 ≠ g2 := Nat.ne_of_lt (Nat.lt_of_lt_of_le t1.lt hg)
     replace t1 := t1.to bb
     replace r1 := r1.to bb
     refine hK.out _ _ HB ?_
     clear hK K bb hg
     simp only [Act.put, List.setIfInBounds_toArray, List.set_cons_zero, List.set_cons_succ]
     refine rdy1 (i := 3) (by kernel_rfl) rfl (by rfl) (fun K hK => ?_)
     .go_simp
      refine (HU2 _ HB).mono ?_
      rintro e V ⟨u20, u21, u22, u23, N2, D2, rfl, r2, bb⟩
      replace HB := bx HB bb
      replace t1 := t1.to bb
      replace t2 := t2.to bb
      replace r1 := r1.to bb
      refine hK.out _ _ HB ?_
      clear hK K bb
      refine rdy1 (i := 6) (by kernel_rfl) rfl (by rfl) (fun K hK => ?_)
      .refine wp_store_q (by rfl) (by rfl) t1 Fq.nil r1.fq (fun V u kp => ?_)
       replace t2 := kp.four (Ne.symm ne) t2
       replace r1 := kp.up r1
       replace r2 := kp.up r2
       replace HB := kp.bel _ _ HB b1
       clear t1
       have t1 := u
       refine hK.out _ _ HB ?_
       clear hK K kp u
       simp only [Act.put, List.setIfInBounds_toArray, List.set_cons_zero, List.set_cons_succ]
       refine rdy1 (i := 7) (by kernel_rfl) rfl (by rfl) (fun K hK => ?_)
       .refine wp_store_q (by rfl) (by rfl) t2 Fq.nil r2.fq (fun V u kp => ?_)
        replace t1 := kp.four ne t1
        replace r1 := kp.up r1
        replace r2 := kp.up r2
        replace HB := kp.bel _ _ HB b2
        clear t2
        have t2 := u
        refine hK.out _ _ HB ?_
        clear hK K kp u
        simp only [Act.put, List.setIfInBounds_toArray, List.set_cons_zero, List.set_cons_succ]
        exact wpAnyH_done (by kernel_rfl) ⟨rfl, _, _, g1, g2, _, _, _, _, _, _, _, _, _, _, _, _, _, _, by rfl, t1, t2, r1, r2, ⟨b1, b2⟩, HB⟩ _
   .refine wp_alloc_four (fun g2 V t2 bb hg => ?_)
    have b2 := Nat.le_trans HB.size hg
    replace HB := bx HB bb
    replace r1 := r1.to bb
    refine hK.out _ _ HB ?_
    clear hK K bb hg
    simp only [Act.put, List.setIfInBounds_toArray, List.set_cons_zero, List.set_cons_succ]
    refine wpAnyH_ready (rs := [3, 4]) (by kernel_rfl) (by simp) (ready_cons rfl (by rfl) (fun K hK => ?_) (ready_cons rfl (by rfl) (fun K hK => ?_) AllReadyH.nil))
    .go_simp
     refine (HU2 _ HB).mono ?_
     rintro e V ⟨u20, u21, u22, u23, N2, D2, rfl, r2, bb⟩
     replace HB := bx HB bb
     replace t2 := t2.to bb
     replace r1 := r1.to bb
     refine hK.out _ _ HB ?_
     clear hK K bb
     refine rdy1 (i := 4) (by kernel_rfl) rfl (by rfl) (fun K hK => ?_)
     .refine wp_alloc_four (fun g1 V t1 bb hg => ?_)
      have b1 := Nat.le_trans HB.size hg
      replace HB := bx HB bb
      have ne : g1 ≠ g2 := Nat.ne_of_gt (Nat.lt_of_lt_of_le t2.lt hg)
      replace t2 := t2.to bb
      replace r1 := r1.to bb
      replace r2 := r2.to bb
      refine hK.out _ _ HB ?_
      clear hK K bb hg
      simp only [Act.put, List.setIfInBounds_toArray, List.set_cons_zero, List.set_cons_succ]
      refine rdy1 (i := 6) (by kernel_rfl) rfl (by rfl) (fun K hK => ?_)
      .refine wp_store_q (by rfl) (by rfl) t1 Fq.nil r1.fq (fun V u kp => ?_)
       replace t2 := kp.four (Ne.symm ne) t2
       replace r1 := kp.up r1
       replace r2 := kp.up r2
       replace HB := kp.bel _ _ HB b1
       clear t1
       have t1 := u
       refine hK.out _ _ HB ?_
       clear hK K kp u
       simp only [Act.put, List.setIfInBounds_toArray, List.set_cons_zero, List.set_cons_succ]
       refine rdy1 (i := 7) (by kernel_rfl) rfl (by rfl) (fun K hK => ?_)
       .refine wp_store_q (by rfl) (by rfl) t2 Fq.nil r2.fq (fun V u kp => ?_)
        replace t1 := kp.four ne t1
        replace r1 := kp.up r1
        replace r2 := kp.up r2
        replace HB := kp.bel _ _ HB b2
        clear t2
        have t2 := u
        refine hK.out _ _ HB ?_
        clear hK K kp u
        simp only [Act.put, List.setIfInBounds_toArray, List.set_cons_zero, List.set_cons_succ]
        exact wpAnyH_done (by kernel_rfl) ⟨rfl, _, _, g1, g2, _, _, _, _, _, _, _, _, _, _, _, _, _, _, by rfl, t1, t2, r1, r2, ⟨b1, b2⟩, HB⟩ _
    .refine wp_alloc_four (fun g1 V t1 bb hg => ?_)
     have b1 := Nat.le_trans HB.size hg
     replace HB := bx HB bb
     have ne : g1 ≠ g2 := Nat.ne_of_gt (Nat.lt_of_lt_of_le t2.lt hg)
     replace t2 := t2.to bb
     replace r1 := r1.to bb
     refine hK.out _ _ HB ?_
     clear hK K bb hg
     simp only [Act.put, List.setIfInBounds_toArray, List.set_cons_zero, List.set_cons_succ]
     refine rdy1 (i := 3) (by kernel_rfl) rfl (by rfl) (fun K hK => ?_)
     .go_simp
      refine (HU2 _ HB).mono ?_
      rintro e V ⟨u20, u21, u22, u23, N2, D2, rfl, r2, bb⟩
      replace HB := bx HB bb
      replace t1 := t1.to bb
      replace t2 := t2.to bb
      replace r1 := r1.to bb
      refine hK.out _ _ HB ?_
      clear hK K bb
      refine rdy1 (i := 6) (by kernel_rfl) rfl (by rfl) (fun K hK => ?_)
      .refine wp_store_q (by rfl) (by rfl) t1 Fq.nil r1.fq (fun V u kp => ?_)
       replace t2 := kp.four (Ne.symm ne) t2
       replace r1 := kp.up r1
       replace r2 := kp.up r2
       replace HB := kp.bel _ _ HB b1
       clear t1
       have t1 := u
       refine hK.out _ _ HB ?_
       clear hK K kp u
       simp only [Act.put, List.setIfInBounds_toArray, List.set_cons_zero, List.set_cons_succ]
       refine rdy1 (i := 7) (by kernel_rfl) rfl (by rfl) (fun K hK => ?_)
       .refine wp_store_q (by rfl) (by rfl) t2 Fq.nil r2.fq (fun V u kp => ?_)
        replace t1 := kp.four ne t1
        replace r1 := kp.up r1
        replace r2 := kp.up r2
        replace HB := kp.bel _ _ HB b2
        clear t2
        have t2 := u
        refine hK.out _ _ HB ?_
        clear hK K kp u
        simp only [Act.put, List.setIfInBounds_toArray, List.set_cons_zero, List.set_cons_succ]
        exact wpAnyH_done (by kernel_rfl) ⟨rfl, _, _, g1, g2, _, _, _, _, _, _, _, _, _, _, _, _, _, _, by rfl, t1, t2, r1, r2, ⟨b1, b2⟩, HB⟩ _
  .refine wp_alloc_four (fun g1 V t1 bb hg => ?_)
   have b1 := Nat.le_trans HB.size hg
   replace HB := bx HB bb
   refine hK.out _ _ HB ?_
   clear hK K bb hg
   simp only [Act.put, List.setIfInBounds_toArray, List.set_cons_zero, List.set_cons_succ]
   refine wpAnyH_ready (rs := [1, 5]) (by kernel_rfl) (by simp) (ready_cons rfl (by rfl) (fun K hK => ?_) (ready_cons rfl (by rfl) (fun K hK => ?_) AllReadyH.nil))
   .go_simp
    refine (HU1 _ HB).mono ?_
    rintro e V ⟨u10, u11, u12, u13, N1, D1, rfl, r1, bb⟩
    replace HB := bx HB bb
    replace t1 := t1.to bb
    refine hK.out _ _ HB ?_
    clear hK K bb
    refine wpAnyH_ready (rs := [3, 5]) (by kernel_rfl) (by simp) (ready_cons rfl (by rfl) (fun K hK => ?_) (ready_cons rfl (by rfl) (fun K hK => ?_) AllReadyH.nil))
    .go_simp
     refine (HU2 _ HB).mono ?_
     rintro e V ⟨u20, u21, u22, u23, N2, D2, rfl, r2, bb⟩
     replace HB := bx HB bb
     replace t1 := t1.to bb
     replace r1 := r1.to bb
     refine hK.out _ _ HB ?_
     clear hK K bb
     refine rdy1 (i := 5) (by kernel_rfl) rfl (by rfl) (fun K hK => ?_)
     .refine wp_alloc_four (fun g2 V t2 bb hg => ?_)
      have b2 := Nat.le_trans HB.size hg
      replace HB := bx HB bb
      have ne : g1 ≠ g2 := Nat.ne_of_lt (Nat.lt_of_lt_of_le t1.lt hg)
      replace t1 := t1.to bb
      replace r1 := r1.to bb
      replace r2 := r2.to bb
      refine hK.out _ _ HB ?_
      clear hK K bb hg
      simp only [Act.put, List.setIfInBounds_toArray, List.set_cons_zero, List.set_cons_succ]
      refine rdy1 (i := 6) (by kernel_rfl) rfl (by rfl) (fun K hK => ?_)
      .refine wp_store_q (by rfl) (by rfl) t1 Fq.nil r1.fq (fun V u kp => ?_)
       replace t2 := kp.four (Ne.symm ne) t2
       replace r1 := kp.up r1
       replace r2 := kp.up r2
       replace HB := kp.bel _ _ HB b1
       clear t1
       have t1 := u
       refine hK.out _ _ HB ?_
       clear hK K kp u
       simp only [Act.put, List.setIfInBounds_toArray, List.set_cons_zero, List.set_cons_succ]
       refine rdy1 (i := 7) (by kernel_rfl) rfl (by rfl) (fun K hK => ?_)
       .refine wp_store_q (by rfl) (by rfl) t2 Fq.nil r2.fq (fun V u kp => ?_)
        replace t1 := kp.four ne t1
        replace r1 := kp.up r1
        replace r2 := kp.up r2
        replace HB := kp.bel _ _ HB b2
        clear t2
        have t2 := u
        refine hK.out _ _ HB ?_
        clear hK K kp u
        simp only [Act.put, List.setIfInBounds_toArray, List.set_cons_zero, List.set_cons_succ]
        exact wpAnyH_done (by kernel_rfl) ⟨rfl, _, _, g1, g2, _, _, _, _, _, _, _, _, _, _, _, _, _, _, by rfl, t1, t2, r1, r2, ⟨b1, b2⟩, HB⟩ _
    .refine wp_alloc_four (fun g2 V t2 bb hg => ?_)
     have b2 := Nat.le_trans HB.size hg
     replace HB := bx HB bb
     have ne : g1 ≠ g2 := Nat.ne_of_lt (Nat.lt_of_lt_of_le t1.lt hg)
     replace t1 := t1.to bb
     replace r1 := r1.to bb
     refine hK.out _ _ HB ?_
     clear hK K bb hg
     simp only [Act.put, List.setIfInBounds_toArray, List.set_cons_zero, List.set_cons_succ]
     refine rdy1 (i := 3) (by kernel_rfl) rfl (by rfl) (fun K hK => ?_)
     .go_simp
      refine (HU2 _ HB).mono ?_
      rintro e V ⟨u20, u21, u22, u23, N2, D2, rfl, r2, bb⟩
      replace HB := bx HB bb
      replace t1 := t1.to bb
      replace t2 := t2.to bb
      replace r1 := r1.to bb
      refine hK.out _ _ HB ?_
      clear hK K bb
      refine rdy1 (i := 6) (by kernel_rfl) rfl (by rfl) (fun K hK => ?_)
      .refine wp_store_q (by rfl) (by rfl) t1 Fq.nil r1.fq (fun V u kp => ?_)
       replace t2 := kp.four (Ne.symm ne) t2
       replace r1 := kp.up r1
       replace r2 := kp.up r2
       replace HB := kp.bel _ _ HB b1
       clear t1
       have t1 := u
       refine hK.out _ _ HB ?_
       clear hK K kp u
       simp only [Act.put, List.setIfInBounds_toArray, List.set_cons_zero, List.set_cons_succ]
       refine rdy1 (i := 7) (by kernel_rfl) rfl (by rfl) (fun K hK => ?_)
       .refine wp_store_q (by rfl) (by rfl) t2 Fq.nil r2.fq (fun V u kp => ?_)
        replace t1 := kp.four ne t1
        replace r1 := kp.up r1
        replace r2 := kp.up r2
        replace HB := kp.bel _ _ HB b2
        clear t2
        have t2 := u
        refine hK.out _ _ HB ?_
        clear hK K kp u
        simp only [Act.put, List.setIfInBounds_toArray, List.set_cons_zero, List.set_cons_succ]
        exact wpAnyH_done (by kernel_rfl) ⟨rfl, _, _, g1, g2, _, _, _, _, _, _, _, _, _, _, _, _, _, _, by rfl, t1, t2, r1, r2, ⟨b1, b2⟩, HB⟩ _
   .refine wp_alloc_four (fun g2 V t2 bb hg => ?_)
    have b2 := Nat.le_trans HB.size hg
    replace HB := bx HB bb
    have ne : g1 ≠ g2 := Nat.ne_of_lt (Nat.lt_of_lt_of_le t1.lt hg)
    replace t1 := t1.to bb
    refine hK.out _ _ HB ?_
    clear hK K bb hg
    simp only [Act.put, List.setIfInBounds_toArray, List.set_cons_zero, List.set_cons_succ]
    refine rdy1 (i := 1) (by kernel_rfl) rfl (by rfl) (fun K hK => ?_)
    .go_simp
     refine (HU1 _ HB).mono ?_
     rintro e V ⟨u10, u11, u12, u13, N1, D1, rfl, r1, bb⟩
     replace HB := bx HB bb
     replace t1 := t1.to bb
     replace t2 := t2.to bb
     refine hK.out _ _ HB ?_
     clear hK K bb
     refine rdy1 (i := 3) (by kernel_rfl) rfl (by rfl) (fun K hK => ?_)
     .go_simp
      refine (HU2 _ HB).mono ?_
      rintro e V ⟨u20, u21, u22, u23, N2, D2, rfl, r2, bb⟩
      replace HB := bx HB bb
      replace t1 := t1.to bb
      replace t2 := t2.to bb
      replace r1 := r1.to bb
      refine hK.out _ _ HB ?_
      clear hK K bb
      refine rdy1 (i := 6) (by kernel_rfl) rfl (by rfl) (fun K hK => ?_)
      .refine wp_store_q (by rfl) (by rfl) t1 Fq.nil r1.fq (fun V u kp => ?_)
       replace t2 := kp.four (Ne.symm ne) t2
       replace r1 := kp.up r1
       replace r2 := kp.up r2
       replace HB := kp.bel _ _ HB b1
       clear t1
       have t1 := u
       refine hK.out _ _ HB ?_
       clear hK K kp u
       simp only [Act.put, List.setIfInBounds_toArray, List.set_cons_zero, List.set_cons_succ]
       refine rdy1 (i := 7) (by kernel_rfl) rfl (by rfl) (fun K hK => ?_)
       .refine wp_store_q (by rfl) (by rfl) t2 Fq.nil r2.fq (fun V u kp => ?_)
        replace t1 := kp.four ne t1
        replace r1 := kp.up r1
        replace r2 := kp.up r2
        replace HB := kp.bel _ _ HB b2
        clear t2
        have t2 := u
        refine hK.out _ _ HB ?_
        clear hK K kp u
        simp only [Act.put, List.setIfInBounds_toArray, List.set_cons_zero, List.set_cons_succ]
        exact wpAnyH_done (by kernel_rfl) ⟨rfl, _, _, g1, g2, _, _, _, _, _, _, _, _, _, _, _, _, _, _, by rfl, t1, t2, r1, r2, ⟨b1, b2⟩, HB⟩ _
  .refine wp_alloc_four (fun g2 V t2 bb hg => ?_)
   have b2 := Nat.le_trans HB.size hg
   replace HB := bx HB bb
   refine hK.out _ _ HB ?_
   clear hK K bb hg
   simp only [Act.put, List.setIfInBounds_toArray, List.set_cons_zero, List.set_cons_succ]
   refine wpAnyH_ready (rs := [1, 4]) (by kernel_rfl) (by simp) (ready_cons rfl (by rfl) (fun K hK => ?_) (ready_cons rfl (by rfl) (fun K hK => ?_) AllReadyH.nil))
   .go_simp
    refine (HU1 _ HB).mono ?_
    rintro e V ⟨u10, u11, u12, u13, N1, D1, rfl, r1, bb⟩
    replace HB := bx HB bb
    replace t2 := t2.to bb
    refine hK.out _ _ HB ?_
    clear hK K bb
    refine wpAnyH_ready (rs := [3, 4]) (by kernel_rfl) (by simp) (ready_cons rfl (by rfl) (fun K hK => ?_) (ready_cons rfl (by rfl) (fun K hK => ?_) AllReadyH.nil))
    .go_simp
     refine (HU2 _ HB).mono ?_
     rintro e V ⟨u20, u21, u22, u23, N2, D2, rfl, r2, bb⟩
     replace HB := bx HB bb
     replace t2 := t2.to bb
     replace r1 := r1.to bb
     refine hK.out _ _ HB ?_
     clear hK K bb
     refine rdy1 (i := 4) (by kernel_rfl) rfl (by rfl) (fun K hK => ?_)
     .refine wp_alloc_four (fun g1 V t1 bb hg => ?_)
      have b1 := Nat.le_trans HB.size hg
      replace HB := bx HB bb
      have ne : g1 ≠ g2 := Nat.ne_of_gt (Nat.lt_of_lt_of_le t2.lt hg)
      replace t2 := t2.to bb
      replace r1 := r1.to bb
      replace r2 := r2.to bb
      refine hK.out _ _ HB ?_
      clear hK K bb hg
      simp only [Act.put, List.setIfInBounds_toArray, List.set_cons_zero, List.set_cons_succ]
      refine rdy1 (i := 6) (by kernel_rfl) rfl (by rfl) (fun K hK => ?_)
      .refine wp_store_q (by rfl) (by rfl) t1 Fq.nil r1.fq (fun V u kp => ?_)
       replace t2 := kp.four (Ne.symm ne) t2
       replace r1 := kp.up r1
       replace r2 := kp.up r2
       replace HB := kp.bel _ _ HB b1
       clear t1
       have t1 := u
       refine hK.out _ _ HB ?_
       clear hK K kp u
       simp only [Act.put, List.setIfInBounds_toArray, List.set_cons_zero, List.set_cons_succ]
       refine rdy1 (i := 7) (by kernel_rfl) rfl (by rfl) (fun K hK => ?_)
       .refine wp_store_q (by rfl) (by rfl) t2 Fq.nil r2.fq (fun V u kp => ?_)
        replace t1 := kp.four ne t1
        replace r1 := kp.up r1
        replace r2 := kp.up r2
        replace HB := kp.bel _ _ HB b2
        clear t2
        have t2 := u
        refine hK.out _ _ HB ?_
        clear hK K kp u
        simp only [Act.put, List.setIfInBounds_toArray, List.set_cons_zero, List.set_cons_succ]
        exact wpAnyH_done (by kernel_rfl) ⟨rfl, _, _, g1, g2, _, _, _, _, _, _, _, _, _, _, _, _, _, _, by rfl, t1, t2, r1, r2, ⟨b1, b2⟩, HB⟩ _
    .refine wp_alloc_four (fun g1 V t1 bb hg => ?_)
     have b1 := Nat.le_trans HB.size hg
     replace HB := bx HB bb
     have ne : g1 ≠ g2 := Nat.ne_of_gt (Nat.lt_of_lt_of_le t2.lt hg)
     replace t2 := t2.to bb
     replace r1 := r1.to bb
     refine hK.out _ _ HB ?_
     clear hK K bb hg
     simp only [Act.put, List.setIfInBounds_toArray, List.set_cons_zero, List.set_cons_succ]
     refine rdy1 (i := 3) (by kernel_rfl) rfl (by rfl) (fun K hK => ?_)
     .go_simp
      refine (HU2 _ HB).mono ?_
      rintro e V ⟨u20, u21, u22, u23, N2, D2, rfl, r2, bb⟩
      replace HB := bx HB bb
      replace t1 := t1.to bb
      replace t2 := t2.to bb
      replace r1 := r1.to bb
      refine hK.out _ _ HB ?_
      clear hK K bb
      refine rdy1 (i := 6) (by kernel_rfl) rfl (by rfl) (fun K hK => ?_)
      .refine wp_store_q (by rfl) (by rfl) t1 Fq.nil r1.fq (fun V u kp => ?_)
       replace t2 := kp.four (Ne.symm ne) t2
       replace r1 := kp.up r1
       replace r2 := kp.up r2
       replace HB := kp.bel _ _ HB b1
       clear t1
       have t1 := u
       refine hK.out _ _ HB ?_
       clear hK K kp u
       simp only [Act.put, List.setIfInBounds_toArray, List.set_cons_zero, List.set_cons_succ]
       refine rdy1 (i := 7) (by kernel_rfl) rfl (by rfl) (fun K hK => ?_)
       .refine wp_store_q (by rfl) (by rfl) t2 Fq.nil r2.fq (fun V u kp => ?_)
        replace t1 := kp.four ne t1
        replace r1 := kp.up r1
        replace r2 := kp.up r2
        replace HB := kp.bel _ _ HB b2
        clear t2
        have t2 := u
        refine hK.out _ _ HB ?_
        clear hK K kp u
        simp only [Act.put, List.setIfInBounds_toArray, List.set_cons_zero, List.set_cons_succ]
        exact wpAnyH_done (by kernel_rfl) ⟨rfl, _, _, g1, g2, _, _, _, _, _, _, _, _, _, _, _, _, _, _, by rfl, t1, t2, r1, r2, ⟨b1, b2⟩, HB⟩ _
   .refine wp_alloc_four (fun g1 V t1 bb hg => ?_)
    have b1 := Nat.le_trans HB.size hg
    replace HB := bx HB bb
    have ne : g1 ≠ g2 := Nat.ne_of_gt (Nat.lt_of_lt_of_le t2.lt hg)
    replace t2 := t2.to bb
    refine hK.out _ _ HB ?_
    clear hK K bb hg
    simp only [Act.put, List.setIfInBounds_toArray, List.set_cons_zero, List.set_cons_succ]
    refine rdy1 (i := 1) (by kernel_rfl) rfl (by rfl) (fun K hK => ?_)
    .go_simp
     refine (HU1 _ HB).mono ?_
     rintro e V ⟨u10, u11, u12, u13, N1, D1, rfl, r1, bb⟩
     replace HB := bx HB bb
     replace t1 := t1.to bb
     replace t2 := t2.to bb
     refine hK.out _ _ HB ?_
     clear hK K bb
     refine rdy1 (i := 3) (by kernel_rfl) rfl (by rfl) (fun K hK => ?_)
     .go_simp
      refine (HU2 _ HB).mono ?_
      rintro e V ⟨u20, u21, u22, u23, N2, D2, rfl, r2, bb⟩
      replace HB := bx HB bb
      replace t1 := t1.to bb
      replace t2 := t2.to bb
      replace r1 := r1.to bb
      refine hK.out _ _ HB ?_
      clear hK K bb
      refine rdy1 (i := 6) (by kernel_rfl) rfl (by rfl) (fun K hK => ?_)
      .refine wp_store_q (by rfl) (by rfl) t1 Fq.nil r1.fq (fun V u kp => ?_)
       replace t2 := kp.four (Ne.symm ne) t2
       replace r1 := kp.up r1
       replace r2 := kp.up r2
       replace HB := kp.bel _ _ HB b1
       clear t1
       have t1 := u
       refine hK.out _ _ HB ?_
       clear hK K kp u
       simp only [Act.put, List.setIfInBounds_toArray, List.set_cons_zero, List.set_cons_succ]
       refine rdy1 (i := 7) (by kernel_rfl) rfl (by rfl) (fun K hK => ?_)
       .refine wp_store_q (by rfl) (by rfl) t2 Fq.nil r2.fq (fun V u kp => ?_)
        replace t1 := kp.four ne t1
        replace r1 := kp.up r1
        replace r2 := kp.up r2
        replace HB := kp.bel _ _ HB b2
        clear t2
        have t2 := u
        refine hK.out _ _ HB ?_
        clear hK K kp u
        simp only [Act.put, List.setIfInBounds_toArray, List.set_cons_zero, List.set_cons_succ]
        exact wpAnyH_done (by kernel_rfl) ⟨rfl, _, _, g1, g2, _, _, _, _, _, _, _, _, _, _, _, _, _, _, by rfl, t1, t2, r1, r2, ⟨b1, b2⟩, HB⟩ _
 rintro v' W2 ⟨x1, x2, g1, g2, u10, u11, u12, u13, u20, u21, u22, u23, y1, y2, N1, D1, N2, D2, rfl, t1, t2, r1, r2, hge, HB⟩
 simp only [Act.put, List.setIfInBounds_toArray, List.set_cons_zero, List.set_cons_succ]
 have hg1 : w.heap.size + 1 + 1 < g1 := by have := tR.lt; have := hge.1; omega
 have hg2 : w.heap.size + 1 + 1 < g2 := by have := tR.lt; have := hge.2; omega
 clear hge
 replace tR := tR.to HB
 replace t8 := t8.to HB
 replace HB0 := hx HB0 HB
 have z := Hd (HZ.out N1 D1 N2 D2 r1.pos r2.pos r1.sn r1.sd r2.sn r2.sd r1.eq r2.eq)
 clear HB HU1 HU2 HZ tA tB
 go_wp2_with fail
 refine wp_region_plan (S := fun w' => Below w.heap.size w w' /\ Two w' g8 (.func (.func fn) #[] #[]) (.func (.func fd) #[] #[]) /\ Four w' g1 u10 u11 u12 u13 /\ Four w' g2 u20 u21 u22 u23) [(0, true), (1, true), (2, true), (3, true), (5, true), (6, true), (7, true), (8, true), (4, false), (9, false), (10, false), (11, false)] (by kernel_rfl) (by kernel_rfl) ⟨HB0.out.drew, t8.to (Below.refl _ _).drew, t1.to (Below.refl _ _).drew, t2.to (Below.refl _ _).drew⟩ ?_
 have HB := HB0.out.drew
 have bb := (Below.refl W2.heap.size W2).drew
 replace t8 := t8.to bb
 replace t1 := t1.to bb
 replace t2 := t2.to bb
 replace tR := tR.to bb
 replace r1 := r1.to bb
 replace r2 := r2.to bb
 clear bb HB0
 iterate 2 (refine plan_take (v := ?_) rfl (by rfl) ?_ ?_; rotate_left; (focus (intro w' hS; have k0 := hS.2.1.c0; have k1 := hS.2.1.c1; go_simp; try with_reducible rfl)); simp only [Act.put, List.setIfInBounds_toArray, List.set_cons_zero, List.set_cons_succ])
 refine plan_take rfl (by rfl) (fun w' hS => load_four (by rfl) hS.2.2.1) ?_; simp only [Act.put, List.setIfInBounds_toArray, List.set_cons_zero, List.set_cons_succ]
 refine plan_take rfl (by rfl) (fun w' hS => load_four (by rfl) hS.2.2.2) ?_; simp only [Act.put, List.setIfInBounds_toArray, List.set_cons_zero, List.set_cons_succ]
 iterate 2 (refine plan_take (v := ?_) rfl (by rfl) ?_ ?_; rotate_left; (focus (intro w' hS; have k0 := hS.2.1.c0; have k1 := hS.2.1.c1; go_simp; try with_reducible rfl)); simp only [Act.put, List.setIfInBounds_toArray, List.set_cons_zero, List.set_cons_succ])
 refine plan_take rfl (by rfl) (fun w' hS => load_four (by rfl) hS.2.2.1) ?_; simp only [Act.put, List.setIfInBounds_toArray, List.set_cons_zero, List.set_cons_succ]
 refine plan_take rfl (by rfl) (fun w' hS => load_four (by rfl) hS.2.2.2) ?_; simp only [Act.put, List.setIfInBounds_toArray, List.set_cons_zero, List.set_cons_succ]
 refine plan_call rfl (by rfl) (fun K hK => ?_)
 go_simp
 rw [ECN.out]
 go_simp
 refine (HN.out _ _ _ _ _ _ _ _ _ _ _ _ _ r1 r2).mono ?_
 rintro e V3 ⟨x3, y3, rfl, z3, bb⟩
 replace HB := bx HB bb
 replace t8 := t8.to bb
 replace t1 := t1.to bb
 replace t2 := t2.to bb
 replace tR := tR.to bb
 replace r1 := r1.to bb
 replace r2 := r2.to bb
 refine hK.out _ _ ⟨HB, t8, t1, t2⟩ ?_
 clear hK K bb HN
 refine plan_call rfl (by rfl) (fun K hK => ?_)
 go_simp
 rw [ECD.out]
 go_simp
 refine (HD.out _ _ _ _ _ _ _ _ _ _ _ _ _ r1 r2).mono ?_
 rintro e V4 ⟨x4, y4, rfl, z4, bb⟩
 replace HB := bx HB bb
 replace t8 := t8.to bb
 replace t1 := t1.to bb
 replace t2 := t2.to bb
 replace tR := tR.to bb
 replace z3 := z3.to bb
 refine hK.out _ _ ⟨HB, t8, t1, t2⟩ ?_
 clear hK K bb HD r1 r2
 refine plan_call rfl (by rfl) (fun K hK => ?_)
 go_simp
 refine (quotient_z (z3.zs z.out.2.1) (z4.zs z.out.2.2.1) z.out.1 z.out.2.1 z.out.2.2.1).mono ?_
 rintro e V5 ⟨x5, x6, x7, x8, rfl, q5, bb⟩
 replace HB := bx HB bb
 replace t8 := t8.to bb
 replace t1 := t1.to bb
 replace t2 := t2.to bb
 replace tR := tR.to bb
 refine hK.out _ _ ⟨HB, t8, t1, t2⟩ ?_
 clear hK K bb z3 z4
 refine plan_call rfl (by rfl) (fun K hK => ?_)
 refine wp_store_q (by rfl) (by rfl) tR Fq.nil q5.fq (fun V u kp => ?_)
 replace t8 := kp.two (by omega) t8
 replace t1 := kp.four (by omega) t1
 replace t2 := kp.four (by omega) t2
 replace HB := kp.bel _ _ HB (by omega)
 replace q5 := kp.qc q5
 refine hK.out _ _ ⟨HB, t8, t1, t2⟩ ?_
 clear hK K kp tR t8 t1 t2
 simp only [Act.put, List.setIfInBounds_toArray, List.set_cons_zero, List.set_cons_succ]
 refine plan_done ?_
 have U0 := u.c0
 have U1 := u.c1
 have U2 := u.c2
 have U3 := u.c3
 rw [z.out.2.2.2] at q5
 have Q5 := Hd q5
 have HE := Hd HB
 obtain ⟨⟨m1, A1, l1, k1, rfl, rfl⟩, ⟨m2, A2, l2, k2, rfl, rfl⟩⟩ := q5.fq
 clear q5 HB u z
 go_wp2
 refine bodyPost_ret (v := .agg #[.bool m1, .slice A1 l1 k1, .bool m2, .slice A2 l2 k2]) (by simp [results, Tryz.f65, go_sem, U0, U1, U2, U3]) rfl ?_
 exact ⟨_, _, _, _, rfl, Q5.out, HE.out⟩
theorem operate_add {w : World} {a1 a2 a3 a4 b1 b2 b3 b4 : Value} {r s : Rat} {k l : Nat} (h1 : Qi w a1 a2 a3 a4 r k) (h2 : Qi w b1 b2 b3 b4 s l) (hk : 0 < k) (hl : 0 < l) (hkl : k + l + 1 <= 10000) :
  Calls Tryz.prog 65 #[.int .i32 43, .agg #[a1, a2, a3, a4], .agg #[b1, b2, b3, b4]] w (QR w (r + s)) :=
 operate_any h1 h2 hk hl (by omega) (by omega) (i := 0) (fn := 85) (fd := 87) rfl (callf_enter Tryz.func85 (by kernel_rfl) (by kernel_rfl)) (callf_enter Tryz.func87 (by kernel_rfl) (by kernel_rfl)) (fun N1 D1 N2 D2 => N1 * D2 + N2 * D1) (fun N1 D1 N2 D2 => D1 * D2)
  (fun V a1 a2 a3 a4 b1 b2 b3 b4 N1 D1 N2 D2 u v => clos_add u.n u.d v.n v.d u.sn u.sd v.sn v.sd (by omega)) (fun V a1 a2 a3 a4 b1 b2 b3 b4 N1 D1 N2 D2 u v => below_z u.d v.d)
  (fun N1 D1 N2 D2 p1 p2 m1 m2 m3 m4 e1 e2 => by
   have hne : D1 * D2 ≠ 0 := Int.mul_ne_zero (by omega) (by omega)
   subst e1 e2
   refine ⟨hne, ((m1.mul m4).add ((m3.mul m2).mono (Nat.le_of_eq (Nat.add_comm l k)))).sg (by omega), (m2.mul m4).sg (by omega), ?_⟩
   exact (Rat.divInt_add_divInt N1 N2 (by omega) (by omega)).symm)
theorem operate_sub {w : World} {a1 a2 a3 a4 b1 b2 b3 b4 : Value} {r s : Rat} {k l : Nat} (h1 : Qi w a1 a2 a3 a4 r k) (h2 : Qi w b1 b2 b3 b4 s l) (hk : 0 < k) (hl : 0 < l) (hkl : k + l + 1 <= 10000) :
  Calls Tryz.prog 65 #[.int .i32 45, .agg #[a1, a2, a3, a4], .agg #[b1, b2, b3, b4]] w (QR w (r - s)) :=
 operate_any h1 h2 hk hl (by omega) (by omega) (i := 1) (fn := 88) (fd := 87) rfl (callf_enter Tryz.func88 (by kernel_rfl) (by kernel_rfl)) (callf_enter Tryz.func87 (by kernel_rfl) (by kernel_rfl)) (fun N1 D1 N2 D2 => N1 * D2 - N2 * D1) (fun N1 D1 N2 D2 => D1 * D2)
  (fun V a1 a2 a3 a4 b1 b2 b3 b4 N1 D1 N2 D2 u v => clos_sub u.n u.d v.n v.d u.sn u.sd v.sn v.sd (by omega)) (fun V a1 a2 a3 a4 b1 b2 b3 b4 N1 D1 N2 D2 u v => below_z u.d v.d)
  (fun N1 D1 N2 D2 p1 p2 m1 m2 m3 m4 e1 e2 => by
   have hne : D1 * D2 ≠ 0 := Int.mul_ne_zero (by omega) (by omega)
   subst e1 e2
   refine ⟨hne, ((m1.mul m4).sub ((m3.mul m2).mono (Nat.le_of_eq (Nat.add_comm l k)))).sg (by omega), (m2.mul m4).sg (by omega), ?_⟩
   exact (Rat.divInt_sub_divInt N1 N2 (by omega) (by omega)).symm)
theorem operate_mul {w : World} {a1 a2 a3 a4 b1 b2 b3 b4 : Value} {r s : Rat} {k l : Nat} (h1 : Qi w a1 a2 a3 a4 r k) (h2 : Qi w b1 b2 b3 b4 s l) (hk : 0 < k) (hl : 0 < l) (hkl : k + l + 1 <= 10000) :
  Calls Tryz.prog 65 #[.int .i32 42, .agg #[a1, a2, a3, a4], .agg #[b1, b2, b3, b4]] w (QR w (r * s)) :=
 operate_any h1 h2 hk hl (by omega) (by omega) (i := 2) (fn := 90) (fd := 87) rfl (callf_enter Tryz.func90 (by kernel_rfl) (by kernel_rfl)) (callf_enter Tryz.func87 (by kernel_rfl) (by kernel_rfl)) (fun N1 D1 N2 D2 => N1 * N2) (fun N1 D1 N2 D2 => D1 * D2)
  (fun V a1 a2 a3 a4 b1 b2 b3 b4 N1 D1 N2 D2 u v => above_z u.n v.n) (fun V a1 a2 a3 a4 b1 b2 b3 b4 N1 D1 N2 D2 u v => below_z u.d v.d)
  (fun N1 D1 N2 D2 p1 p2 m1 m2 m3 m4 e1 e2 => by
   have hne : D1 * D2 ≠ 0 := Int.mul_ne_zero (by omega) (by omega)
   subst e1 e2
   refine ⟨hne, (m1.mul m3).sg (by omega), (m2.mul m4).sg (by omega), ?_⟩
   exact (Rat.divInt_mul_divInt N1 N2).symm)
end Go.Proofs.YtcgdbdhhoomgiaaGreat
