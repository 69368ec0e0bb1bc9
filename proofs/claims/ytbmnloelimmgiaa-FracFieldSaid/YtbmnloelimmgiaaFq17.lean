/- Parts: Q1, MapLit. -/
import Derived.Test.YtbmnloelimmgiaaFq6
import Derived.Test.YtbmnloelimmgiaaFq16
import Derived.MapKept
set_option linter.unusedVariables false
set_option linter.unusedSimpArgs false

namespace Go.Proofs.Ytbmnloelimmgiaa
set_option maxRecDepth 100000
open Go.RowKit Go.Shelf


set_option maxHeartbeats 4000000 in
theorem cross_z {w : World} {a1 a2 a3 a4 b1 b2 b3 b4 : Value} {N D : Int} (h1 : Zl w a1 a2 N) (h4 : Zl w b3 b4 D) :
    Calls Try.prog 34 #[.agg #[a1, a2, a3, a4], .agg #[b1, b2, b3, b4]] w (ZR w (N * D)) := by
  obtain ⟨W0, hW0⟩ : ∃ W0, W0 = ((w.alloc (.cells #[a1, a2, a3, a4] 26)).alloc (.cells #[b1, b2, b3, b4] 26)).alloc (.cells #[.bool false, .slice none 0 0] 24) := ⟨_, rfl⟩
  have hbw : Below w.heap.size w W0 := by rw [hW0]; exact (((Below.refl _ _).alloc (Nat.le_refl _) _).alloc (by simp) _).alloc (by simp; omega) _
  have tA : Four W0 w.heap.size a1 a2 a3 a4 := by rw [hW0]; exact ((Four.new w _ _ _ _ _).alloc _).alloc _
  have tB : Four W0 (w.heap.size + 1) b1 b2 b3 b4 := by
    have h := Four.new (w.alloc (.cells #[a1, a2, a3, a4] 26)) b1 b2 b3 b4 26
    rw [World.size_alloc] at h
    rw [hW0]; exact h.alloc _
  have tR : Two W0 (w.heap.size + 1 + 1) (.bool false) (.slice none 0 0) := by
    have h := Two.new ((w.alloc (.cells #[a1, a2, a3, a4] 26)).alloc (.cells #[b1, b2, b3, b4] 26)) (.bool false) (.slice none 0 0) 24
    rw [World.size_alloc, World.size_alloc] at h
    rw [hW0]; exact h
  have HW0 := Lib.hid hW0
  have HA := Lib.hid (h1.to hbw)
  have HD := Lib.hid (h4.to hbw)
  have HB := Lib.hid hbw
  clear h1 h4 hW0 hbw
  go_enter Try.func34, Try.ntmps34
  go_wp2_with fail
  rw [← HW0.out]
  have k0 := tA.c0
  have k1 := tA.c1
  have k2 := tA.c2
  have k3 := tA.c3
  have l0 := tB.c0
  have l1 := tB.c1
  have l2 := tB.c2
  have l3 := tB.c3
  go_wp2_with fail
  refine (mul_z HA.out.zi HD.out.zi).mono ?_
  rintro e V1 ⟨x, y, rfl, rz, bb⟩
  replace tR := tR.to bb
  replace HB := Lib.hid (HB.out.trans (bb.mono HB.out.size))
  clear k0 k1 k2 k3 l0 l1 l2 l3 bb tA tB HA HD HW0
  obtain ⟨z, ez⟩ : ∃ z, Hid (N * D = z) := ⟨_, rfl⟩
  rw [ez.out] at rz
  have RZ := Lib.hid rz
  obtain ⟨n1, A1, l1, m1, rfl, rfl⟩ := rz.fs
  obtain ⟨V2, eV, u, kp, _⟩ := pack2 tR Fs.nil (.bool n1) (.slice A1 l1 m1)
  obtain ⟨v0, v1, v2, v3, _⟩ := tR
  have EV := Lib.hid eV
  have KP := Lib.hid kp
  have U := Lib.hid u
  clear eV kp u rz
  go_wp2
  rw [EV.out]
  refine bodyPost_ret (v := .agg #[.bool n1, .slice A1 l1 m1]) (by simp [results, Try.f34, go_sem, U.out.c0, U.out.c1]) rfl ?_
  rw [ez.out]
  exact ⟨_, _, rfl, KP.out.zc _ _ _ RZ.out, KP.out.bel _ _ HB.out (by omega)⟩

set_option maxHeartbeats 4000000 in
theorem above_z {w : World} {a1 a2 a3 a4 b1 b2 b3 b4 : Value} {N D : Int} (h1 : Zl w a1 a2 N) (h4 : Zl w b1 b2 D) :
    Calls Try.prog 52 #[.agg #[a1, a2, a3, a4], .agg #[b1, b2, b3, b4]] w (ZR w (N * D)) := by
  obtain ⟨W0, hW0⟩ : ∃ W0, W0 = ((w.alloc (.cells #[a1, a2, a3, a4] 26)).alloc (.cells #[b1, b2, b3, b4] 26)).alloc (.cells #[.bool false, .slice none 0 0] 24) := ⟨_, rfl⟩
  have hbw : Below w.heap.size w W0 := by rw [hW0]; exact (((Below.refl _ _).alloc (Nat.le_refl _) _).alloc (by simp) _).alloc (by simp; omega) _
  have tA : Four W0 w.heap.size a1 a2 a3 a4 := by rw [hW0]; exact ((Four.new w _ _ _ _ _).alloc _).alloc _
  have tB : Four W0 (w.heap.size + 1) b1 b2 b3 b4 := by
    have h := Four.new (w.alloc (.cells #[a1, a2, a3, a4] 26)) b1 b2 b3 b4 26
    rw [World.size_alloc] at h
    rw [hW0]; exact h.alloc _
  have tR : Two W0 (w.heap.size + 1 + 1) (.bool false) (.slice none 0 0) := by
    have h := Two.new ((w.alloc (.cells #[a1, a2, a3, a4] 26)).alloc (.cells #[b1, b2, b3, b4] 26)) (.bool false) (.slice none 0 0) 24
    rw [World.size_alloc, World.size_alloc] at h
    rw [hW0]; exact h
  have HW0 := Lib.hid hW0
  have HA := Lib.hid (h1.to hbw)
  have HD := Lib.hid (h4.to hbw)
  have HB := Lib.hid hbw
  clear h1 h4 hW0 hbw
  go_enter Try.func52, Try.ntmps52
  go_wp2_with fail
  rw [← HW0.out]
  have k0 := tA.c0
  have k1 := tA.c1
  have k2 := tA.c2
  have k3 := tA.c3
  have l0 := tB.c0
  have l1 := tB.c1
  have l2 := tB.c2
  have l3 := tB.c3
  go_wp2_with fail
  refine (mul_z HA.out.zi HD.out.zi).mono ?_
  rintro e V1 ⟨x, y, rfl, rz, bb⟩
  replace tR := tR.to bb
  replace HB := Lib.hid (HB.out.trans (bb.mono HB.out.size))
  clear k0 k1 k2 k3 l0 l1 l2 l3 bb tA tB HA HD HW0
  obtain ⟨z, ez⟩ : ∃ z, Hid (N * D = z) := ⟨_, rfl⟩
  rw [ez.out] at rz
  have RZ := Lib.hid rz
  obtain ⟨n1, A1, l1, m1, rfl, rfl⟩ := rz.fs
  obtain ⟨V2, eV, u, kp, _⟩ := pack2 tR Fs.nil (.bool n1) (.slice A1 l1 m1)
  obtain ⟨v0, v1, v2, v3, _⟩ := tR
  have EV := Lib.hid eV
  have KP := Lib.hid kp
  have U := Lib.hid u
  clear eV kp u rz
  go_wp2
  rw [EV.out]
  refine bodyPost_ret (v := .agg #[.bool n1, .slice A1 l1 m1]) (by simp [results, Try.f52, go_sem, U.out.c0, U.out.c1]) rfl ?_
  rw [ez.out]
  exact ⟨_, _, rfl, KP.out.zc _ _ _ RZ.out, KP.out.bel _ _ HB.out (by omega)⟩

set_option maxHeartbeats 4000000 in
theorem below_z {w : World} {a1 a2 a3 a4 b1 b2 b3 b4 : Value} {N D : Int} (h1 : Zl w a3 a4 N) (h4 : Zl w b3 b4 D) :
    Calls Try.prog 49 #[.agg #[a1, a2, a3, a4], .agg #[b1, b2, b3, b4]] w (ZR w (N * D)) := by
  obtain ⟨W0, hW0⟩ : ∃ W0, W0 = ((w.alloc (.cells #[a1, a2, a3, a4] 26)).alloc (.cells #[b1, b2, b3, b4] 26)).alloc (.cells #[.bool false, .slice none 0 0] 24) := ⟨_, rfl⟩
  have hbw : Below w.heap.size w W0 := by rw [hW0]; exact (((Below.refl _ _).alloc (Nat.le_refl _) _).alloc (by simp) _).alloc (by simp; omega) _
  have tA : Four W0 w.heap.size a1 a2 a3 a4 := by rw [hW0]; exact ((Four.new w _ _ _ _ _).alloc _).alloc _
  have tB : Four W0 (w.heap.size + 1) b1 b2 b3 b4 := by
    have h := Four.new (w.alloc (.cells #[a1, a2, a3, a4] 26)) b1 b2 b3 b4 26
    rw [World.size_alloc] at h
    rw [hW0]; exact h.alloc _
  have tR : Two W0 (w.heap.size + 1 + 1) (.bool false) (.slice none 0 0) := by
    have h := Two.new ((w.alloc (.cells #[a1, a2, a3, a4] 26)).alloc (.cells #[b1, b2, b3, b4] 26)) (.bool false) (.slice none 0 0) 24
    rw [World.size_alloc, World.size_alloc] at h
    rw [hW0]; exact h
  have HW0 := Lib.hid hW0
  have HA := Lib.hid (h1.to hbw)
  have HD := Lib.hid (h4.to hbw)
  have HB := Lib.hid hbw
  clear h1 h4 hW0 hbw
  go_enter Try.func49, Try.ntmps49
  go_wp2_with fail
  rw [← HW0.out]
  have k0 := tA.c0
  have k1 := tA.c1
  have k2 := tA.c2
  have k3 := tA.c3
  have l0 := tB.c0
  have l1 := tB.c1
  have l2 := tB.c2
  have l3 := tB.c3
  go_wp2_with fail
  refine (mul_z HA.out.zi HD.out.zi).mono ?_
  rintro e V1 ⟨x, y, rfl, rz, bb⟩
  replace tR := tR.to bb
  replace HB := Lib.hid (HB.out.trans (bb.mono HB.out.size))
  clear k0 k1 k2 k3 l0 l1 l2 l3 bb tA tB HA HD HW0
  obtain ⟨z, ez⟩ : ∃ z, Hid (N * D = z) := ⟨_, rfl⟩
  rw [ez.out] at rz
  have RZ := Lib.hid rz
  obtain ⟨n1, A1, l1, m1, rfl, rfl⟩ := rz.fs
  obtain ⟨V2, eV, u, kp, _⟩ := pack2 tR Fs.nil (.bool n1) (.slice A1 l1 m1)
  obtain ⟨v0, v1, v2, v3, _⟩ := tR
  have EV := Lib.hid eV
  have KP := Lib.hid kp
  have U := Lib.hid u
  clear eV kp u rz
  go_wp2
  rw [EV.out]
  refine bodyPost_ret (v := .agg #[.bool n1, .slice A1 l1 m1]) (by simp [results, Try.f49, go_sem, U.out.c0, U.out.c1]) rfl ?_
  rw [ez.out]
  exact ⟨_, _, rfl, KP.out.zc _ _ _ RZ.out, KP.out.bel _ _ HB.out (by omega)⟩

/-- What a store into block g, at cells that hold no number, leaves as it was. -/
structure KeptG (g : Nat) (w V : World) : Prop where
  cell : ∀ p : Addr, p.block ≠ g → V.cell? p = w.cell? p
  froz : ∀ p : Addr, V.frozen? p = w.frozen? p
  zc : ∀ x y z, Zc w x y z → Zc V x y z
  zi : ∀ x y z, Zi w x y z → Zi V x y z
  bel : ∀ B w0, Below B w0 w → B ≤ g → Below B w0 V
  size : V.heap.size = w.heap.size

theorem KeptG.zl {g : Nat} {w V : World} (kp : KeptG g w V) {x y : Value} {z : Int} (h : Zl w x y z) : Zl V x y z := zl_of h (kp.zi _ _ _)
theorem KeptG.qi {g : Nat} {w V : World} (kp : KeptG g w V) {a b c d : Value} {r : Rat} {k : Nat} (h : Qi w a b c d r k) : Qi V a b c d r k := by
  obtain ⟨p, q, h1, h2, h3⟩ := h
  exact ⟨p, q, kp.zl h1, kp.zl h2, h3⟩
theorem KeptG.qc {g : Nat} {w V : World} (kp : KeptG g w V) {a b c d : Value} {r : Rat} (h : Qc w a b c d r) : Qc V a b c d r := ⟨kp.zc _ _ _ h.1, kp.zc _ _ _ h.2⟩
theorem KeptG.up {g : Nat} {w V : World} (kp : KeptG g w V) {a b c d : Value} {r : Rat} {k : Nat} {N D : Int} (h : Up w a b c d r k N D) : Up V a b c d r k N D := ⟨kp.zl h.n, kp.zl h.d, h.pos, h.eq, h.sn, h.sd⟩
theorem KeptG.two {g g' : Nat} {w V : World} (kp : KeptG g w V) {a b : Value} (hne : g' ≠ g) (h : Two w g' a b) : Two V g' a b :=
  ⟨(kp.cell _ hne).trans h.c0, (kp.cell _ hne).trans h.c1, (kp.froz _).trans h.f0, (kp.froz _).trans h.f1, by rw [kp.size]; exact h.lt⟩
theorem KeptG.four {g g' : Nat} {w V : World} (kp : KeptG g w V) {a b c d : Value} (hne : g' ≠ g) (h : Four w g' a b c d) : Four V g' a b c d :=
  ⟨(kp.cell _ hne).trans h.c0, (kp.cell _ hne).trans h.c1, (kp.cell _ hne).trans h.c2, (kp.cell _ hne).trans h.c3, (kp.froz _).trans h.f0, (kp.froz _).trans h.f1, (kp.froz _).trans h.f2, (kp.froz _).trans h.f3, by rw [kp.size]; exact h.lt⟩
theorem KeptG.of4 {w : World} {g : Nat} {a b c d : Value} (t : Four w g a b c d) (f : Fq a b c d) (a' b' c' d' : Value) : KeptG g w (put4 w g a' b' c' d') :=
  ⟨fun _ hp => cell_put4 (a := a) (b := b) (c := c) (d := d) hp _ _ _ _, fun _ => frozen_put4 _ _ _ _, (Kept4.of t f _ _ _ _).zc, (Kept4.of t f _ _ _ _).zi, (Kept4.of t f _ _ _ _).bel, (Kept4.of t f _ _ _ _).size⟩
theorem cell_far2 {w : World} {g : Nat} {u v : Value} {p : Addr} (hp : p.block ≠ g) : ((w.setCell ⟨g, 0, none⟩ u).setCell ⟨g, 1, none⟩ v).cell? p = w.cell? p := by
  rw [World.cell?_setCell_other _ _ _ _ (by intro e; exact hp (by rw [← e])), World.cell?_setCell_other _ _ _ _ (by intro e; exact hp (by rw [← e]))]
theorem KeptG.of2 {w : World} {g : Nat} {a b : Value} (t : Two w g a b) (f : Fs a b) (a' b' : Value) : KeptG g w ((w.setCell ⟨g, 0, none⟩ a').setCell ⟨g, 1, none⟩ b') := by
  have k := Kept.of t f.nint.1 f.nint.2 a' b'
  exact ⟨fun _ hp => cell_far2 hp, fun _ => by rw [World.frozen?_setCell, World.frozen?_setCell], k.zc, k.zi, k.bel, k.size⟩

section
variable {ac : Act} {w : World} {K : Act → World → Prop} {Q : Exit → Act → World → Prop} {d : Option Tmp} {ty : TypeId} {pos : String} {after : Array Edge} {guard : Option (Nat × Bool)}
theorem wp_store_z {g : Nat} {x y x0 y0 : Value} {p v : Operand} (hp : ac.eval p = .pointer (some ⟨g, 0, none⟩)) (hv : ac.eval v = .agg #[x, y]) (t : Two w g x0 y0) (f0 : Fs x0 y0) (f1 : Fs x y)
    (h : ∀ V : World, Two V g x y → KeptG g w V → K (ac.put d undef) V) :
    Oper.wp Try.prog ⟨d, .store 24 p v, ty, pos, after, guard⟩ ac w K Q := by
  have h1 := h _ (t.set _ _) (KeptG.of2 t f0 _ _)
  obtain ⟨n1, A1, k1, c1, rfl, rfl⟩ := f1
  have u0 := t.c0
  have u1 := t.c1
  have v0 := t.f0
  have v1 := t.f1
  clear h t
  simp only [Oper.wp, execOp, hp, hv]
  go_simp
  exact h1
theorem wp_store_q {g : Nat} {a b c e a0 b0 c0 e0 : Value} {p v : Operand} (hp : ac.eval p = .pointer (some ⟨g, 0, none⟩)) (hv : ac.eval v = .agg #[a, b, c, e]) (t : Four w g a0 b0 c0 e0) (f0 : Fq a0 b0 c0 e0) (f1 : Fq a b c e)
    (h : ∀ V : World, Four V g a b c e → KeptG g w V → K (ac.put d undef) V) :
    Oper.wp Try.prog ⟨d, .store 26 p v, ty, pos, after, guard⟩ ac w K Q := by
  have h1 := h _ (t.set a b c e) (KeptG.of4 t f0 a b c e)
  obtain ⟨⟨n1, A1, k1, l1, rfl, rfl⟩, ⟨n2, A2, k2, l2, rfl, rfl⟩⟩ := f1
  have u0 := t.c0
  have u1 := t.c1
  have u2 := t.c2
  have u3 := t.c3
  have v0 := t.f0
  have v1 := t.f1
  have v2 := t.f2
  have v3 := t.f3
  clear h t
  unfold put4 at h1
  simp only [Oper.wp, execOp, hp, hv]
  go_simp
  exact h1
end

/-- A load of a rational's four cells. -/
theorem load_four {W : World} {g t : Nat} {a b c e : Value} {ac : Act} {d : Option Tmp} {ty : TypeId} {pos : String} {after : Array Edge} {guard : Option (Nat × Bool)} (ht : ac.eval (.tmp t) = .pointer (some ⟨g, 0, none⟩)) (h : Four W g a b c e) :
    (execOp ac.eval ⟨d, .load 26 (.tmp t), ty, pos, after, guard⟩).run Try.prog W = .ok (.value (.agg #[a, b, c, e])) W := by
  have h0 := h.c0
  have h1 := h.c1
  have h2 := h.c2
  have h3 := h.c3
  simp only [execOp, ht]
  go_simp

set_option maxHeartbeats 8000000 in
theorem clos_add {w : World} {a1 a2 a3 a4 b1 b2 b3 b4 : Value} {N D N' D' : Int} {k l : Nat} (h1 : Zl w a1 a2 N) (h2 : Zl w a3 a4 D) (h3 : Zl w b1 b2 N') (h4 : Zl w b3 b4 D') (m1 : Sm k N) (m2 : Sm k D) (m3 : Sm l N') (m4 : Sm l D') (hkl : k + l ≤ 10000) :
    Calls Try.prog 48 #[.agg #[a1, a2, a3, a4], .agg #[b1, b2, b3, b4]] w (ZR w (N * D' + N' * D)) := by
  obtain ⟨W0, hW0⟩ : ∃ W0, W0 = ((w.alloc (.cells #[a1, a2, a3, a4] 26)).alloc (.cells #[b1, b2, b3, b4] 26)).alloc (.cells #[.bool false, .slice none 0 0] 24) := ⟨_, rfl⟩
  have hbw : Below w.heap.size w W0 := by rw [hW0]; exact (((Below.refl _ _).alloc (Nat.le_refl _) _).alloc (by simp) _).alloc (by simp; omega) _
  have tA : Four W0 w.heap.size a1 a2 a3 a4 := by rw [hW0]; exact ((Four.new w _ _ _ _ _).alloc _).alloc _
  have tB : Four W0 (w.heap.size + 1) b1 b2 b3 b4 := by
    have h := Four.new (w.alloc (.cells #[a1, a2, a3, a4] 26)) b1 b2 b3 b4 26
    rw [World.size_alloc] at h
    rw [hW0]; exact h.alloc _
  have tR : Two W0 (w.heap.size + 1 + 1) (.bool false) (.slice none 0 0) := by
    have h := Two.new ((w.alloc (.cells #[a1, a2, a3, a4] 26)).alloc (.cells #[b1, b2, b3, b4] 26)) (.bool false) (.slice none 0 0) 24
    rw [World.size_alloc, World.size_alloc] at h
    rw [hW0]; exact h
  have HW0 := Lib.hid hW0
  replace h1 := h1.to hbw
  replace h2 := h2.to hbw
  replace h3 := h3.to hbw
  replace h4 := h4.to hbw
  have s1 : Sg (N * D') := (m1.mul m4).sg (by omega)
  have s2 : Sg (N' * D) := ((m3.mul m2).mono (Nat.le_of_eq (Nat.add_comm l k))).sg (by omega)
  have HB0 := Lib.hid hbw
  clear hW0 hbw m1 m2 m3 m4 hkl
  go_enter Try.func48, Try.ntmps48
  go_wp2_with fail
  rw [← HW0.out]
  clear HW0
  refine wp_region_plan (S := fun w' => Below w.heap.size w w' ∧ Four w' w.heap.size a1 a2 a3 a4 ∧ Four w' (w.heap.size + 1) b1 b2 b3 b4) [(0, true), (1, true), (3, true), (4, true), (2, false), (5, false), (6, false), (7, false)] (by kernel_rfl) (by kernel_rfl) ⟨HB0.out.drew, tA.to (Below.refl _ _).drew, tB.to (Below.refl _ _).drew⟩ ?_
  have HB := HB0.out.drew
  have bb := (Below.refl W0.heap.size W0).drew
  replace tA := tA.to bb
  replace tB := tB.to bb
  replace tR := tR.to bb
  replace h1 := h1.to bb
  replace h2 := h2.to bb
  replace h3 := h3.to bb
  replace h4 := h4.to bb
  clear bb
  refine plan_take rfl (by rfl) (fun w' hS => load_four (by rfl) hS.2.1) ?_; simp only [Act.put, List.setIfInBounds_toArray, List.set_cons_zero, List.set_cons_succ]
  refine plan_take rfl (by rfl) (fun w' hS => load_four (by rfl) hS.2.2) ?_; simp only [Act.put, List.setIfInBounds_toArray, List.set_cons_zero, List.set_cons_succ]
  refine plan_take rfl (by rfl) (fun w' hS => load_four (by rfl) hS.2.2) ?_; simp only [Act.put, List.setIfInBounds_toArray, List.set_cons_zero, List.set_cons_succ]
  refine plan_take rfl (by rfl) (fun w' hS => load_four (by rfl) hS.2.1) ?_; simp only [Act.put, List.setIfInBounds_toArray, List.set_cons_zero, List.set_cons_succ]
  refine plan_call rfl (by rfl) (fun K hK => ?_)
  go_simp
  refine (cross_z h1 h4).mono ?_
  rintro e V1 ⟨x1, y1, rfl, z1, bb⟩
  replace HB := HB.trans (bb.mono HB.size)
  replace tA := tA.to bb
  replace tB := tB.to bb
  replace tR := tR.to bb
  replace h1 := h1.to bb
  replace h2 := h2.to bb
  replace h3 := h3.to bb
  replace h4 := h4.to bb
  refine hK.out _ _ ⟨HB, tA, tB⟩ ?_
  clear hK K bb
  refine plan_call rfl (by rfl) (fun K hK => ?_)
  go_simp
  refine (cross_z h3 h2).mono ?_
  rintro e V2 ⟨x2, y2, rfl, z2, bb⟩
  replace HB := HB.trans (bb.mono HB.size)
  replace tA := tA.to bb
  replace tB := tB.to bb
  replace tR := tR.to bb
  replace z1 := z1.to bb
  refine hK.out _ _ ⟨HB, tA, tB⟩ ?_
  clear hK K bb h1 h2 h3 h4
  refine plan_call rfl (by rfl) (fun K hK => ?_)
  go_simp
  refine (add_z (z1.zs s1).zi (z2.zs s2).zi).mono ?_
  rintro e V3 ⟨x3, y3, rfl, z3, bb⟩
  replace HB := HB.trans (bb.mono HB.size)
  replace tA := tA.to bb
  replace tB := tB.to bb
  replace tR := tR.to bb
  refine hK.out _ _ ⟨HB, tA, tB⟩ ?_
  clear hK K bb z1 z2
  refine plan_call rfl (by rfl) (fun K hK => ?_)
  refine wp_store_z (by rfl) (by rfl) tR Fs.nil z3.fs (fun V u kp => ?_)
  replace tA := kp.four (by omega) tA
  replace tB := kp.four (by omega) tB
  replace HB := kp.bel _ _ HB (by omega)
  replace z3 := kp.zc _ _ _ z3
  refine hK.out _ _ ⟨HB, tA, tB⟩ ?_
  clear hK K kp tR
  simp only [Act.put, List.setIfInBounds_toArray, List.set_cons_zero, List.set_cons_succ]
  refine plan_done ?_
  have U0 := u.c0
  have U1 := u.c1
  clear tA tB u
  obtain ⟨n1, A1, l1, m1, rfl, rfl⟩ := z3.fs
  have Z3 := Lib.hid z3
  have HE := Lib.hid HB
  clear z3 HB HB0
  go_wp2
  refine bodyPost_ret (v := .agg #[.bool n1, .slice A1 l1 m1]) (by simp [results, Try.f48, go_sem, U0, U1]) rfl ?_
  exact ⟨_, _, rfl, Z3.out, HE.out⟩

set_option maxHeartbeats 8000000 in
theorem clos_sub {w : World} {a1 a2 a3 a4 b1 b2 b3 b4 : Value} {N D N' D' : Int} {k l : Nat} (h1 : Zl w a1 a2 N) (h2 : Zl w a3 a4 D) (h3 : Zl w b1 b2 N') (h4 : Zl w b3 b4 D') (m1 : Sm k N) (m2 : Sm k D) (m3 : Sm l N') (m4 : Sm l D') (hkl : k + l ≤ 10000) :
    Calls Try.prog 50 #[.agg #[a1, a2, a3, a4], .agg #[b1, b2, b3, b4]] w (ZR w (N * D' - N' * D)) := by
  obtain ⟨W0, hW0⟩ : ∃ W0, W0 = ((w.alloc (.cells #[a1, a2, a3, a4] 26)).alloc (.cells #[b1, b2, b3, b4] 26)).alloc (.cells #[.bool false, .slice none 0 0] 24) := ⟨_, rfl⟩
  have hbw : Below w.heap.size w W0 := by rw [hW0]; exact (((Below.refl _ _).alloc (Nat.le_refl _) _).alloc (by simp) _).alloc (by simp; omega) _
  have tA : Four W0 w.heap.size a1 a2 a3 a4 := by rw [hW0]; exact ((Four.new w _ _ _ _ _).alloc _).alloc _
  have tB : Four W0 (w.heap.size + 1) b1 b2 b3 b4 := by
    have h := Four.new (w.alloc (.cells #[a1, a2, a3, a4] 26)) b1 b2 b3 b4 26
    rw [World.size_alloc] at h
    rw [hW0]; exact h.alloc _
  have tR : Two W0 (w.heap.size + 1 + 1) (.bool false) (.slice none 0 0) := by
    have h := Two.new ((w.alloc (.cells #[a1, a2, a3, a4] 26)).alloc (.cells #[b1, b2, b3, b4] 26)) (.bool false) (.slice none 0 0) 24
    rw [World.size_alloc, World.size_alloc] at h
    rw [hW0]; exact h
  have HW0 := Lib.hid hW0
  replace h1 := h1.to hbw
  replace h2 := h2.to hbw
  replace h3 := h3.to hbw
  replace h4 := h4.to hbw
  have s1 : Sg (N * D') := (m1.mul m4).sg (by omega)
  have s2 : Sg (N' * D) := ((m3.mul m2).mono (Nat.le_of_eq (Nat.add_comm l k))).sg (by omega)
  have HB0 := Lib.hid hbw
  clear hW0 hbw m1 m2 m3 m4 hkl
  go_enter Try.func50, Try.ntmps50
  go_wp2_with fail
  rw [← HW0.out]
  clear HW0
  refine wp_region_plan (S := fun w' => Below w.heap.size w w' ∧ Four w' w.heap.size a1 a2 a3 a4 ∧ Four w' (w.heap.size + 1) b1 b2 b3 b4) [(0, true), (1, true), (3, true), (4, true), (2, false), (5, false), (6, false), (7, false)] (by kernel_rfl) (by kernel_rfl) ⟨HB0.out.drew, tA.to (Below.refl _ _).drew, tB.to (Below.refl _ _).drew⟩ ?_
  have HB := HB0.out.drew
  have bb := (Below.refl W0.heap.size W0).drew
  replace tA := tA.to bb
  replace tB := tB.to bb
  replace tR := tR.to bb
  replace h1 := h1.to bb
  replace h2 := h2.to bb
  replace h3 := h3.to bb
  replace h4 := h4.to bb
  clear bb
  refine plan_take rfl (by rfl) (fun w' hS => load_four (by rfl) hS.2.1) ?_; simp only [Act.put, List.setIfInBounds_toArray, List.set_cons_zero, List.set_cons_succ]
  refine plan_take rfl (by rfl) (fun w' hS => load_four (by rfl) hS.2.2) ?_; simp only [Act.put, List.setIfInBounds_toArray, List.set_cons_zero, List.set_cons_succ]
  refine plan_take rfl (by rfl) (fun w' hS => load_four (by rfl) hS.2.2) ?_; simp only [Act.put, List.setIfInBounds_toArray, List.set_cons_zero, List.set_cons_succ]
  refine plan_take rfl (by rfl) (fun w' hS => load_four (by rfl) hS.2.1) ?_; simp only [Act.put, List.setIfInBounds_toArray, List.set_cons_zero, List.set_cons_succ]
  refine plan_call rfl (by rfl) (fun K hK => ?_)
  go_simp
  refine (cross_z h1 h4).mono ?_
  rintro e V1 ⟨x1, y1, rfl, z1, bb⟩
  replace HB := HB.trans (bb.mono HB.size)
  replace tA := tA.to bb
  replace tB := tB.to bb
  replace tR := tR.to bb
  replace h1 := h1.to bb
  replace h2 := h2.to bb
  replace h3 := h3.to bb
  replace h4 := h4.to bb
  refine hK.out _ _ ⟨HB, tA, tB⟩ ?_
  clear hK K bb
  refine plan_call rfl (by rfl) (fun K hK => ?_)
  go_simp
  refine (cross_z h3 h2).mono ?_
  rintro e V2 ⟨x2, y2, rfl, z2, bb⟩
  replace HB := HB.trans (bb.mono HB.size)
  replace tA := tA.to bb
  replace tB := tB.to bb
  replace tR := tR.to bb
  replace z1 := z1.to bb
  refine hK.out _ _ ⟨HB, tA, tB⟩ ?_
  clear hK K bb h1 h2 h3 h4
  refine plan_call rfl (by rfl) (fun K hK => ?_)
  go_simp
  refine (sub_z (z1.zs s1).zi (z2.zs s2).zi).mono ?_
  rintro e V3 ⟨x3, y3, rfl, z3, bb⟩
  replace HB := HB.trans (bb.mono HB.size)
  replace tA := tA.to bb
  replace tB := tB.to bb
  replace tR := tR.to bb
  refine hK.out _ _ ⟨HB, tA, tB⟩ ?_
  clear hK K bb z1 z2
  refine plan_call rfl (by rfl) (fun K hK => ?_)
  refine wp_store_z (by rfl) (by rfl) tR Fs.nil z3.fs (fun V u kp => ?_)
  replace tA := kp.four (by omega) tA
  replace tB := kp.four (by omega) tB
  replace HB := kp.bel _ _ HB (by omega)
  replace z3 := kp.zc _ _ _ z3
  refine hK.out _ _ ⟨HB, tA, tB⟩ ?_
  clear hK K kp tR
  simp only [Act.put, List.setIfInBounds_toArray, List.set_cons_zero, List.set_cons_succ]
  refine plan_done ?_
  have U0 := u.c0
  have U1 := u.c1
  clear tA tB u
  obtain ⟨n1, A1, l1, m1, rfl, rfl⟩ := z3.fs
  have Z3 := Lib.hid z3
  have HE := Lib.hid HB
  clear z3 HB HB0
  go_wp2
  refine bodyPost_ret (v := .agg #[.bool n1, .slice A1 l1 m1]) (by simp [results, Try.f50, go_sem, U0, U1]) rfl ?_
  exact ⟨_, _, rfl, Z3.out, HE.out⟩

set_option maxHeartbeats 4000000 in
theorem clos_div {w : World} {a1 a2 a3 a4 b1 b2 b3 b4 : Value} {N D : Int} (h3 : Zl w b1 b2 N) (h2 : Zl w a3 a4 D) :
    Calls Try.prog 53 #[.agg #[a1, a2, a3, a4], .agg #[b1, b2, b3, b4]] w (ZR w (N * D)) := by
  obtain ⟨W0, hW0⟩ : ∃ W0, W0 = ((w.alloc (.cells #[a1, a2, a3, a4] 26)).alloc (.cells #[b1, b2, b3, b4] 26)).alloc (.cells #[.bool false, .slice none 0 0] 24) := ⟨_, rfl⟩
  have hbw : Below w.heap.size w W0 := by rw [hW0]; exact (((Below.refl _ _).alloc (Nat.le_refl _) _).alloc (by simp) _).alloc (by simp; omega) _
  have tA : Four W0 w.heap.size a1 a2 a3 a4 := by rw [hW0]; exact ((Four.new w _ _ _ _ _).alloc _).alloc _
  have tB : Four W0 (w.heap.size + 1) b1 b2 b3 b4 := by
    have h := Four.new (w.alloc (.cells #[a1, a2, a3, a4] 26)) b1 b2 b3 b4 26
    rw [World.size_alloc] at h
    rw [hW0]; exact h.alloc _
  have tR : Two W0 (w.heap.size + 1 + 1) (.bool false) (.slice none 0 0) := by
    have h := Two.new ((w.alloc (.cells #[a1, a2, a3, a4] 26)).alloc (.cells #[b1, b2, b3, b4] 26)) (.bool false) (.slice none 0 0) 24
    rw [World.size_alloc, World.size_alloc] at h
    rw [hW0]; exact h
  have HW0 := Lib.hid hW0
  have HA := Lib.hid (h3.to hbw)
  have HD := Lib.hid (h2.to hbw)
  have HB := Lib.hid hbw
  clear h3 h2 hW0 hbw
  go_enter Try.func53, Try.ntmps53
  go_wp2_with fail
  rw [← HW0.out]
  have k0 := tA.c0
  have k1 := tA.c1
  have k2 := tA.c2
  have k3 := tA.c3
  have l0 := tB.c0
  have l1 := tB.c1
  have l2 := tB.c2
  have l3 := tB.c3
  go_wp2_with fail
  refine (cross_z HA.out HD.out).mono ?_
  rintro e V1 ⟨x, y, rfl, rz, bb⟩
  replace tR := tR.to bb
  replace HB := Lib.hid (HB.out.trans (bb.mono HB.out.size))
  clear k0 k1 k2 k3 l0 l1 l2 l3 bb tA tB HA HD HW0
  obtain ⟨z, ez⟩ : ∃ z, Hid (N * D = z) := ⟨_, rfl⟩
  rw [ez.out] at rz
  have RZ := Lib.hid rz
  obtain ⟨n1, A1, l1, m1, rfl, rfl⟩ := rz.fs
  obtain ⟨V2, eV, u, kp, _⟩ := pack2 tR Fs.nil (.bool n1) (.slice A1 l1 m1)
  obtain ⟨v0, v1, v2, v3, _⟩ := tR
  have EV := Lib.hid eV
  have KP := Lib.hid kp
  have U := Lib.hid u
  clear eV kp u rz
  go_wp2
  rw [EV.out]
  refine bodyPost_ret (v := .agg #[.bool n1, .slice A1 l1 m1]) (by simp [results, Try.f53, go_sem, U.out.c0, U.out.c1]) rfl ?_
  rw [ez.out]
  exact ⟨_, _, rfl, KP.out.zc _ _ _ RZ.out, KP.out.bel _ _ HB.out (by omega)⟩
end Go.Proofs.Ytbmnloelimmgiaa

namespace Go.Proofs.Ytbmnloelimmgiaa
set_option maxRecDepth 100000
open Go

theorem alloc_set (w : World) (o o' : Obj) : ({ w.alloc o with heap := (w.alloc o).heap.setIfInBounds w.heap.size o' } : World) = w.alloc o' := by
  have h : (w.heap.push o).setIfInBounds w.heap.size o' = w.heap.push o' := by
    apply Array.ext
    · simp
    · intro i h1 h2
      rw [Array.getElem_setIfInBounds, Array.getElem_push, Array.getElem_push]
      simp at h2
      split
      · rename_i h3
        rw [dif_neg (by omega)]
      · rename_i h3
        rw [dif_pos (by omega), dif_pos (by omega)]
      · rw [Array.size_push] at h2 ⊢
        exact h2
  unfold World.alloc
  simp only [h]

section
variable {P : Program} {w W : World} {t kt et : TypeId} {es : Array MapEntry} {c : Nat} {k : Int} {kd : IntKind} {v : Value}
theorem run_ins (hm : P.underlying t = some (.map kt et)) (hd : P.underlying kt = some (.int kd)) (hf : Instr.findNow (.int kd) (.int kd k) es.toList 0 = some none) :
    (Instr.mapUpdate t (.map (some w.heap.size)) (.int kd k) v).run P (w.alloc (.map es c)) = .ok () (w.alloc (.map (es.push ⟨.int kd k, v, c⟩) (c + 1))) := by
  have hb := World.alloc_heap_new w (.map es c)
  have hk : MapKept.IsKey (.int kd) (.int kd k) := by first | exact ⟨k, rfl⟩ | exact rfl | simp [MapKept.IsKey]
  have := alloc_set w (.map es c) (.map (es.push ⟨.int kd k, v, c⟩) (c + 1))
  simp [Instr.mapUpdate, run_underlying hm, MapKept.run_getObj_map hb, MapKept.run_checkKey hd hk, MapKept.run_findKey hd hf, MapKept.run_setObj_map _ hb, Result.andThen]
  exact this

theorem run_look {b i : Nat} (hm : P.underlying t = some (.map kt et)) (hd : P.underlying kt = some (.int kd)) (hb : W.heap[b]? = some (.map es c)) (hf : Instr.findNow (.int kd) (.int kd k) es.toList 0 = some (some (i, v))) :
    (Instr.lookup t (.map (some b)) (.int kd k) false).run P W = .ok v W := by
  have hk : MapKept.IsKey (.int kd) (.int kd k) := by first | exact ⟨k, rfl⟩ | exact rfl | simp [MapKept.IsKey]
  simp [Instr.lookup, run_underlying hm, MapKept.run_getObj_map hb, MapKept.run_checkKey hd hk, MapKept.run_findKey hd hf, Result.andThen]
end
end Go.Proofs.Ytbmnloelimmgiaa
