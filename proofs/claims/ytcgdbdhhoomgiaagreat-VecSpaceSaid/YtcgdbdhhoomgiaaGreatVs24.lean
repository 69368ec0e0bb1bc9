/- Parts: 3. -/
import Derived.Test.YtcgdbdhhoomgiaaGreatVs22
import Derived.Test.YtcgdbdhhoomgiaaGreatVs23
import Derived.Deep.Slices
set_option linter.unusedVariables false
set_option linter.unusedSimpArgs false
set_option maxRecDepth 100000
set_option maxHeartbeats 40000000

namespace Go.Proofs.YtcgdbdhhoomgiaaGreat
open Go.RowKit Go.Shelf
theorem lexEq {x y : List Rat} (h : ∀ i, x.getD i 0 = y.getD i 0) : decide (lexQ x y = 0) = true := decide_eq_true (lex_zero.2 h)
theorem add_gd (a b : List Rat) (i : Nat) : (ptw (fun r s => r + s) a b).getD i 0 = a.getD i 0 + b.getD i 0 := ptw_getD (by decide +kernel) a b i
theorem sub_gd (a b : List Rat) (i : Nat) : (ptw (fun r s => r - s) a b).getD i 0 = a.getD i 0 - b.getD i 0 := ptw_getD (by decide +kernel) a b i
theorem scd_gd (t : Rat) (a b : List Rat) (i : Nat) : (ptw (fun r s => t * r + s) a b).getD i 0 = t * a.getD i 0 + b.getD i 0 := ptw_getD (by rw [Rat.mul_zero, Rat.add_zero]) a b i
theorem sp_comm (a b : List Rat) : decide (lexQ (ptw (fun r s => r + s) a b) (ptw (fun r s => r + s) b a) = 0) = true := lexEq fun i => by rw [add_gd, add_gd, Rat.add_comm]
theorem sp_assoc (a b c : List Rat) : decide (lexQ (ptw (fun r s => r + s) (ptw (fun r s => r + s) a b) c) (ptw (fun r s => r + s) a (ptw (fun r s => r + s) b c)) = 0) = true := lexEq fun i => by rw [add_gd, add_gd, add_gd, add_gd, Rat.add_assoc]
theorem sp_sub (a b : List Rat) : decide (lexQ (ptw (fun r s => r - s) (ptw (fun r s => r + s) a b) b) a = 0) = true := lexEq fun i => by rw [sub_gd, add_gd, Rat.sub_eq_add_neg, Rat.add_assoc, Rat.add_neg_cancel, Rat.add_zero]
theorem sp_dist (t : Rat) (a b : List Rat) : decide (lexQ (scaleQ t (ptw (fun r s => r + s) a b)) (ptw (fun r s => r + s) (scaleQ t a) (scaleQ t b)) = 0) = true := lexEq fun i => by rw [scaleQ_getD, add_gd, add_gd, scaleQ_getD, scaleQ_getD, Rat.mul_add]
theorem sp_mul (s t : Rat) (a : List Rat) : decide (lexQ (scaleQ (s * t) a) (scaleQ s (scaleQ t a)) = 0) = true := lexEq fun i => by rw [scaleQ_getD, scaleQ_getD, scaleQ_getD, Rat.mul_assoc]
theorem sp_scd (t : Rat) (a b : List Rat) : decide (lexQ (ptw (fun r s => t * r + s) a b) (ptw (fun r s => r + s) (scaleQ t a) b) = 0) = true := lexEq fun i => by rw [scd_gd, add_gd, scaleQ_getD]
def v3 {α : Type} (x y z d : α) : Nat -> α
 | 0 => x
 | 1 => y
 | 2 => z
 | _ => d
def sum3 (a b c : List Rat) : List Rat := sumV (v3 a b c []) 3
theorem sp_sum (a b c : List Rat) : decide (lexQ (sum3 a b c) (ptw (fun r s => r + s) (ptw (fun r s => r + s) a b) c) = 0) = true := lexEq fun i => by
 unfold sum3
 rw [sumV_getD, add_gd, add_gd]
 show (0 + a.getD i 0) + b.getD i 0 + c.getD i 0 = _
 rw [Rat.zero_add]
theorem v3_len {a b c : List Rat} {M : Nat} (h1 : a.length <= M) (h2 : b.length <= M) (h3 : c.length <= M) : ∀ k, (v3 a b c [] k).length <= M
 | 0 => h1
 | 1 => h2
 | 2 => h3
 | _ + 3 => Nat.zero_le _
theorem v3_qm {a b c : List Rat} {k : Nat} (h1 : Vm k a) (h2 : Vm k b) (h3 : Vm k c) (hk : 0 < k) : ∀ j i, Qm k ((v3 a b c [] j).getD i 0)
 | 0 => h1.qm
 | 1 => h2.qm
 | 2 => h3.qm
 | _ + 3 => fun _ => Qm.zero hk
theorem Vm.sum3 {a b c : List Rat} {k : Nat} (h1 : Vm k a) (h2 : Vm k b) (h3 : Vm k c) (hk : 0 < k) : Vm (3 * (k + 1) + 1) (sum3 a b c) :=
 ⟨sumV_qm (v3_qm h1 h2 h3 hk) 3, sumV_len (v3_len h1.len h2.len h3.len) 3⟩
theorem vsum3 {w : World} {g : Nat} {A1 A2 A3 : Option Addr} {c1 c2 c3 : Nat} {es1 es2 es3 : List E4} {a b c : List Rat} {k : Nat}
  (hp : Hp w g (.cells #[.slice A1 a.length c1, .slice A2 b.length c2, .slice A3 c.length c3] 27 (0, 0))) (h1 : Vi w A1 c1 es1 a k) (h2 : Vi w A2 c2 es2 b k) (h3 : Vi w A3 c3 es3 c k) (hk : 0 < k) (m1 : Vm k a) (m2 : Vm k b) (m3 : Vm k c)
  (hN : 3 * (k + 1) + 1 + k + 1 <= 10000) : Calls Tryz.prog 37 #[.slice (some ⟨g, 0, none⟩) 3 3] w (VR w (sum3 a b c)) :=
 vsum_any (N := 3) (As := v3 A1 A2 A3 none) (cs := v3 c1 c2 c3 0) (es := v3 es1 es2 es3 []) (m := k)
  ⟨fun j hj => ⟨g, 0, rfl, by
   match j, hj with
   | 0, _ => simp [World.cell?, (show w.heap[g]? = _ from hp), v3]
   | 1, _ => simp [World.cell?, (show w.heap[g]? = _ from hp), v3]
   | 2, _ => simp [World.cell?, (show w.heap[g]? = _ from hp), v3]⟩, fun j hj => by
   match j, hj with
   | 0, _ => exact h1
   | 1, _ => exact h2
   | 2, _ => exact h3⟩ hk (v3_qm m1 m2 m3 hk) (fun j => Nat.le_trans (v3_len m1.len m2.len m3.len j) (by decide)) hN
theorem sumF_pad (f : Nat -> Rat) (n : Nat) (h : ∀ i, n <= i -> f i = 0) : ∀ d, sumF f (n + d) = sumF f n
 | 0 => rfl
 | d + 1 => by
  show sumF f (n + d) + f (n + d) = _
  rw [sumF_pad f n h d, h _ (by omega), Rat.add_zero]
theorem dotM {rs ss : List Rat} {M : Nat} (h : max rs.length ss.length <= M) : dotQ rs ss = sumF (fun i => rs.getD i 0 * ss.getD i 0) M := by
 obtain ⟨d, rfl⟩ := Nat.le.dest h
 rw [sumF_pad _ _ (fun i hi => by rw [getD_ge (l := rs) (by omega), Rat.zero_mul])]
 rfl
theorem sumF_congr {f g : Nat -> Rat} (h : ∀ i, f i = g i) : ∀ k, sumF f k = sumF g k
 | 0 => rfl
 | k + 1 => by
  show sumF f k + f k = sumF g k + g k
  rw [sumF_congr h k, h k]
theorem sumF_lin (s t : Rat) (f g : Nat -> Rat) : ∀ k, sumF (fun i => s * f i + t * g i) k = s * sumF f k + t * sumF g k
 | 0 => by
  show (0 : Rat) = s * 0 + t * 0
  rw [Rat.mul_zero, Rat.mul_zero, Rat.add_zero]
 | k + 1 => by
  show sumF (fun i => s * f i + t * g i) k + (s * f k + t * g k) = s * (sumF f k + f k) + t * (sumF g k + g k)
  rw [sumF_lin s t f g k, Rat.mul_add, Rat.mul_add, Rat.add_assoc, Rat.add_assoc, <- Rat.add_assoc (t * sumF g k), Rat.add_comm (t * sumF g k) (s * f k), Rat.add_assoc (s * f k)]
theorem sp_dot (a b : List Rat) : decide (dotQ a b = dotQ b a) = true := decide_eq_true (by
 rw [dotM (rs := a) (ss := b) (M := max a.length b.length) (Nat.le_refl _), dotM (rs := b) (ss := a) (M := max a.length b.length) (by omega)]
 exact sumF_congr (fun i => Rat.mul_comm _ _) _)
theorem sp_lin (s t : Rat) (a b c : List Rat) : decide (s * dotQ a c + t * dotQ b c = dotQ (ptw (fun r s => r + s) (scaleQ s a) (scaleQ t b)) c) = true := decide_eq_true (by
 obtain ⟨M, hM⟩ : ∃ M, max (max a.length b.length) (max c.length (ptw (fun r s => r + s) (scaleQ s a) (scaleQ t b)).length) = M := ⟨_, rfl⟩
 rw [dotM (rs := a) (ss := c) (M := M) (by omega), dotM (rs := b) (ss := c) (M := M) (by omega), dotM (rs := ptw _ _ _) (ss := c) (M := M) (by omega), <- sumF_lin]
 exact sumF_congr (fun i => by rw [add_gd, scaleQ_getD, scaleQ_getD, Rat.add_mul, Rat.mul_assoc, Rat.mul_assoc]) _)
theorem act_intro {F : Act -> Prop} {a : Act} (h : ∀ a0, a0 = a -> F a0) : F a := h a rfl
theorem qlong2 {n1 n2 n3 n4 : Nat} {b1 b2 b3 b4 : Bool} {A1 A2 A3 A4 : Option Addr} {c1 c2 c3 c4 : Nat} {V : World} {g : Nat} (h1 : n1 <= 9223372036854775807) (h2 : n2 <= 9223372036854775807) (h3 : n3 <= 9223372036854775807) (h4 : n4 <= 9223372036854775807)
  (h : V.heap[g]? = some (.cells #[.bool b1, .slice A1 n1 c1, .bool b2, .slice A2 n2 c2, .bool b3, .slice A3 n3 c3, .bool b4, .slice A4 n4 c4] 26 (0, 0))) {r : Bool} (hr : ([(n1, n2), (n3, n4)].any fun p => decide (6 < p.1) || decide (6 < p.2)) = r) :
  Calls Tryz.prog 10 #[.slice (some ⟨g, 0, none⟩) 2 2] V fun e w' => e = .returned (.bool r) /\ Below V.heap.size V w' := by
 have hg : g < V.heap.size := (Array.getElem?_eq_some_iff.1 h).1
 exact flong_o g 0 (some ⟨g, 0, none⟩) [(n1, n2), (n3, n4)] 2 V (fun _ _ => ⟨rfl, hg⟩) (fun k hk => by
  match k, hk with
  | 0, _ => exact ⟨b1, A1, c1, b2, A2, c2, by simp [World.cell?, h], by simp [World.cell?, h], by simp [World.cell?, h], by simp [World.cell?, h]⟩
  | 1, _ => exact ⟨b3, A3, c3, b4, A4, c4, by simp [World.cell?, h], by simp [World.cell?, h], by simp [World.cell?, h], by simp [World.cell?, h]⟩) (fun k hk => by
  match k, hk with
  | 0, _ => exact ⟨h1, h2⟩
  | 1, _ => exact ⟨h3, h4⟩) (by simp) hr
theorem vspace_long {A1 A2 A3 : Option Addr} {c1 c2 c3 : Nat} {es1 es2 es3 : List E4} {k1 k2 k3 k4 l1 l2 l3 l4 : Value} {w : World} (v1 : VIn w ⟨A1, c1, es1⟩) (v2 : VIn w ⟨A2, c2, es2⟩) (v3 : VIn w ⟨A3, c3, es3⟩) (hlng : ([⟨A1, c1, es1⟩, ⟨A2, c2, es2⟩, ⟨A3, c3, es3⟩] : List VA).any (fun v => lngV v.es) = true) :
  Calls Tryz.prog 7 #[.slice A1 es1.length c1, .slice A2 es2.length c2, .slice A3 es3.length c3, .agg #[k1, k2, k3, k4], .agg #[l1, l2, l3, l4]] w fun e w' => e = .returned (.bool true) /\ Below w.heap.size w w' := by
 obtain ⟨W0, hW0⟩ : ∃ W0, W0 = ((w.alloc (.cells #[k1, k2, k3, k4] 26)).alloc (.cells #[l1, l2, l3, l4] 26)).alloc (.cells #[.slice A1 es1.length c1, .slice A2 es2.length c2, .slice A3 es3.length c3] 27) := ⟨_, rfl⟩
 have hbw : Below w.heap.size w W0 := by rw [hW0]; exact (((Below.refl _ _).alloc (Nat.le_refl _) _).alloc (by simp) _).alloc (by simp; omega) _
 have tS : Four W0 w.heap.size k1 k2 k3 k4 := by rw [hW0]; exact ((Four.new w _ _ _ _ _).alloc _).alloc _
 have tT : Four W0 (w.heap.size + 1) l1 l2 l3 l4 := by
  have h := Four.new (w.alloc (.cells #[k1, k2, k3, k4] 26)) l1 l2 l3 l4 26
  rw [World.size_alloc] at h
  rw [hW0]; exact h.alloc _
 have hp : Hp W0 (w.heap.size + 1 + 1) (.cells #[.slice A1 es1.length c1, .slice A2 es2.length c2, .slice A3 es3.length c3] 27 (0, 0)) := by
  have h := Hp.new ((w.alloc (.cells #[k1, k2, k3, k4] 26)).alloc (.cells #[l1, l2, l3, l4] 26)) #[.slice A1 es1.length c1, .slice A2 es2.length c2, .slice A3 es3.length c3] 27
  rw [World.size_alloc, World.size_alloc] at h
  rw [hW0]; exact h
 have HL := Hd (vlong_any (w.heap.size + 1 + 1) [⟨A1, c1, es1⟩, ⟨A2, c2, es2⟩, ⟨A3, c3, es3⟩] 3 W0 hp.lt (fun i hi => by
  match i, hi with
  | 0, _ => exact (hp.cellAt _).trans rfl
  | 1, _ => exact (hp.cellAt _).trans rfl
  | 2, _ => exact (hp.cellAt _).trans rfl) (fun v hv => by
  simp only [List.mem_cons, List.not_mem_nil, or_false] at hv
  rcases hv with rfl | rfl | rfl
  .exact v1.to hbw
  .exact v2.to hbw
  .exact v3.to hbw) (by simp) (r := true) (by simpa using hlng))
 have HW0 := Hd hW0
 have HB := Hd hbw
 clear hW0 hbw hp hlng v1 v2 v3
 go_enter Tryz.func7, Tryz.ntmps7
 go_wp2_with fail
 rw [<- HW0.out]
 refine HL.out.mono ?_
 rintro e W1 ⟨rfl, bb⟩
 replace tS := tS.to bb
 replace tT := tT.to bb
 replace HB := hx HB bb
 clear bb tS tT
 go_wp2_with fail
 refine (valive_any _).mono ?_
 rintro e W4 ⟨rfl, bb⟩
 replace HB := hx HB bb
 clear bb
 go_wp2
 go_ret
 exact ⟨rfl, HB.out⟩
theorem vspace_longk {A1 A2 A3 : Option Addr} {c1 c2 c3 : Nat} {es1 es2 es3 : List E4} {k1 k2 k3 k4 l1 l2 l3 l4 : Value} {w : World} (v1 : VIn w ⟨A1, c1, es1⟩) (v2 : VIn w ⟨A2, c2, es2⟩) (v3 : VIn w ⟨A3, c3, es3⟩) (hlng : ([⟨A1, c1, es1⟩, ⟨A2, c2, es2⟩, ⟨A3, c3, es3⟩] : List VA).any (fun v => lngV v.es) = false) (hL : ∀ (V : World) (g : Nat), V.heap[g]? = some (.cells #[k1, k2, k3, k4, l1, l2, l3, l4] 26 (0, 0)) -> Calls Tryz.prog 10 #[.slice (some ⟨g, 0, none⟩) 2 2] V fun e w' => e = .returned (.bool true) /\ Below V.heap.size V w')  :
  Calls Tryz.prog 7 #[.slice A1 es1.length c1, .slice A2 es2.length c2, .slice A3 es3.length c3, .agg #[k1, k2, k3, k4], .agg #[l1, l2, l3, l4]] w fun e w' => e = .returned (.bool true) /\ Below w.heap.size w w' := by
 obtain ⟨W0, hW0⟩ : ∃ W0, W0 = ((w.alloc (.cells #[k1, k2, k3, k4] 26)).alloc (.cells #[l1, l2, l3, l4] 26)).alloc (.cells #[.slice A1 es1.length c1, .slice A2 es2.length c2, .slice A3 es3.length c3] 27) := ⟨_, rfl⟩
 have hbw : Below w.heap.size w W0 := by rw [hW0]; exact (((Below.refl _ _).alloc (Nat.le_refl _) _).alloc (by simp) _).alloc (by simp; omega) _
 have tS : Four W0 w.heap.size k1 k2 k3 k4 := by rw [hW0]; exact ((Four.new w _ _ _ _ _).alloc _).alloc _
 have tT : Four W0 (w.heap.size + 1) l1 l2 l3 l4 := by
  have h := Four.new (w.alloc (.cells #[k1, k2, k3, k4] 26)) l1 l2 l3 l4 26
  rw [World.size_alloc] at h
  rw [hW0]; exact h.alloc _
 have hp : Hp W0 (w.heap.size + 1 + 1) (.cells #[.slice A1 es1.length c1, .slice A2 es2.length c2, .slice A3 es3.length c3] 27 (0, 0)) := by
  have h := Hp.new ((w.alloc (.cells #[k1, k2, k3, k4] 26)).alloc (.cells #[l1, l2, l3, l4] 26)) #[.slice A1 es1.length c1, .slice A2 es2.length c2, .slice A3 es3.length c3] 27
  rw [World.size_alloc, World.size_alloc] at h
  rw [hW0]; exact h
 have HL := Hd (vlong_any (w.heap.size + 1 + 1) [⟨A1, c1, es1⟩, ⟨A2, c2, es2⟩, ⟨A3, c3, es3⟩] 3 W0 hp.lt (fun i hi => by
  match i, hi with
  | 0, _ => exact (hp.cellAt _).trans rfl
  | 1, _ => exact (hp.cellAt _).trans rfl
  | 2, _ => exact (hp.cellAt _).trans rfl) (fun v hv => by
  simp only [List.mem_cons, List.not_mem_nil, or_false] at hv
  rcases hv with rfl | rfl | rfl
  .exact v1.to hbw
  .exact v2.to hbw
  .exact v3.to hbw) (by simp) (r := false) (by simpa using hlng))
 have HW0 := Hd hW0
 have HB := Hd hbw
 clear hW0 hbw hp hlng v1 v2 v3
 go_enter Tryz.func7, Tryz.ntmps7
 go_wp2_with fail
 rw [<- HW0.out]
 refine HL.out.mono ?_
 rintro e W1 ⟨rfl, bb⟩
 replace tS := tS.to bb
 replace tT := tT.to bb
 replace HB := hx HB bb
 clear bb
 have q0 := tS.c0
 have q1 := tS.c1
 have q2 := tS.c2
 have q3 := tS.c3
 have r0 := tT.c0
 have r1 := tT.c1
 have r2 := tT.c2
 have r3 := tT.c3
 go_wp2_with fail
 obtain ⟨W2, hW2⟩ : ∃ W, W = W1.alloc (.cells #[k1, k2, k3, k4, l1, l2, l3, l4] 26) := ⟨_, rfl⟩
 have bb : Below W1.heap.size W1 W2 := by rw [hW2]; exact (Below.refl _ _).alloc (Nat.le_refl _) _
 have HM := Hd (hL W2 W1.heap.size (by rw [hW2]; exact World.alloc_heap_new W1 _))
 rw [<- hW2]
 clear hW2 hL q0 q1 q2 q3 r0 r1 r2 r3
 replace HB := hx HB bb
 clear bb tS tT
 refine HM.out.mono ?_
 rintro e W3 ⟨rfl, bb⟩
 replace HB := hx HB bb
 clear bb HM
 go_wp2_with fail
 refine (valive_any _).mono ?_
 rintro e W4 ⟨rfl, bb⟩
 replace HB := hx HB bb
 clear bb
 go_wp2
 go_ret
 exact ⟨rfl, HB.out⟩
theorem vspace_core {A1 A2 A3 : Option Addr} {c1 c2 c3 : Nat} {es1 es2 es3 : List E4} {k1 k2 k3 k4 l1 l2 l3 l4 : Value} {a b c : List Rat} {s t : Rat} {w : World} (v1 : VIn w ⟨A1, c1, es1⟩) (v2 : VIn w ⟨A2, c2, es2⟩) (v3 : VIn w ⟨A3, c3, es3⟩) (hlng : ([⟨A1, c1, es1⟩, ⟨A2, c2, es2⟩, ⟨A3, c3, es3⟩] : List VA).any (fun v => lngV v.es) = false) (w1 : Vi w A1 c1 es1 a 6) (w2 : Vi w A2 c2 es2 b 6) (w3 : Vi w A3 c3 es3 c 6) (d1 : a.length <= 20) (d2 : b.length <= 20) (d3 : c.length <= 20) (hS : Qi w k1 k2 k3 k4 s 6) (hT : Qi w l1 l2 l3 l4 t 6) (hL : ∀ (V : World) (g : Nat), V.heap[g]? = some (.cells #[k1, k2, k3, k4, l1, l2, l3, l4] 26 (0, 0)) -> Calls Tryz.prog 10 #[.slice (some ⟨g, 0, none⟩) 2 2] V fun e w' => e = .returned (.bool false) /\ Below V.heap.size V w')  :
  Calls Tryz.prog 7 #[.slice A1 es1.length c1, .slice A2 es2.length c2, .slice A3 es3.length c3, .agg #[k1, k2, k3, k4], .agg #[l1, l2, l3, l4]] w fun e w' => e = .returned (.bool true) /\ Below w.heap.size w w' := by
 have e1 := Hd w1.len
 have e2 := Hd w2.len
 have e3 := Hd w3.len
 have mA : Vm 6 a := ⟨w1.qm (by decide), d1⟩
 have mB : Vm 6 b := ⟨w2.qm (by decide), d2⟩
 have mC : Vm 6 c := ⟨w3.qm (by decide), d3⟩
 have mS : Qm 6 s := hS.qm (by decide)
 have mT : Qm 6 t := hT.qm (by decide)
 obtain ⟨W0, hW0⟩ : ∃ W0, W0 = ((w.alloc (.cells #[k1, k2, k3, k4] 26)).alloc (.cells #[l1, l2, l3, l4] 26)).alloc (.cells #[.slice A1 es1.length c1, .slice A2 es2.length c2, .slice A3 es3.length c3] 27) := ⟨_, rfl⟩
 have hbw : Below w.heap.size w W0 := by rw [hW0]; exact (((Below.refl _ _).alloc (Nat.le_refl _) _).alloc (by simp) _).alloc (by simp; omega) _
 have tS : Four W0 w.heap.size k1 k2 k3 k4 := by rw [hW0]; exact ((Four.new w _ _ _ _ _).alloc _).alloc _
 have tT : Four W0 (w.heap.size + 1) l1 l2 l3 l4 := by
  have h := Four.new (w.alloc (.cells #[k1, k2, k3, k4] 26)) l1 l2 l3 l4 26
  rw [World.size_alloc] at h
  rw [hW0]; exact h.alloc _
 have hp : Hp W0 (w.heap.size + 1 + 1) (.cells #[.slice A1 es1.length c1, .slice A2 es2.length c2, .slice A3 es3.length c3] 27 (0, 0)) := by
  have h := Hp.new ((w.alloc (.cells #[k1, k2, k3, k4] 26)).alloc (.cells #[l1, l2, l3, l4] 26)) #[.slice A1 es1.length c1, .slice A2 es2.length c2, .slice A3 es3.length c3] 27
  rw [World.size_alloc, World.size_alloc] at h
  rw [hW0]; exact h
 have HL := Hd (vlong_any (w.heap.size + 1 + 1) [⟨A1, c1, es1⟩, ⟨A2, c2, es2⟩, ⟨A3, c3, es3⟩] 3 W0 hp.lt (fun i hi => by
  match i, hi with
  | 0, _ => exact (hp.cellAt _).trans rfl
  | 1, _ => exact (hp.cellAt _).trans rfl
  | 2, _ => exact (hp.cellAt _).trans rfl) (fun v hv => by
  simp only [List.mem_cons, List.not_mem_nil, or_false] at hv
  rcases hv with rfl | rfl | rfl
  .exact v1.to hbw
  .exact v2.to hbw
  .exact v3.to hbw) (by simp) (r := false) (by simpa using hlng))
 have HW0 := Hd hW0
 have HB := Hd hbw
 have vA := w1.to hbw
 have vB := w2.to hbw
 have vC := w3.to hbw
 have vS := hS.to hbw
 have vT := hT.to hbw
 clear hW0 hbw hp hlng v1 v2 v3 w1 w2 w3 hS hT d1 d2 d3
 go_enter Tryz.func7, Tryz.ntmps7
 go_wp2_with fail
 rw [<- HW0.out]
 refine HL.out.mono ?_
 rintro e W1 ⟨rfl, bb⟩
 replace tS := tS.to bb
 replace tT := tT.to bb
 replace vA := vA.to bb
 replace vB := vB.to bb
 replace vC := vC.to bb
 replace vS := vS.to bb
 replace vT := vT.to bb
 replace HB := hx HB bb
 clear bb
 have q0 := tS.c0
 have q1 := tS.c1
 have q2 := tS.c2
 have q3 := tS.c3
 have r0 := tT.c0
 have r1 := tT.c1
 have r2 := tT.c2
 have r3 := tT.c3
 go_wp2_with fail
 obtain ⟨W2, hW2⟩ : ∃ W, W = W1.alloc (.cells #[k1, k2, k3, k4, l1, l2, l3, l4] 26) := ⟨_, rfl⟩
 have bb : Below W1.heap.size W1 W2 := by rw [hW2]; exact (Below.refl _ _).alloc (Nat.le_refl _) _
 have HM := Hd (hL W2 W1.heap.size (by rw [hW2]; exact World.alloc_heap_new W1 _))
 rw [<- hW2]
 clear hW2 hL q0 q1 q2 q3 r0 r1 r2 r3
 replace tS := tS.to bb
 replace tT := tT.to bb
 replace vA := vA.to bb
 replace vB := vB.to bb
 replace vC := vC.to bb
 replace vS := vS.to bb
 replace vT := vT.to bb
 replace HB := hx HB bb
 clear bb
 refine HM.out.mono ?_
 rintro e W3 ⟨rfl, bb⟩
 replace tS := tS.to bb
 replace tT := tT.to bb
 replace vA := vA.to bb
 replace vB := vB.to bb
 replace vC := vC.to bb
 replace vS := vS.to bb
 replace vT := vT.to bb
 replace HB := hx HB bb
 clear bb HM HL HW0
 rw [e1.out, e2.out, e3.out]
 clear e1 e2 e3
 have ms1 : Vm 13 (ptw (fun r s => r + s) a b) := mA.add mB
 go_wp2_with fail
 refine (vadd_v vA vB (by decide) (by decide) (by decide) mA.l mB.l).mono ?_
 rintro e V ⟨_, _, _, rfl, s1, bb⟩
 replace tS := tS.to bb
 replace tT := tT.to bb
 replace vA := vA.to bb
 replace vB := vB.to bb
 replace vC := vC.to bb
 replace vS := vS.to bb
 replace vT := vT.to bb
 replace HB := hx HB bb
 clear bb
 have ms2 : Vm 13 (ptw (fun r s => r + s) b c) := mB.add mC
 go_wp2_with fail
 refine (vadd_v vB vC (by decide) (by decide) (by decide) mB.l mC.l).mono ?_
 rintro e V ⟨_, _, _, rfl, s2, bb⟩
 replace tS := tS.to bb
 replace tT := tT.to bb
 replace vA := vA.to bb
 replace vB := vB.to bb
 replace vC := vC.to bb
 replace vS := vS.to bb
 replace vT := vT.to bb
 replace s1 := s1.to bb
 replace HB := hx HB bb
 clear bb
 go_wp2_with fail
 obtain ⟨W5, hW5⟩ : ∃ W, W = V := ⟨_, rfl⟩
 rw [<- hW5] at HB tS tT vA vB vC vS vT s1 s2 ⊢
 clear hW5
 have ms3 : Vm 13 (ptw (fun r s => r + s) b a) := mB.add mA
 have ms4 : Vm 20 (ptw (fun r s => r + s) (ptw (fun r s => r + s) a b) c) := ms1.add mC
 have ms5 : Vm 20 (ptw (fun r s => r + s) a (ptw (fun r s => r + s) b c)) := mA.add ms2
 have ms6 : Vm 20 (ptw (fun r s => r - s) (ptw (fun r s => r + s) a b) b) := ms1.sub mB
 have ms7 : Vm 19 (scaleQ t (ptw (fun r s => r + s) a b)) := Vm.scale mT ms1
 have ms8 : Vm 12 (scaleQ t a) := Vm.scale mT mA
 have ms9 : Vm 12 (scaleQ t b) := Vm.scale mT mB
 have ms10 : Vm 25 (ptw (fun r s => r + s) (scaleQ t a) (scaleQ t b)) := ms8.add ms9
 refine wp_region_plan (S := fun w' => Below W5.heap.size W5 w') [(0, true), (1, true), (2, true), (3, false), (4, false), (5, true), (6, true), (7, true), (8, true), (10, true), (11, true), (9, false), (12, false), (13, false), (14, true), (15, true), (16, true), (17, true), (18, true), (20, true), (19, false), (21, false), (22, true), (23, true), (24, true), (25, true), (26, true), (28, true), (29, true), (31, true), (32, true), (27, false), (30, false), (33, false), (34, false), (35, false), (36, true), (37, true)] (by kernel_rfl) (by kernel_rfl) (Below.refl _ _).drew ?_
 have hb := (Below.refl W5.heap.size W5).drew
 iterate 3 (refine plan_take (v := ?_) rfl (by rfl) ?_ ?_; rotate_left; (focus (intro w' _; go_simp; try with_reducible rfl)); simp only [Act.put, List.setIfInBounds_toArray, List.set_cons_zero, List.set_cons_succ])
 refine plan_call rfl (by rfl) (fun K hK => ?_)
 go_simp
 refine (vadd_v (vB.to hb) (vA.to hb) (by decide) (by decide) (by decide) mB.l mA.l).mono ?_
 rintro e V ⟨_, _, _, rfl, s3, bb⟩
 replace hb := bx hb bb
 refine hK.out _ _ hb ?_
 clear hK K bb
 refine plan_call rfl (by rfl) (fun K hK => ?_)
 go_simp
 refine (vequal_v ((s1.to hb).vi ms1.qm (by decide)) (s3.vi ms3.qm (by decide)) (by decide) (by decide) (by decide) ms1.l ms3.l (sp_comm a b)).mono ?_
 rintro e V ⟨rfl, bb⟩
 replace hb := bx hb bb
 clear s3
 refine hK.out _ _ hb ?_
 clear hK K bb
 iterate 6 (refine plan_take (v := ?_) rfl (by rfl) ?_ ?_; rotate_left; (focus (intro w' _; go_simp; try with_reducible rfl)); simp only [Act.put, List.setIfInBounds_toArray, List.set_cons_zero, List.set_cons_succ])
 refine plan_call rfl (by rfl) (fun K hK => ?_)
 go_simp
 refine (vadd_v ((s1.to hb).vi ms1.qm (by decide)) (vC.to hb) (by decide) (by decide) (by decide) ms1.l mC.l).mono ?_
 rintro e V ⟨_, _, _, rfl, s4, bb⟩
 replace hb := bx hb bb
 refine hK.out _ _ hb ?_
 clear hK K bb
 refine plan_call rfl (by rfl) (fun K hK => ?_)
 go_simp
 refine (vadd_v (vA.to hb) ((s2.to hb).vi ms2.qm (by decide)) (by decide) (by decide) (by decide) mA.l ms2.l).mono ?_
 rintro e V ⟨_, _, _, rfl, s5, bb⟩
 replace hb := bx hb bb
 replace s4 := s4.to bb
 refine hK.out _ _ hb ?_
 clear hK K bb
 refine plan_call rfl (by rfl) (fun K hK => ?_)
 go_simp
 refine (vequal_v (s4.vi ms4.qm (by decide)) (s5.vi ms5.qm (by decide)) (by decide) (by decide) (by decide) ms4.l ms5.l (sp_assoc a b c)).mono ?_
 rintro e V ⟨rfl, bb⟩
 replace hb := bx hb bb
 clear s4
 clear s5
 refine hK.out _ _ hb ?_
 clear hK K bb
 iterate 6 (refine plan_take (v := ?_) rfl (by rfl) ?_ ?_; rotate_left; (focus (intro w' _; go_simp; try with_reducible rfl)); simp only [Act.put, List.setIfInBounds_toArray, List.set_cons_zero, List.set_cons_succ])
 refine plan_call rfl (by rfl) (fun K hK => ?_)
 go_simp
 refine (vsub_v ((s1.to hb).vi ms1.qm (by decide)) (vB.to hb) (by decide) (by decide) (by decide) ms1.l mB.l).mono ?_
 rintro e V ⟨_, _, _, rfl, s6, bb⟩
 replace hb := bx hb bb
 refine hK.out _ _ hb ?_
 clear hK K bb
 refine plan_call rfl (by rfl) (fun K hK => ?_)
 go_simp
 refine (vequal_v (s6.vi ms6.qm (by decide)) (vA.to hb) (by decide) (by decide) (by decide) ms6.l mA.l (sp_sub a b)).mono ?_
 rintro e V ⟨rfl, bb⟩
 replace hb := bx hb bb
 clear s6
 refine hK.out _ _ hb ?_
 clear hK K bb
 iterate 3 (refine plan_take (v := ?_) rfl (by rfl) ?_ ?_; rotate_left; (focus (intro w' _; go_simp; try with_reducible rfl)); simp only [Act.put, List.setIfInBounds_toArray, List.set_cons_zero, List.set_cons_succ])
 refine plan_take rfl (by rfl) (fun w' hS => load_four (by rfl) (tT.to hS)) ?_; simp only [Act.put, List.setIfInBounds_toArray, List.set_cons_zero, List.set_cons_succ]
 refine plan_take (v := ?_) rfl (by rfl) ?_ ?_; rotate_left; (focus (intro w' _; go_simp; try with_reducible rfl)); simp only [Act.put, List.setIfInBounds_toArray, List.set_cons_zero, List.set_cons_succ]
 refine plan_take rfl (by rfl) (fun w' hS => load_four (by rfl) (tT.to hS)) ?_; simp only [Act.put, List.setIfInBounds_toArray, List.set_cons_zero, List.set_cons_succ]
 refine plan_take (v := ?_) rfl (by rfl) ?_ ?_; rotate_left; (focus (intro w' _; go_simp; try with_reducible rfl)); simp only [Act.put, List.setIfInBounds_toArray, List.set_cons_zero, List.set_cons_succ]
 refine plan_take rfl (by rfl) (fun w' hS => load_four (by rfl) (tT.to hS)) ?_; simp only [Act.put, List.setIfInBounds_toArray, List.set_cons_zero, List.set_cons_succ]
 refine plan_take (v := ?_) rfl (by rfl) ?_ ?_; rotate_left; (focus (intro w' _; go_simp; try with_reducible rfl)); simp only [Act.put, List.setIfInBounds_toArray, List.set_cons_zero, List.set_cons_succ]
 refine plan_call rfl (by rfl) (fun K hK => ?_)
 go_simp
 refine (vscale_v (vT.to hb) ((s1.to hb).vi ms1.qm (by decide)) (by decide) (by decide) (by decide) ms1.l).mono ?_
 rintro e V ⟨_, _, _, rfl, s7, bb⟩
 replace hb := bx hb bb
 refine hK.out _ _ hb ?_
 clear hK K bb
 refine plan_call rfl (by rfl) (fun K hK => ?_)
 go_simp
 refine (vscale_v (vT.to hb) (vA.to hb) (by decide) (by decide) (by decide) mA.l).mono ?_
 rintro e V ⟨_, _, _, rfl, s8, bb⟩
 replace hb := bx hb bb
 replace s7 := s7.to bb
 refine hK.out _ _ hb ?_
 clear hK K bb
 refine plan_call rfl (by rfl) (fun K hK => ?_)
 go_simp
 refine (vscale_v (vT.to hb) (vB.to hb) (by decide) (by decide) (by decide) mB.l).mono ?_
 rintro e V ⟨_, _, _, rfl, s9, bb⟩
 replace hb := bx hb bb
 replace s7 := s7.to bb
 replace s8 := s8.to bb
 refine hK.out _ _ hb ?_
 clear hK K bb
 refine plan_call rfl (by rfl) (fun K hK => ?_)
 go_simp
 refine (vadd_v (s8.vi ms8.qm (by decide)) (s9.vi ms9.qm (by decide)) (by decide) (by decide) (by decide) ms8.l ms9.l).mono ?_
 rintro e V ⟨_, _, _, rfl, s10, bb⟩
 replace hb := bx hb bb
 clear s8
 clear s9
 replace s7 := s7.to bb
 refine hK.out _ _ hb ?_
 clear hK K bb
 refine plan_call rfl (by rfl) (fun K hK => ?_)
 go_simp
 refine (vequal_v (s7.vi ms7.qm (by decide)) (s10.vi ms10.qm (by decide)) (by decide) (by decide) (by decide) ms7.l ms10.l (sp_dist t a b)).mono ?_
 rintro e V ⟨rfl, bb⟩
 replace hb := bx hb bb
 clear s7
 clear s10
 refine hK.out _ _ hb ?_
 clear hK K bb
 iterate 2 (refine plan_take (v := ?_) rfl (by rfl) ?_ ?_; rotate_left; (focus (intro w' _; go_simp; try with_reducible rfl)); simp only [Act.put, List.setIfInBounds_toArray, List.set_cons_zero, List.set_cons_succ])
 refine plan_done ?_
 replace tS := tS.to hb
 replace tT := tT.to hb
 replace vA := vA.to hb
 replace vB := vB.to hb
 replace vC := vC.to hb
 replace vS := vS.to hb
 replace vT := vT.to hb
 replace s1 := s1.to hb
 replace s2 := s2.to hb
 replace HB := hx HB hb
 clear hb
 go_wp2_with fail
 obtain ⟨W6, hW6⟩ : ∃ W, W = V := ⟨_, rfl⟩
 rw [<- hW6] at HB tS tT vA vB vC vS vT s1 s2 ⊢
 clear hW6
 have mr11 : Qm 12 (s * t) := mS.mul mT
 have ms12 : Vm 18 (scaleQ (s * t) a) := Vm.scale mr11 mA
 have ms13 : Vm 12 (scaleQ t a) := Vm.scale mT mA
 have ms14 : Vm 18 (scaleQ s (scaleQ t a)) := Vm.scale mS ms13
 have ms15 : Vm 19 (ptw (fun r s => t * r + s) a b) := Vm.scaled mT mA mB
 have ms16 : Vm 12 (scaleQ t a) := Vm.scale mT mA
 have ms17 : Vm 19 (ptw (fun r s => r + s) (scaleQ t a) b) := ms16.add mB
 have ms18 : Vm 22 (sum3 a b c) := Vm.sum3 mA mB mC (by decide)
 have ms19 : Vm 20 (ptw (fun r s => r + s) (ptw (fun r s => r + s) a b) c) := ms1.add mC
 refine wp_region_plan (S := fun w' => Below W6.heap.size W6 w') [(0, true), (1, true), (3, true), (5, true), (6, true), (7, true), (2, false), (4, false), (8, false), (9, false), (10, false), (11, true), (12, true), (13, true), (14, true), (15, true), (17, true), (18, true), (20, true), (16, false), (19, false), (21, false), (22, false), (23, true), (24, true), (25, true), (26, true), (27, true), (28, true), (31, true), (32, true), (29, false), (30, false), (33, false), (34, false), (35, true), (36, true)] (by kernel_rfl) (by kernel_rfl) (Below.refl _ _).drew ?_
 have hb := (Below.refl W6.heap.size W6).drew
 refine plan_take rfl (by rfl) (fun w' hS => load_four (by rfl) (tS.to hS)) ?_; simp only [Act.put, List.setIfInBounds_toArray, List.set_cons_zero, List.set_cons_succ]
 refine plan_take rfl (by rfl) (fun w' hS => load_four (by rfl) (tT.to hS)) ?_; simp only [Act.put, List.setIfInBounds_toArray, List.set_cons_zero, List.set_cons_succ]
 refine plan_take (v := ?_) rfl (by rfl) ?_ ?_; rotate_left; (focus (intro w' _; go_simp; try with_reducible rfl)); simp only [Act.put, List.setIfInBounds_toArray, List.set_cons_zero, List.set_cons_succ]
 refine plan_take rfl (by rfl) (fun w' hS => load_four (by rfl) (tS.to hS)) ?_; simp only [Act.put, List.setIfInBounds_toArray, List.set_cons_zero, List.set_cons_succ]
 refine plan_take rfl (by rfl) (fun w' hS => load_four (by rfl) (tT.to hS)) ?_; simp only [Act.put, List.setIfInBounds_toArray, List.set_cons_zero, List.set_cons_succ]
 refine plan_take (v := ?_) rfl (by rfl) ?_ ?_; rotate_left; (focus (intro w' _; go_simp; try with_reducible rfl)); simp only [Act.put, List.setIfInBounds_toArray, List.set_cons_zero, List.set_cons_succ]
 refine plan_call rfl (by rfl) (fun K hK => ?_)
 go_simp
 refine (mul_q (vS.to hb) (vT.to hb) (by decide) (by decide) (by decide)).mono ?_
 rintro e V ⟨_, _, _, _, rfl, r11, bb⟩
 replace hb := bx hb bb
 refine hK.out _ _ hb ?_
 clear hK K bb
 refine plan_call rfl (by rfl) (fun K hK => ?_)
 go_simp
 refine (vscale_v (r11.qi mr11 (by decide)) (vA.to hb) (by decide) (by decide) (by decide) mA.l).mono ?_
 rintro e V ⟨_, _, _, rfl, s12, bb⟩
 replace hb := bx hb bb
 clear r11
 refine hK.out _ _ hb ?_
 clear hK K bb
 refine plan_call rfl (by rfl) (fun K hK => ?_)
 go_simp
 refine (vscale_v (vT.to hb) (vA.to hb) (by decide) (by decide) (by decide) mA.l).mono ?_
 rintro e V ⟨_, _, _, rfl, s13, bb⟩
 replace hb := bx hb bb
 replace s12 := s12.to bb
 refine hK.out _ _ hb ?_
 clear hK K bb
 refine plan_call rfl (by rfl) (fun K hK => ?_)
 go_simp
 refine (vscale_v (vS.to hb) (s13.vi ms13.qm (by decide)) (by decide) (by decide) (by decide) ms13.l).mono ?_
 rintro e V ⟨_, _, _, rfl, s14, bb⟩
 replace hb := bx hb bb
 clear s13
 replace s12 := s12.to bb
 refine hK.out _ _ hb ?_
 clear hK K bb
 refine plan_call rfl (by rfl) (fun K hK => ?_)
 go_simp
 refine (vequal_v (s12.vi ms12.qm (by decide)) (s14.vi ms14.qm (by decide)) (by decide) (by decide) (by decide) ms12.l ms14.l (sp_mul s t a)).mono ?_
 rintro e V ⟨rfl, bb⟩
 replace hb := bx hb bb
 clear s12
 clear s14
 refine hK.out _ _ hb ?_
 clear hK K bb
 iterate 2 (refine plan_take (v := ?_) rfl (by rfl) ?_ ?_; rotate_left; (focus (intro w' _; go_simp; try with_reducible rfl)); simp only [Act.put, List.setIfInBounds_toArray, List.set_cons_zero, List.set_cons_succ])
 refine plan_take rfl (by rfl) (fun w' hS => load_four (by rfl) (tT.to hS)) ?_; simp only [Act.put, List.setIfInBounds_toArray, List.set_cons_zero, List.set_cons_succ]
 iterate 2 (refine plan_take (v := ?_) rfl (by rfl) ?_ ?_; rotate_left; (focus (intro w' _; go_simp; try with_reducible rfl)); simp only [Act.put, List.setIfInBounds_toArray, List.set_cons_zero, List.set_cons_succ])
 refine plan_take rfl (by rfl) (fun w' hS => load_four (by rfl) (tT.to hS)) ?_; simp only [Act.put, List.setIfInBounds_toArray, List.set_cons_zero, List.set_cons_succ]
 iterate 2 (refine plan_take (v := ?_) rfl (by rfl) ?_ ?_; rotate_left; (focus (intro w' _; go_simp; try with_reducible rfl)); simp only [Act.put, List.setIfInBounds_toArray, List.set_cons_zero, List.set_cons_succ])
 refine plan_call rfl (by rfl) (fun K hK => ?_)
 go_simp
 refine (vscaled_v (vT.to hb) (vA.to hb) (vB.to hb) (by decide) (by decide) (by decide) (by decide) mA.l mB.l).mono ?_
 rintro e V ⟨_, _, _, rfl, s15, bb⟩
 replace hb := bx hb bb
 refine hK.out _ _ hb ?_
 clear hK K bb
 refine plan_call rfl (by rfl) (fun K hK => ?_)
 go_simp
 refine (vscale_v (vT.to hb) (vA.to hb) (by decide) (by decide) (by decide) mA.l).mono ?_
 rintro e V ⟨_, _, _, rfl, s16, bb⟩
 replace hb := bx hb bb
 replace s15 := s15.to bb
 refine hK.out _ _ hb ?_
 clear hK K bb
 refine plan_call rfl (by rfl) (fun K hK => ?_)
 go_simp
 refine (vadd_v (s16.vi ms16.qm (by decide)) (vB.to hb) (by decide) (by decide) (by decide) ms16.l mB.l).mono ?_
 rintro e V ⟨_, _, _, rfl, s17, bb⟩
 replace hb := bx hb bb
 clear s16
 replace s15 := s15.to bb
 refine hK.out _ _ hb ?_
 clear hK K bb
 refine plan_call rfl (by rfl) (fun K hK => ?_)
 go_simp
 refine (vequal_v (s15.vi ms15.qm (by decide)) (s17.vi ms17.qm (by decide)) (by decide) (by decide) (by decide) ms15.l ms17.l (sp_scd t a b)).mono ?_
 rintro e V ⟨rfl, bb⟩
 replace hb := bx hb bb
 clear s15
 clear s17
 refine hK.out _ _ hb ?_
 clear hK K bb
 iterate 8 (refine plan_take (v := ?_) rfl (by rfl) ?_ ?_; rotate_left; (focus (intro w' _; go_simp; try with_reducible rfl)); simp only [Act.put, List.setIfInBounds_toArray, List.set_cons_zero, List.set_cons_succ])
 refine plan_call rfl (by rfl) (fun K hK => ?_)
 go_simp
 obtain ⟨U, hU⟩ : ∃ U, U = V.alloc (.cells #[.slice A1 a.length c1, .slice A2 b.length c2, .slice A3 c.length c3] 27) := ⟨_, rfl⟩
 have bb : Below V.heap.size V U := by rw [hU]; exact (Below.refl _ _).alloc (Nat.le_refl _) _
 have hps : Hp U V.heap.size (.cells #[.slice A1 a.length c1, .slice A2 b.length c2, .slice A3 c.length c3] 27 (0, 0)) := by rw [hU]; exact Hp.new _ _ _
 rw [<- hU]
 clear hU
 replace hb := bx hb bb
 refine hK.out _ _ hb ?_
 clear hK K bb
 refine plan_call rfl (by rfl) (fun K hK => ?_)
 go_simp
 refine (vsum3 hps (vA.to hb) (vB.to hb) (vC.to hb) (by decide) mA mB mC (by decide)).mono ?_
 rintro e V ⟨_, _, _, rfl, s18, bb⟩
 replace hb := bx hb bb
 refine hK.out _ _ hb ?_
 clear hK K bb
 refine plan_call rfl (by rfl) (fun K hK => ?_)
 go_simp
 refine (vadd_v ((s1.to hb).vi ms1.qm (by decide)) (vC.to hb) (by decide) (by decide) (by decide) ms1.l mC.l).mono ?_
 rintro e V ⟨_, _, _, rfl, s19, bb⟩
 replace hb := bx hb bb
 replace s18 := s18.to bb
 refine hK.out _ _ hb ?_
 clear hK K bb
 refine plan_call rfl (by rfl) (fun K hK => ?_)
 go_simp
 refine (vequal_v (s18.vi ms18.qm (by decide)) (s19.vi ms19.qm (by decide)) (by decide) (by decide) (by decide) ms18.l ms19.l (sp_sum a b c)).mono ?_
 rintro e V ⟨rfl, bb⟩
 replace hb := bx hb bb
 clear s18
 clear s19
 refine hK.out _ _ hb ?_
 clear hK K bb
 iterate 2 (refine plan_take (v := ?_) rfl (by rfl) ?_ ?_; rotate_left; (focus (intro w' _; go_simp; try with_reducible rfl)); simp only [Act.put, List.setIfInBounds_toArray, List.set_cons_zero, List.set_cons_succ])
 refine plan_done ?_
 replace tS := tS.to hb
 replace tT := tT.to hb
 replace vA := vA.to hb
 replace vB := vB.to hb
 replace vC := vC.to hb
 replace vS := vS.to hb
 replace vT := vT.to hb
 replace s1 := s1.to hb
 replace s2 := s2.to hb
 replace HB := hx HB hb
 clear hb
 go_wp2_with fail
 obtain ⟨W7, hW7⟩ : ∃ W, W = V := ⟨_, rfl⟩
 rw [<- hW7] at HB tS tT vA vB vC vS vT s1 s2 ⊢
 clear hW7
 clear s1 s2
 have m1 : Qm (20 * (6 + 6 + 1) + 1) (dotQ a c) := mA.dot mC
 have m2 : Qm (20 * (6 + 6 + 1) + 1) (dotQ b c) := mB.dot mC
 have m3 : Qm (6 + (20 * (6 + 6 + 1) + 1)) (s * dotQ a c) := mS.mul m1
 have m4 : Qm (6 + (20 * (6 + 6 + 1) + 1)) (t * dotQ b c) := mT.mul m2
 have m5 := m3.add m4
 obtain ⟨W8, hW8⟩ : ∃ W8, W8 = W7.drew := ⟨_, rfl⟩
 have b8 : Below W7.heap.size W7 W8 := by rw [hW8]; exact (Below.refl _ _).drew
 refine wp_region_planTo (S := fun w' => Below W7.heap.size W7 w') [(0, true), (1, true), (2, true), (5, true), (6, true), (7, true)] #[true, true, true, false, false, true, true, true, false, false, false, false, false] 7 (by kernel_rfl) (by kernel_rfl) (Below.refl _ _).drew ?_
 refine plan_take rfl (by rfl) (fun w' hS => load_four (by rfl) (tS.to hS)) ?_; simp only [Act.put, List.setIfInBounds_toArray, List.set_cons_zero, List.set_cons_succ]
 iterate 2 (refine plan_take (v := ?_) rfl (by rfl) ?_ ?_; rotate_left; (focus (intro w' _; go_simp; try with_reducible rfl)); simp only [Act.put, List.setIfInBounds_toArray, List.set_cons_zero, List.set_cons_succ])
 refine plan_take rfl (by rfl) (fun w' hS => load_four (by rfl) (tT.to hS)) ?_; simp only [Act.put, List.setIfInBounds_toArray, List.set_cons_zero, List.set_cons_succ]
 iterate 2 (refine plan_take (v := ?_) rfl (by rfl) ?_ ?_; rotate_left; (focus (intro w' _; go_simp; try with_reducible rfl)); simp only [Act.put, List.setIfInBounds_toArray, List.set_cons_zero, List.set_cons_succ])
 intro _
 rw [<- hW8]
 clear hW8
 refine act_intro (F := fun a => wpAnyH _ _ _ _ _ _ _ a _) ?_
 intro a0 ha0
 obtain ⟨mk, hmk⟩ : ∃ mk : Value -> Value -> Value -> Value -> Value -> Value -> Act, mk = fun x1 x2 x3 x4 x5 x6 => (((((a0.put (some 110) x1).put (some 111) x2).put (some 115) x3).put (some 116) x4).put (some 117) x5).put (some 13) x6 := ⟨_, rfl⟩
 simp only [ha0, Act.put, List.setIfInBounds_toArray, List.set_cons_zero, List.set_cons_succ] at hmk
 refine dag (fun G up dn => ?_)
 have D5a : ∀ (V : World) (hV : Below W7.heap.size W7 V) (x1 x2 x3 x4 : Value) (y1 y2 y3 y4 : Value) (hq : Qc V y1 y2 y3 y4 (s * dotQ a c + t * dotQ b c)) (g : Nat) (hg : W7.heap.size <= g) (hrow : Row V g [E4.z]), G 1 #[true, true, true, true, true, true, true, true, true, true, true, true, false] (mk x1 x2 x3 x4 (.agg #[y1, y2, y3, y4]) (.pointer (some ⟨g, 0, none⟩))) V := by
  intro V hV x1 x2 x3 x4 y1 y2 y3 y4 hq g hg hrow
  refine up ?_
  simp only [hmk]
  refine rdy1 (i := 12) (by kernel_rfl) rfl (by rfl) (fun K hK => ?_)
  obtain ⟨W9, hW9⟩ : ∃ W9, W9 = V.setRow g (flat ([E4.z].set 0 ⟨y1, y2, y3, y4⟩)).toArray := ⟨_, rfl⟩
  have kw : Kw V W9 := by rw [hW9]; exact hrow.kw
  have b9 : Below W7.heap.size W7 W9 := by rw [hW9]; exact below_setRow hV hg _
  have tX : Four W9 g y1 y2 y3 y4 := by rw [hW9]; exact (hrow.app (n := 0) (e := ⟨y1, y2, y3, y4⟩) hq.fq).four
  have qE := kw.qc hq
  refine op_storeq (k := 0) (e := ⟨y1, y2, y3, y4⟩) (by rfl) (by rfl) hrow (by simp) hq.fq ?_
  rw [<- hW9]
  refine hK.out _ _ b9 ?_
  clear hK K kw hW9 hq hrow hmk ha0
  replace tS := tS.to b9
  replace tT := tT.to b9
  replace vA := vA.to b9
  replace vB := vB.to b9
  replace vC := vC.to b9
  replace vS := vS.to b9
  replace vT := vT.to b9
  replace HB := hx HB b9
  clear b9 b8 hV hg
  refine wpAnyH_done (by kernel_rfl) ?_ _
  show NoPanic _ _ _ _
  go_wp2_with fail
  apply_assumption
  go_wp2_with fail
  have ms20 : Vm 12 (scaleQ s a) := Vm.scale mS mA
  have ms21 : Vm 12 (scaleQ t b) := Vm.scale mT mB
  have ms22 : Vm 25 (ptw (fun r s => r + s) (scaleQ s a) (scaleQ t b)) := ms20.add ms21
  have mr23 : Qm (20 * (25 + 6 + 1) + 1) (dotQ (ptw (fun r s => r + s) (scaleQ s a) (scaleQ t b)) c) := Vm.dot ms22 mC
  have mr24 : Qm (20 * (6 + 6 + 1) + 1) (dotQ a b) := Vm.dot mA mB
  have mr25 : Qm (20 * (6 + 6 + 1) + 1) (dotQ b a) := Vm.dot mB mA
  refine wp_region_plan (S := fun w' => Below W9.heap.size W9 w') [(0, true), (1, true), (2, true), (4, true), (5, true), (8, true), (3, false), (6, false), (7, false), (9, false), (10, false), (11, true), (12, true), (13, true), (15, true), (16, true), (14, false), (17, false), (18, false), (19, true), (20, true), (21, false), (22, true), (23, true)] (by kernel_rfl) (by kernel_rfl) (Below.refl _ _).drew ?_
  have hb := (Below.refl W9.heap.size W9).drew
  refine plan_take rfl (by rfl) (fun w' hS => load_four (by rfl) (tX.to hS)) ?_; simp only [Act.put, List.setIfInBounds_toArray, List.set_cons_zero, List.set_cons_succ]
  refine plan_take rfl (by rfl) (fun w' hS => load_four (by rfl) (tS.to hS)) ?_; simp only [Act.put, List.setIfInBounds_toArray, List.set_cons_zero, List.set_cons_succ]
  refine plan_take (v := ?_) rfl (by rfl) ?_ ?_; rotate_left; (focus (intro w' _; go_simp; try with_reducible rfl)); simp only [Act.put, List.setIfInBounds_toArray, List.set_cons_zero, List.set_cons_succ]
  refine plan_take rfl (by rfl) (fun w' hS => load_four (by rfl) (tT.to hS)) ?_; simp only [Act.put, List.setIfInBounds_toArray, List.set_cons_zero, List.set_cons_succ]
  iterate 2 (refine plan_take (v := ?_) rfl (by rfl) ?_ ?_; rotate_left; (focus (intro w' _; go_simp; try with_reducible rfl)); simp only [Act.put, List.setIfInBounds_toArray, List.set_cons_zero, List.set_cons_succ])
  refine plan_call rfl (by rfl) (fun K hK => ?_)
  go_simp
  refine (vscale_v (vS.to hb) (vA.to hb) (by decide) (by decide) (by decide) mA.l).mono ?_
  rintro e V ⟨_, _, _, rfl, s20, bb⟩
  replace hb := bx hb bb
  refine hK.out _ _ hb ?_
  clear hK K bb
  refine plan_call rfl (by rfl) (fun K hK => ?_)
  go_simp
  refine (vscale_v (vT.to hb) (vB.to hb) (by decide) (by decide) (by decide) mB.l).mono ?_
  rintro e V ⟨_, _, _, rfl, s21, bb⟩
  replace hb := bx hb bb
  replace s20 := s20.to bb
  refine hK.out _ _ hb ?_
  clear hK K bb
  refine plan_call rfl (by rfl) (fun K hK => ?_)
  go_simp
  refine (vadd_v (s20.vi ms20.qm (by decide)) (s21.vi ms21.qm (by decide)) (by decide) (by decide) (by decide) ms20.l ms21.l).mono ?_
  rintro e V ⟨_, _, _, rfl, s22, bb⟩
  replace hb := bx hb bb
  clear s20
  clear s21
  refine hK.out _ _ hb ?_
  clear hK K bb
  refine plan_call rfl (by rfl) (fun K hK => ?_)
  go_simp
  refine (vdot_m (s22.vi ms22.qm (by decide)) (vC.to hb) (by decide) (by decide) ms22 mC (by decide)).mono ?_
  rintro e V ⟨_, _, _, _, rfl, r23, bb⟩
  replace hb := bx hb bb
  clear s22
  refine hK.out _ _ hb ?_
  clear hK K bb
  refine plan_call rfl (by rfl) (fun K hK => ?_)
  go_simp
  refine (equal_q ((qE.to hb).qi m5 (by decide)) (r23.qi mr23 (by decide)) (by decide) (by decide) (by decide) (sp_lin s t a b c)).mono ?_
  rintro e V ⟨rfl, bb⟩
  replace hb := bx hb bb
  clear r23
  refine hK.out _ _ hb ?_
  clear hK K bb
  iterate 5 (refine plan_take (v := ?_) rfl (by rfl) ?_ ?_; rotate_left; (focus (intro w' _; go_simp; try with_reducible rfl)); simp only [Act.put, List.setIfInBounds_toArray, List.set_cons_zero, List.set_cons_succ])
  refine plan_call rfl (by rfl) (fun K hK => ?_)
  go_simp
  refine (vdot_m (vA.to hb) (vB.to hb) (by decide) (by decide) mA mB (by decide)).mono ?_
  rintro e V ⟨_, _, _, _, rfl, r24, bb⟩
  replace hb := bx hb bb
  refine hK.out _ _ hb ?_
  clear hK K bb
  refine plan_call rfl (by rfl) (fun K hK => ?_)
  go_simp
  refine (vdot_m (vB.to hb) (vA.to hb) (by decide) (by decide) mB mA (by decide)).mono ?_
  rintro e V ⟨_, _, _, _, rfl, r25, bb⟩
  replace hb := bx hb bb
  replace r24 := r24.to bb
  refine hK.out _ _ hb ?_
  clear hK K bb
  refine plan_call rfl (by rfl) (fun K hK => ?_)
  go_simp
  refine (equal_q (r24.qi mr24 (by decide)) (r25.qi mr25 (by decide)) (by decide) (by decide) (by decide) (sp_dot a b)).mono ?_
  rintro e V ⟨rfl, bb⟩
  replace hb := bx hb bb
  clear r24
  clear r25
  refine hK.out _ _ hb ?_
  clear hK K bb
  iterate 2 (refine plan_take (v := ?_) rfl (by rfl) ?_ ?_; rotate_left; (focus (intro w' _; go_simp; try with_reducible rfl)); simp only [Act.put, List.setIfInBounds_toArray, List.set_cons_zero, List.set_cons_succ])
  refine plan_call rfl (by rfl) (fun K hK => ?_)
  go_simp
  refine (valive_any _).mono ?_
  rintro e V ⟨rfl, bb⟩
  replace hb := bx hb bb
  refine hK.out _ _ hb ?_
  clear hK K bb
  iterate 2 (refine plan_take (v := ?_) rfl (by rfl) ?_ ?_; rotate_left; (focus (intro w' _; go_simp; try with_reducible rfl)); simp only [Act.put, List.setIfInBounds_toArray, List.set_cons_zero, List.set_cons_succ])
  refine plan_done ?_
  replace tS := tS.to hb
  replace tT := tT.to hb
  replace vA := vA.to hb
  replace vB := vB.to hb
  replace vC := vC.to hb
  replace vS := vS.to hb
  replace vT := vT.to hb
  replace tX := tX.to hb
  replace qE := qE.to hb
  replace HB := hx HB hb
  clear hb
  go_wp2
  go_ret
  exact ⟨rfl, HB.out⟩
 have D5 : ∀ (V : World) (hV : Below W7.heap.size W7 V) (x1 x2 x3 x4 : Value) (y1 y2 y3 y4 : Value) (hq : Qc V y1 y2 y3 y4 (s * dotQ a c + t * dotQ b c)), G 2 #[true, true, true, true, true, true, true, true, true, true, true, false, false] (mk x1 x2 x3 x4 (.agg #[y1, y2, y3, y4]) undef) V := by
  intro V hV x1 x2 x3 x4 y1 y2 y3 y4 hq
  refine up ?_
  simp only [hmk]
  refine rdy1 (i := 11) (by kernel_rfl) rfl (by rfl) (fun K hK => ?_)
  .go_simp
   have hR : Row (V.alloc (.cells (flat (List.replicate 1 E4.z)).toArray 26)) V.heap.size [E4.z] := Row.new V 1
   have bb : Below V.heap.size V (V.alloc (.cells (flat (List.replicate 1 E4.z)).toArray 26)) := (Below.refl _ _).alloc (Nat.le_refl _) _
   have hV2 := bx hV bb
   refine hK.out _ _ hV2 ?_
   have hD := D5a _ hV2 x1 x2 x3 x4 _ _ _ _ (hq.to bb) V.heap.size hV.size hR
   simp only [hmk] at hD
   simp only [Act.put, List.setIfInBounds_toArray, List.set_cons_zero, List.set_cons_succ]
   exact dn hD
 have D4a : ∀ (V : World) (hV : Below W7.heap.size W7 V) (x1 x3 : Value) (y1 y2 y3 y4 : Value) (hq : Qc V y1 y2 y3 y4 (s * dotQ a c)) (z1 z2 z3 z4 : Value) (hr : Qc V z1 z2 z3 z4 (t * dotQ b c)) (g : Nat) (hg : W7.heap.size <= g) (hrow : Row V g [E4.z]), G 2 #[true, true, true, true, true, true, true, true, true, true, false, true, false] (mk x1 (.agg #[y1, y2, y3, y4]) x3 (.agg #[z1, z2, z3, z4]) undef (.pointer (some ⟨g, 0, none⟩))) V := by
  intro V hV x1 x3 y1 y2 y3 y4 hq z1 z2 z3 z4 hr g hg hrow
  refine up ?_
  simp only [hmk]
  refine rdy1 (i := 10) (by kernel_rfl) rfl (by rfl) (fun K hK => ?_)
  .go_simp
   refine (add_q (hq.qi m3 (by decide)) (hr.qi m4 (by decide)) (by decide) (by decide) (by decide)).mono ?_
   rintro e U ⟨n1, n2, n3, n4, rfl, hn, bb⟩
   have hV2 := bx hV bb
   refine hK.out _ _ hV2 ?_
   have hD := D5a _ hV2 x1 (.agg #[y1, y2, y3, y4]) x3 (.agg #[z1, z2, z3, z4]) _ _ _ _ hn g hg (hrow.to bb)
   simp only [hmk] at hD
   simp only [Act.put, List.setIfInBounds_toArray, List.set_cons_zero, List.set_cons_succ]
   exact dn hD
 have D4 : ∀ (V : World) (hV : Below W7.heap.size W7 V) (x1 x3 : Value) (y1 y2 y3 y4 : Value) (hq : Qc V y1 y2 y3 y4 (s * dotQ a c)) (z1 z2 z3 z4 : Value) (hr : Qc V z1 z2 z3 z4 (t * dotQ b c)), G 3 #[true, true, true, true, true, true, true, true, true, true, false, false, false] (mk x1 (.agg #[y1, y2, y3, y4]) x3 (.agg #[z1, z2, z3, z4]) undef undef) V := by
  intro V hV x1 x3 y1 y2 y3 y4 hq z1 z2 z3 z4 hr
  refine up ?_
  simp only [hmk]
  refine wpAnyH_ready (rs := [10, 11]) (by kernel_rfl) (by simp) (ready_cons rfl (by rfl) (fun K hK => ?_) (ready_cons rfl (by rfl) (fun K hK => ?_) AllReadyH.nil))
  .go_simp
   refine (add_q (hq.qi m3 (by decide)) (hr.qi m4 (by decide)) (by decide) (by decide) (by decide)).mono ?_
   rintro e U ⟨n1, n2, n3, n4, rfl, hn, bb⟩
   have hV2 := bx hV bb
   refine hK.out _ _ hV2 ?_
   have hD := D5 _ hV2 x1 (.agg #[y1, y2, y3, y4]) x3 (.agg #[z1, z2, z3, z4]) _ _ _ _ hn
   simp only [hmk] at hD
   simp only [Act.put, List.setIfInBounds_toArray, List.set_cons_zero, List.set_cons_succ]
   exact dn hD
  .go_simp
   have hR : Row (V.alloc (.cells (flat (List.replicate 1 E4.z)).toArray 26)) V.heap.size [E4.z] := Row.new V 1
   have bb : Below V.heap.size V (V.alloc (.cells (flat (List.replicate 1 E4.z)).toArray 26)) := (Below.refl _ _).alloc (Nat.le_refl _) _
   have hV2 := bx hV bb
   refine hK.out _ _ hV2 ?_
   have hD := D4a _ hV2 x1 x3 _ _ _ _ (hq.to bb) _ _ _ _ (hr.to bb) V.heap.size hV.size hR
   simp only [hmk] at hD
   simp only [Act.put, List.setIfInBounds_toArray, List.set_cons_zero, List.set_cons_succ]
   exact dn hD
 have D3a : ∀ (V : World) (hV : Below W7.heap.size W7 V) (x1 : Value) (y1 y2 y3 y4 : Value) (hq : Qc V y1 y2 y3 y4 (s * dotQ a c)) (z1 z2 z3 z4 : Value) (hr : Qc V z1 z2 z3 z4 (dotQ b c)) (g : Nat) (hg : W7.heap.size <= g) (hrow : Row V g [E4.z]), G 3 #[true, true, true, true, true, true, true, true, true, false, false, true, false] (mk x1 (.agg #[y1, y2, y3, y4]) (.agg #[z1, z2, z3, z4]) undef undef (.pointer (some ⟨g, 0, none⟩))) V := by
  intro V hV x1 y1 y2 y3 y4 hq z1 z2 z3 z4 hr g hg hrow
  refine up ?_
  simp only [hmk]
  refine rdy1 (i := 9) (by kernel_rfl) rfl (by rfl) (fun K hK => ?_)
  .go_simp
   refine (mul_q (vT.to hV) (hr.qi m2 (by decide)) (by decide) (by decide) (by decide)).mono ?_
   rintro e U ⟨n1, n2, n3, n4, rfl, hn, bb⟩
   have hV2 := bx hV bb
   refine hK.out _ _ hV2 ?_
   have hD := D4a _ hV2 x1 (.agg #[z1, z2, z3, z4]) _ _ _ _ (hq.to bb) _ _ _ _ hn g hg (hrow.to bb)
   simp only [hmk] at hD
   simp only [Act.put, List.setIfInBounds_toArray, List.set_cons_zero, List.set_cons_succ]
   exact dn hD
 have D3 : ∀ (V : World) (hV : Below W7.heap.size W7 V) (x1 : Value) (y1 y2 y3 y4 : Value) (hq : Qc V y1 y2 y3 y4 (s * dotQ a c)) (z1 z2 z3 z4 : Value) (hr : Qc V z1 z2 z3 z4 (dotQ b c)), G 4 #[true, true, true, true, true, true, true, true, true, false, false, false, false] (mk x1 (.agg #[y1, y2, y3, y4]) (.agg #[z1, z2, z3, z4]) undef undef undef) V := by
  intro V hV x1 y1 y2 y3 y4 hq z1 z2 z3 z4 hr
  refine up ?_
  simp only [hmk]
  refine wpAnyH_ready (rs := [9, 11]) (by kernel_rfl) (by simp) (ready_cons rfl (by rfl) (fun K hK => ?_) (ready_cons rfl (by rfl) (fun K hK => ?_) AllReadyH.nil))
  .go_simp
   refine (mul_q (vT.to hV) (hr.qi m2 (by decide)) (by decide) (by decide) (by decide)).mono ?_
   rintro e U ⟨n1, n2, n3, n4, rfl, hn, bb⟩
   have hV2 := bx hV bb
   refine hK.out _ _ hV2 ?_
   have hD := D4 _ hV2 x1 (.agg #[z1, z2, z3, z4]) _ _ _ _ (hq.to bb) _ _ _ _ hn
   simp only [hmk] at hD
   simp only [Act.put, List.setIfInBounds_toArray, List.set_cons_zero, List.set_cons_succ]
   exact dn hD
  .go_simp
   have hR : Row (V.alloc (.cells (flat (List.replicate 1 E4.z)).toArray 26)) V.heap.size [E4.z] := Row.new V 1
   have bb : Below V.heap.size V (V.alloc (.cells (flat (List.replicate 1 E4.z)).toArray 26)) := (Below.refl _ _).alloc (Nat.le_refl _) _
   have hV2 := bx hV bb
   refine hK.out _ _ hV2 ?_
   have hD := D3a _ hV2 x1 _ _ _ _ (hq.to bb) _ _ _ _ (hr.to bb) V.heap.size hV.size hR
   simp only [hmk] at hD
   simp only [Act.put, List.setIfInBounds_toArray, List.set_cons_zero, List.set_cons_succ]
   exact dn hD
 have D2a : ∀ (V : World) (hV : Below W7.heap.size W7 V) (x1 : Value) (y1 y2 y3 y4 : Value) (hq : Qc V y1 y2 y3 y4 (s * dotQ a c)) (g : Nat) (hg : W7.heap.size <= g) (hrow : Row V g [E4.z]), G 4 #[true, true, true, true, true, true, true, true, false, false, false, true, false] (mk x1 (.agg #[y1, y2, y3, y4]) undef undef undef (.pointer (some ⟨g, 0, none⟩))) V := by
  intro V hV x1 y1 y2 y3 y4 hq g hg hrow
  refine up ?_
  simp only [hmk]
  refine rdy1 (i := 8) (by kernel_rfl) rfl (by rfl) (fun K hK => ?_)
  .go_simp
   refine (vdot_m (vB.to hV) (vC.to hV) (by decide) (by decide) mB mC (by decide)).mono ?_
   rintro e U ⟨n1, n2, n3, n4, rfl, hn, bb⟩
   have hV2 := bx hV bb
   refine hK.out _ _ hV2 ?_
   have hD := D3a _ hV2 x1 _ _ _ _ (hq.to bb) _ _ _ _ hn g hg (hrow.to bb)
   simp only [hmk] at hD
   simp only [Act.put, List.setIfInBounds_toArray, List.set_cons_zero, List.set_cons_succ]
   exact dn hD
 have D2 : ∀ (V : World) (hV : Below W7.heap.size W7 V) (x1 : Value) (y1 y2 y3 y4 : Value) (hq : Qc V y1 y2 y3 y4 (s * dotQ a c)), G 5 #[true, true, true, true, true, true, true, true, false, false, false, false, false] (mk x1 (.agg #[y1, y2, y3, y4]) undef undef undef undef) V := by
  intro V hV x1 y1 y2 y3 y4 hq
  refine up ?_
  simp only [hmk]
  refine wpAnyH_ready (rs := [8, 11]) (by kernel_rfl) (by simp) (ready_cons rfl (by rfl) (fun K hK => ?_) (ready_cons rfl (by rfl) (fun K hK => ?_) AllReadyH.nil))
  .go_simp
   refine (vdot_m (vB.to hV) (vC.to hV) (by decide) (by decide) mB mC (by decide)).mono ?_
   rintro e U ⟨n1, n2, n3, n4, rfl, hn, bb⟩
   have hV2 := bx hV bb
   refine hK.out _ _ hV2 ?_
   have hD := D3 _ hV2 x1 _ _ _ _ (hq.to bb) _ _ _ _ hn
   simp only [hmk] at hD
   simp only [Act.put, List.setIfInBounds_toArray, List.set_cons_zero, List.set_cons_succ]
   exact dn hD
  .go_simp
   have hR : Row (V.alloc (.cells (flat (List.replicate 1 E4.z)).toArray 26)) V.heap.size [E4.z] := Row.new V 1
   have bb : Below V.heap.size V (V.alloc (.cells (flat (List.replicate 1 E4.z)).toArray 26)) := (Below.refl _ _).alloc (Nat.le_refl _) _
   have hV2 := bx hV bb
   refine hK.out _ _ hV2 ?_
   have hD := D2a _ hV2 x1 _ _ _ _ (hq.to bb) V.heap.size hV.size hR
   simp only [hmk] at hD
   simp only [Act.put, List.setIfInBounds_toArray, List.set_cons_zero, List.set_cons_succ]
   exact dn hD
 have D1a : ∀ (V : World) (hV : Below W7.heap.size W7 V) (y1 y2 y3 y4 : Value) (hq : Qc V y1 y2 y3 y4 (dotQ a c)) (g : Nat) (hg : W7.heap.size <= g) (hrow : Row V g [E4.z]), G 5 #[true, true, true, true, false, true, true, true, false, false, false, true, false] (mk (.agg #[y1, y2, y3, y4]) undef undef undef undef (.pointer (some ⟨g, 0, none⟩))) V := by
  intro V hV y1 y2 y3 y4 hq g hg hrow
  refine up ?_
  simp only [hmk]
  refine rdy1 (i := 4) (by kernel_rfl) rfl (by rfl) (fun K hK => ?_)
  .go_simp
   refine (mul_q (vS.to hV) (hq.qi m1 (by decide)) (by decide) (by decide) (by decide)).mono ?_
   rintro e U ⟨n1, n2, n3, n4, rfl, hn, bb⟩
   have hV2 := bx hV bb
   refine hK.out _ _ hV2 ?_
   have hD := D2a _ hV2 (.agg #[y1, y2, y3, y4]) _ _ _ _ hn g hg (hrow.to bb)
   simp only [hmk] at hD
   simp only [Act.put, List.setIfInBounds_toArray, List.set_cons_zero, List.set_cons_succ]
   exact dn hD
 have D1 : ∀ (V : World) (hV : Below W7.heap.size W7 V) (y1 y2 y3 y4 : Value) (hq : Qc V y1 y2 y3 y4 (dotQ a c)), G 6 #[true, true, true, true, false, true, true, true, false, false, false, false, false] (mk (.agg #[y1, y2, y3, y4]) undef undef undef undef undef) V := by
  intro V hV y1 y2 y3 y4 hq
  refine up ?_
  simp only [hmk]
  refine wpAnyH_ready (rs := [4, 11]) (by kernel_rfl) (by simp) (ready_cons rfl (by rfl) (fun K hK => ?_) (ready_cons rfl (by rfl) (fun K hK => ?_) AllReadyH.nil))
  .go_simp
   refine (mul_q (vS.to hV) (hq.qi m1 (by decide)) (by decide) (by decide) (by decide)).mono ?_
   rintro e U ⟨n1, n2, n3, n4, rfl, hn, bb⟩
   have hV2 := bx hV bb
   refine hK.out _ _ hV2 ?_
   have hD := D2 _ hV2 (.agg #[y1, y2, y3, y4]) _ _ _ _ hn
   simp only [hmk] at hD
   simp only [Act.put, List.setIfInBounds_toArray, List.set_cons_zero, List.set_cons_succ]
   exact dn hD
  .go_simp
   have hR : Row (V.alloc (.cells (flat (List.replicate 1 E4.z)).toArray 26)) V.heap.size [E4.z] := Row.new V 1
   have bb : Below V.heap.size V (V.alloc (.cells (flat (List.replicate 1 E4.z)).toArray 26)) := (Below.refl _ _).alloc (Nat.le_refl _) _
   have hV2 := bx hV bb
   refine hK.out _ _ hV2 ?_
   have hD := D1a _ hV2 _ _ _ _ (hq.to bb) V.heap.size hV.size hR
   simp only [hmk] at hD
   simp only [Act.put, List.setIfInBounds_toArray, List.set_cons_zero, List.set_cons_succ]
   exact dn hD
 have D0a : ∀ (V : World) (hV : Below W7.heap.size W7 V) (g : Nat) (hg : W7.heap.size <= g) (hrow : Row V g [E4.z]), G 6 #[true, true, true, false, false, true, true, true, false, false, false, true, false] (mk undef undef undef undef undef (.pointer (some ⟨g, 0, none⟩))) V := by
  intro V hV g hg hrow
  refine up ?_
  simp only [hmk]
  refine rdy1 (i := 3) (by kernel_rfl) rfl (by rfl) (fun K hK => ?_)
  .go_simp
   refine (vdot_m (vA.to hV) (vC.to hV) (by decide) (by decide) mA mC (by decide)).mono ?_
   rintro e U ⟨n1, n2, n3, n4, rfl, hn, bb⟩
   have hV2 := bx hV bb
   refine hK.out _ _ hV2 ?_
   have hD := D1a _ hV2 _ _ _ _ hn g hg (hrow.to bb)
   simp only [hmk] at hD
   simp only [Act.put, List.setIfInBounds_toArray, List.set_cons_zero, List.set_cons_succ]
   exact dn hD
 have D0 : ∀ (V : World) (hV : Below W7.heap.size W7 V), G 7 #[true, true, true, false, false, true, true, true, false, false, false, false, false] (mk undef undef undef undef undef undef) V := by
  intro V hV
  refine up ?_
  simp only [hmk]
  refine wpAnyH_ready (rs := [3, 11]) (by kernel_rfl) (by simp) (ready_cons rfl (by rfl) (fun K hK => ?_) (ready_cons rfl (by rfl) (fun K hK => ?_) AllReadyH.nil))
  .go_simp
   refine (vdot_m (vA.to hV) (vC.to hV) (by decide) (by decide) mA mC (by decide)).mono ?_
   rintro e U ⟨n1, n2, n3, n4, rfl, hn, bb⟩
   have hV2 := bx hV bb
   refine hK.out _ _ hV2 ?_
   have hD := D1 _ hV2 _ _ _ _ hn
   simp only [hmk] at hD
   simp only [Act.put, List.setIfInBounds_toArray, List.set_cons_zero, List.set_cons_succ]
   exact dn hD
  .go_simp
   have hR : Row (V.alloc (.cells (flat (List.replicate 1 E4.z)).toArray 26)) V.heap.size [E4.z] := Row.new V 1
   have bb : Below V.heap.size V (V.alloc (.cells (flat (List.replicate 1 E4.z)).toArray 26)) := (Below.refl _ _).alloc (Nat.le_refl _) _
   have hV2 := bx hV bb
   refine hK.out _ _ hV2 ?_
   have hD := D0a _ hV2 V.heap.size hV.size hR
   simp only [hmk] at hD
   simp only [Act.put, List.setIfInBounds_toArray, List.set_cons_zero, List.set_cons_succ]
   exact dn hD
 have hD := D0 W8 b8
 simp only [hmk] at hD
 rw [ha0]
 exact hD
theorem vspace_any {A1 A2 A3 : Option Addr} {c1 c2 c3 : Nat} {es1 es2 es3 : List E4} {k1 k2 k3 k4 l1 l2 l3 l4 : Value} {w : World} (v1 : VIn w ⟨A1, c1, es1⟩) (v2 : VIn w ⟨A2, c2, es2⟩) (v3 : VIn w ⟨A3, c3, es3⟩) (z1 : Zx2 w k1 k2) (z2 : Zx2 w k3 k4) (z3 : Zx2 w l1 l2) (z4 : Zx2 w l3 l4) :
  Calls Tryz.prog 7 #[.slice A1 es1.length c1, .slice A2 es2.length c2, .slice A3 es3.length c3, .agg #[k1, k2, k3, k4], .agg #[l1, l2, l3, l4]] w fun e w' => e = .returned (.bool true) /\ Below w.heap.size w w' := by
 obtain ⟨n1, B1, d1, xs1, rfl, rfl, r1, f1, m1, o1⟩ := z1
 obtain ⟨n2, B2, d2, xs2, rfl, rfl, r2, f2, m2, o2⟩ := z2
 obtain ⟨n3, B3, d3, xs3, rfl, rfl, r3, f3, m3, o3⟩ := z3
 obtain ⟨n4, B4, d4, xs4, rfl, rfl, r4, f4, m4, o4⟩ := z4
 have hl1 : ∀ {r : Bool}, ([(xs1.length, xs2.length), (xs3.length, xs4.length)].any fun p => decide (6 < p.1) || decide (6 < p.2)) = r -> ∀ (V : World) (g : Nat), V.heap[g]? = some (.cells #[.bool n1, .slice B1 xs1.length d1, .bool n2, .slice B2 xs2.length d2, .bool n3, .slice B3 xs3.length d3, .bool n4, .slice B4 xs4.length d4] 26 (0, 0)) -> Calls Tryz.prog 10 #[.slice (some ⟨g, 0, none⟩) 2 2] V fun e w' => e = .returned (.bool r) /\ Below V.heap.size V w' := fun hr V g h => qlong2 (by omega) (by omega) (by omega) (by omega) h hr
 cases hl : ([⟨A1, c1, es1⟩, ⟨A2, c2, es2⟩, ⟨A3, c3, es3⟩] : List VA).any (fun v => lngV v.es) with
 | true => exact vspace_long v1 v2 v3 hl
 | false =>
  by_cases hk : (xs1.length <= 6 /\ xs2.length <= 6) /\ xs3.length <= 6 /\ xs4.length <= 6
  .have hl' := hl
   simp only [List.any_cons, List.any_nil, Bool.or_false, Bool.or_eq_false_iff] at hl'
   obtain ⟨a, w1, l1⟩ := v1.vi hl'.1
   obtain ⟨b, w2, l2⟩ := v2.vi hl'.2.1
   obtain ⟨c, w3, l3⟩ := v3.vi hl'.2.2
   have hS : Qi w (.bool n1) (.slice B1 xs1.length d1) (.bool n2) (.slice B2 xs2.length d2) (rv (zof n1 (val b32 xs1)) (zof n2 (val b32 xs2))) 6 := ⟨_, _, ⟨n1, B1, d1, xs1, rfl, rfl, ⟨r1, f1, m1, o1, by omega⟩, by omega, rfl⟩, ⟨n2, B2, d2, xs2, rfl, rfl, ⟨r2, f2, m2, o2, by omega⟩, by omega, rfl⟩, rfl, Sm.zof f1 hk.1.1, Sm.zof f2 hk.1.2⟩
   have hT : Qi w (.bool n3) (.slice B3 xs3.length d3) (.bool n4) (.slice B4 xs4.length d4) (rv (zof n3 (val b32 xs3)) (zof n4 (val b32 xs4))) 6 := ⟨_, _, ⟨n3, B3, d3, xs3, rfl, rfl, ⟨r3, f3, m3, o3, by omega⟩, by omega, rfl⟩, ⟨n4, B4, d4, xs4, rfl, rfl, ⟨r4, f4, m4, o4, by omega⟩, by omega, rfl⟩, rfl, Sm.zof f3 hk.2.1, Sm.zof f4 hk.2.2⟩
   exact vspace_core v1 v2 v3 hl w1 w2 w3 l1 l2 l3 hS hT (hl1 (by simp; omega))
  .exact vspace_longk v1 v2 v3 hl (hl1 (by simp; omega))
end Go.Proofs.YtcgdbdhhoomgiaaGreat

namespace Go.Proofs.YtcgdbdhhoomgiaaGreat
open Go.ChangeShapes Go.WideShapes Go.ChangeAt Go.RowKit Go.Joins
instance : Inhabited E4 := ⟨E4.z⟩
theorem spot_none {W : World} {a : Addr} {v : Value} (h : W.cell? a = some v) : a.spot = none := by
 unfold World.cell? at h
 split at h
 .split at h
  .cases h
  .rename_i hs
   simpa using hs
 .cases h
theorem open_v {H : Type} {enc : TypeId × Value -> H} {W : World} {base : Nat} {spare : Nat -> Bool} {held : Bool} {r : Reach} {b0 : Nat} {v : Value} {d : DataW H} {p : List MemPlace}
  (hs : ∀ b, spare b = true) (hv : Value.okWide Tryz.prog W r b0 27 v) (h : DataW.Trod enc Tryz.prog W base spare held 27 v d p) :
  ∃ A c es, v = .slice A es.length c /\ VIn W ⟨A, c, es⟩ := by
 obtain ⟨a, len, cap, rfl⟩ := okWide_slice Tryz.underlying27 hv
 obtain ⟨fuel, hf⟩ := h
 replace hf : DataW.trod enc Tryz.prog W base spare held fuel 27 [.slice a len cap] = some (d, p) := hf
 rcases Go.Deep.open_slice Tryz.underlying27 hf with ⟨e1, _⟩ | ⟨ad, l, cp, m, n, D, Pl, e1, hb, hl, hm, hmm, _, hx⟩
 .simp only [List.cons.injEq, Value.slice.injEq, and_true] at e1
  obtain ⟨rfl, rfl, rfl⟩ := e1
  exact ⟨none, 0, [], rfl, ⟨Rq.nil, fun e he => (by cases he), Nat.le_refl _, by decide⟩⟩
 .simp only [List.cons.injEq, Value.slice.injEq, and_true] at e1
  obtain ⟨rfl, rfl, rfl⟩ := e1
  have hlm : len <= m := by rw [hmm]; split <;> omega
  have each : ∀ i, i < len -> ∃ E : E4, (W.cell? (ad.add (i * 4)) = some E.a /\ W.cell? (ad.add (i * 4 + 1)) = some E.b /\ W.cell? (ad.add (i * 4 + 2)) = some E.c /\ W.cell? (ad.add (i * 4 + 3)) = some E.d) /\ ZxE W E := by
   intro i hi
   obtain ⟨cs', h1, h2⟩ := hx i (by omega)
   rw [cellsQ] at h1
   obtain ⟨_, hlen, hcell⟩ := World.cells?_some h1
   match cs', hlen with
   | [c0, c1, c2, c3], _ =>
    have f0 := hcell 0 (by omega)
    have f1 := hcell 1 (by omega)
    have f2 := hcell 2 (by omega)
    have f3 := hcell 3 (by omega)
    rw [Go.Deep.add_add] at f0 f1 f2 f3
    exact ⟨⟨c0, c1, c2, c3⟩, ⟨by simpa using f0, by simpa using f1, by simpa using f2, by simpa using f3⟩, trod_q hs h2⟩
  obtain ⟨E, hE⟩ := Go.Deep.choose_lt each
  have hlen : ((List.range len).map E).length = len := by simp
  refine ⟨some ad, cap, (List.range len).map E, by rw [hlen], ⟨?_, ?_, by show ((List.range len).map E).length <= cap; rw [hlen]; exact hl, by have := hm; unfold maxLen at this; show cap <= _; omega⟩⟩
  .intro k hk
   have hk' : k < len := by rw [<- hlen]; exact hk
   obtain ⟨⟨c0, c1, c2, c3⟩, _⟩ := hE k hk'
   have hsp := spot_none (hE 0 (by omega)).1.1
   obtain ⟨b, o, sp⟩ := ad
   have h0 : (⟨b, o, sp⟩ : Addr).add (0 * 4) = ⟨b, o, sp⟩ := by simp [Addr.add]
   rw [h0] at hsp
   dsimp only at hsp
   subst hsp
   have hadd : ∀ j, (⟨b, o, none⟩ : Addr).add j = ⟨b, o + j, none⟩ := fun j => by
    unfold Addr.add
    by_cases hj : j = 0
    .simp [hj]
    .simp [hj]
   rw [hadd] at c0 c1 c2 c3
   refine ⟨b, o, rfl, World.block_lt_of_cell? W _ c0, ?_⟩
   have he : ((List.range len).map E)[k] = E k := by simp
   show W.cell? ⟨b, o + k * 4, none⟩ = some (((List.range len).map E)[k]).a /\ W.cell? ⟨b, o + k * 4 + 1, none⟩ = some (((List.range len).map E)[k]).b /\ W.cell? ⟨b, o + k * 4 + 2, none⟩ = some (((List.range len).map E)[k]).c /\ W.cell? ⟨b, o + k * 4 + 3, none⟩ = some (((List.range len).map E)[k]).d
   rw [he]
   exact ⟨c0, by rw [<- Nat.add_assoc] at c1; exact c1, by rw [<- Nat.add_assoc] at c2; exact c2, by rw [<- Nat.add_assoc] at c3; exact c3⟩
  .intro e he
   obtain ⟨i, hi, rfl⟩ := List.mem_map.1 he
   exact (hE i (List.mem_range.1 hi)).2
end Go.Proofs.YtcgdbdhhoomgiaaGreat
