/- Parts: 10. -/
import Derived.Test.YtcgdbdhhoomgiaaGreatVs3
import Derived.Test.YtcgdbdhhoomgiaaGreatVs5
import Derived.Test.YtcgdbdhhoomgiaaGreatVs9
import Derived.Test.YtcgdbdhhoomgiaaGreatVs11
import Derived.Test.YtcgdbdhhoomgiaaGreatVs12
import Derived.Test.YtcgdbdhhoomgiaaGreatVs13
set_option linter.unusedVariables false
set_option linter.unusedSimpArgs false
set_option maxRecDepth 100000
set_option maxHeartbeats 40000000

namespace Go.Proofs.YtcgdbdhhoomgiaaGreat
open Go.RowKit Go.Shelf
def ZE (w : World) (a b : Int) (k : Int) (e : Ending) (w' : World) : Prop := ∃ xq yq xr yr, e = .returned (.tuple #[.agg #[xq, yq], .agg #[xr, yr], .int .i64 k]) /\ Zc w' xq yq a /\ Zc w' xr yr b /\ Below w.heap.size w w'
theorem zc_nil (W : World) : Zc W (.bool false) (.slice none 0 0) 0 := ⟨none, 0, rfl, rfl, Rd.nil, Nat.le_refl _, by decide⟩
theorem DRet.ze {w w' : World} {q r : Int} {e : Ending} (h : DRet w q r e w') : ZE w q r 0 e w' := by
 obtain ⟨A1, c1, A2, c2, rfl, h1, h2, h3, h4, h5, h6, h7⟩ := h
 exact ⟨_, _, _, _, rfl, ⟨A1, c1, rfl, rfl, h1, h3, h4⟩, ⟨A2, c2, rfl, rfl, h2, h5, h6⟩, h7⟩
theorem dx_zero (n m : Bool) {A A' : Option Addr} {c c' : Nat} {xs ys : List Nat} {w : World} (hx : Arg w A c xs) (hy : Arg w A' c' ys) (h0 : val b32 ys = 0) :
  Calls Tryz.prog 99 #[.agg #[.bool n, .slice A xs.length c], .agg #[.bool m, .slice A' ys.length c']] w (ZE w 0 0 7) := by
 have HX := Lib.hid hx
 have HY := Lib.hid hy
 have hq : ((((trimL ys).length : Nat) : Int) == 0) = true := by
  rw [trimL_dig b32_one hy.dg, h0]; rfl
 clear hx hy h0
 obtain ⟨W0, hW0⟩ : ∃ W0, W0 = (((w.alloc (.cells #[.bool n, .slice A xs.length c] 24)).alloc (.cells #[.bool m, .slice A' ys.length c'] 24)).alloc (.cells #[.bool false, .slice none 0 0] 24)).alloc (.cells #[.bool false, .slice none 0 0] 24) := ⟨_, rfl⟩
 have hb : Below w.heap.size w W0 := by rw [hW0]; exact ((((Below.refl _ _).alloc (Nat.le_refl _) _).alloc (by simp) _).alloc (by simp; omega) _).alloc (by simp; omega) _
 have tX : Zat W0 w.heap.size (.bool n) (.slice A xs.length c) := by rw [hW0]; exact (((Zat.new w _ _).alloc _).alloc _).alloc _
 have tY : Zat W0 (w.heap.size + 1) (.bool m) (.slice A' ys.length c') := by
  have h := Zat.new (w.alloc (.cells #[.bool n, .slice A xs.length c] 24)) (.bool m) (.slice A' ys.length c')
  rw [World.size_alloc] at h
  rw [hW0]; exact (h.alloc _).alloc _
 have tQ : Zat W0 (w.heap.size + 1 + 1) (.bool false) (.slice none 0 0) := by
  have h := Zat.new ((w.alloc (.cells #[.bool n, .slice A xs.length c] 24)).alloc (.cells #[.bool m, .slice A' ys.length c'] 24)) (.bool false) (.slice none 0 0)
  rw [World.size_alloc, World.size_alloc] at h
  rw [hW0]; exact h.alloc _
 have tR : Zat W0 (w.heap.size + 1 + 1 + 1) (.bool false) (.slice none 0 0) := by
  have h := Zat.new (((w.alloc (.cells #[.bool n, .slice A xs.length c] 24)).alloc (.cells #[.bool m, .slice A' ys.length c'] 24)).alloc (.cells #[.bool false, .slice none 0 0] 24)) (.bool false) (.slice none 0 0)
  rw [World.size_alloc, World.size_alloc, World.size_alloc] at h
  rw [hW0]; exact h
 have q1 := tX.two.c1
 have q2 := tY.two.c1
 have HW0 := Lib.hid hW0
 clear hW0
 go_enter Tryz.func99, Tryz.ntmps99
 go_wp2_with fail
 rw [<- HW0.out]
 go_quiet ((first | (go_at_call 92; with_reducible exact Calls.quiet_of_same (trim_q (HX.out.to (hb.trans (bel_drewN (Below.refl _ _) _))))) | (go_at_call 92; with_reducible exact Calls.quiet_of_same (trim_q (HY.out.to (hb.trans (bel_drewN (Below.refl _ _) _)))))))
 rename_i nq
 have hb1 : Below w.heap.size w (W0.drewN nq) := bel_drewN hb _
 have tX1 : Two (W0.drewN nq) w.heap.size _ _ := tX.two.to (bel_drewN (Below.refl _ _) _)
 have tY1 : Two (W0.drewN nq) (w.heap.size + 1) _ _ := tY.two.to (bel_drewN (Below.refl _ _) _)
 have tQ1 : Two (W0.drewN nq) (w.heap.size + 1 + 1) _ _ := tQ.two.to (bel_drewN (Below.refl _ _) _)
 have tR1 : Two (W0.drewN nq) (w.heap.size + 1 + 1 + 1) _ _ := tR.two.to (bel_drewN (Below.refl _ _) _)
 generalize W0.drewN nq = W1 at hb1 tX1 tY1 tQ1 tR1 ⊢
 clear q1 q2 tX tY tQ tR hb HW0
 have HB := Lib.hid hb1
 have TQ := Lib.hid tQ1
 have TR := Lib.hid tR1
 obtain ⟨g1, g2, g3, g4, g5⟩ := tQ1
 obtain ⟨k1, k2, k3, k4, k5⟩ := tR1
 clear tX1 tY1 hb1 HX HY
 go_wp2
 have tF := TQ.out.set (.bool false) (.slice none 0 0)
 have K1 := Kept.of TQ.out (fun n e => by cases e) (fun n e => by cases e) (.bool false) (.slice none 0 0)
 have tG0 := K1.two _ _ _ (by omega) TR.out
 have tG := tG0.set (.bool false) (.slice none 0 0)
 have K2 := Kept.of tG0 (fun n e => by cases e) (fun n e => by cases e) (.bool false) (.slice none 0 0)
 have tH := K2.two _ _ _ (by omega) tF
 refine bodyPost_ret (v := .tuple #[.agg #[.bool false, .slice none 0 0], .agg #[.bool false, .slice none 0 0], .int .i64 7])
  (by simp [results, Tryz.f99, go_sem, tH.c0, tH.c1, tG.c0, tG.c1]) rfl ?_
 exact ⟨_, _, _, _, rfl, zc_nil _, zc_nil _, K2.bel _ _ (K1.bel _ _ HB.out (by omega)) (by omega)⟩
def dr (a b : Int) : Int := if b = 0 then 0 else a % b
def de (b : Int) : Int := if b = 0 then 7 else 0
theorem dm_x {w : World} {x y x' y' : Value} {a b : Int} (ha : Zl w x y a) (hb : Zl w x' y' b) : Calls Tryz.prog 99 #[.agg #[x, y], .agg #[x', y']] w (ZE w (a / b) (dr a b) (de b)) := by
 obtain ⟨n, A, c, xs, rfl, rfl, h3, h4, rfl⟩ := ha
 obtain ⟨m, B, d, ys, rfl, rfl, k3, k4, rfl⟩ := hb
 rcases Nat.eq_zero_or_pos (val b32 ys) with hY | hY
 .have e0 : zof m (val b32 ys) = 0 := by rw [hY]; cases m <;> rfl
  unfold dr de
  rw [e0, if_pos rfl, if_pos rfl, Int.ediv_zero]
  exact dx_zero n m h3 k3 hY
 .have e0 : zof m (val b32 ys) ≠ 0 := by cases m <;> simp [zof] <;> omega
  unfold dr de
  rw [if_neg e0, if_neg e0]
  have hl : xs.length <= 4294967293 := by omega
  cases n
  .rw [(zdiv_f m hY).1, (zdiv_f m hY).2]
   cases m
   .exact (dx_ff h3 k3 hl hY).mono fun _ _ h => h.ze
   .exact (dx_ft h3 k3 hl hY).mono fun _ _ h => h.ze
  .rcases Nat.eq_zero_or_pos (val b32 xs % val b32 ys) with hr | hr
   .rw [(zdiv_t m hY hr).1, (zdiv_t m hY hr).2]
    cases m
    .have h := dx_tfz h3 k3 hl hY hr
     rw [hr] at h
     exact h.mono fun _ _ h => h.ze
    .have h := dx_ttz h3 k3 hl hY hr
     rw [hr] at h
     exact h.mono fun _ _ h => h.ze
   .rw [(zdiv_r m hY hr).1, (zdiv_r m hY hr).2]
    cases m
    .exact (dx_tfn h3 k3 hl hY hr).mono fun _ _ h => h.ze
    .exact (dx_ttn h3 k3 hl hY hr).mono fun _ _ h => h.ze
theorem rd_x {w : World} {x y x' y' : Value} {a b : Int} (ha : Zl w x y a) (hb : Zl w x' y' b) : Calls Tryz.prog 108 #[.agg #[x, y], .agg #[x', y']] w (ZE w (a / b) (dr a b) (de b)) := by
 by_cases h : b = 0
 .subst h
  unfold dr de
  rw [if_pos rfl, if_pos rfl, Int.ediv_zero]
  exact (rdiv_z0 ha hb).mono fun _ _ ⟨h, hb⟩ => ⟨_, _, _, _, h, zc_nil _, zc_nil _, hb⟩
 .unfold dr de
  rw [if_neg h, if_neg h]
  exact rdiv_z ha hb h
theorem gcd_x {w : World} {x y x' y' : Value} {a b : Int} (ha : Zl w x y a) (hb : Zl w x' y' b) : Calls Tryz.prog 97 #[.agg #[x, y], .agg #[x', y']] w (ZR w (Int.gcd a b : Nat)) := by
 obtain ⟨n, A, c, xs, rfl, rfl, h3, h4, rfl⟩ := ha
 obtain ⟨m, B, d, ys, rfl, rfl, k3, k4, rfl⟩ := hb
 have h := gcd_all n m h3 k3 (by omega) (by omega)
 rw [show Int.gcd (zof n (val b32 xs)) (zof m (val b32 ys)) = Nat.gcd (val b32 xs) (val b32 ys) from by unfold Int.gcd; rw [zof_abs, zof_abs]]
 exact h.mono fun _ _ h => h.zr
theorem Hd {p : Prop} (h : p) : Hid p := h
theorem bx {w V V' : World} (h : Below w.heap.size w V) (b : Below V.heap.size V V') : Below w.heap.size w V' := h.trans (b.mono h.size)
theorem hx {w V V' : World} (h : Hid (Below w.heap.size w V)) (b : Below V.heap.size V V') : Hid (Below w.heap.size w V') := Lib.hid (bx h.out b)
def BG : Nat := b32 ^ 10000
def Sg (z : Int) : Prop := z.natAbs < BG
theorem Sg.sm {z : Int} (h : Sg z) : Sm 10000 z := by
  unfold Sg BG at h
  unfold Sm
  exact h
theorem Sm.sg {k : Nat} {z : Int} (h : Sm k z) (hk : k <= 10000) : Sg z := by
  have h1 := h.mono hk
  unfold Sm at h1
  unfold Sg BG
  exact h1
theorem sg_lit {z : Int} (h : z.natAbs < 18446744073709551616) : Sg z := by
  have h1 : Sm 2 z := by
    unfold Sm
    rw [show b32 ^ 2 = 18446744073709551616 from by decide]
    exact h
  exact h1.sg (by decide)
theorem Zc.zs {W : World} {x y : Value} {z : Int} (h : Zc W x y z) (hs : Sg z) : Zl W x y z := h.zl hs.sm (Nat.le_refl _)
theorem zl_of {W V : World} {x y : Value} {z : Int} (h : Zl W x y z) (k : Zi W x y z -> Zi V x y z) : Zl V x y z := by
  have h1 := k h.zi
  obtain ⟨n, A, c, xs, rfl, rfl, h3, h4, rfl⟩ := h
  obtain ⟨m, B, d, ys, e1, e2, k3, k5⟩ := h1
  simp only [Value.slice.injEq] at e2
  exact ⟨m, B, d, ys, e1, by rw [e2.1, e2.2.1, e2.2.2], k3, by omega, k5⟩
theorem Zl.fs {W : World} {x y : Value} {z : Int} (h : Zl W x y z) : Fs x y := h.zi.fs
theorem Zl.sg {W : World} {x y : Value} {z : Int} (h : Zl W x y z) : Sg z := by
  obtain ⟨n, A, c, xs, rfl, rfl, h3, h4, rfl⟩ := h
  exact (Sm.zof h3.dg h4).sg (Nat.le_refl _)
theorem int64_z {w : World} {x y : Value} {a : Int} (ha : Zi w x y a) : Calls Tryz.prog 121 #[.agg #[x, y]] w fun e w' => e = .returned (.tuple #[.int .i64 (i64v a), .bool (inI a)]) /\ Below w.heap.size w w' := by
  obtain ⟨n, A, c, xs, rfl, rfl, h3, rfl⟩ := ha
  exact int64_any n h3
theorem from_z (v : Int) (h1 : -9223372036854775808 <= v) (h2 : v <= 9223372036854775807) (w : World) : Calls Tryz.prog 83 #[.int .i64 v] w (ZR w v) :=
  (fromInt64_any v h1 h2 w).mono fun _ _ h => h.zr
theorem gcd_z {w : World} {x y x' y' : Value} {a b : Int} (ha : Zl w x y a) (hb : Zl w x' y' b) (_sa : Sg a) (_sb : Sg b) : Calls Tryz.prog 97 #[.agg #[x, y], .agg #[x', y']] w (ZR w (Int.gcd a b : Nat)) := gcd_x ha hb
theorem dm_z {w : World} {x y x' y' : Value} {a b : Int} (ha : Zl w x y a) (hb : Zl w x' y' b) (hb0 : b ≠ 0) (_sa : Sg a) : Calls Tryz.prog 99 #[.agg #[x, y], .agg #[x', y']] w (DRet w (a / b) (a % b)) := by
  have h := dm_x ha hb
  unfold dr de at h
  rw [if_neg hb0, if_neg hb0] at h
  refine h.mono ?_
  rintro e w' ⟨xq, yq, xr, yr, rfl, ⟨A, c, rfl, rfl, q1, q2, q3⟩, ⟨A', c', rfl, rfl, r1, r2, r3⟩, hb⟩
  exact ⟨A, c, A', c', rfl, q1, r1, q2, q3, r2, r3, hb⟩
structure Four (W : World) (g : Nat) (a b c d : Value) : Prop where
  c0 : W.cell? ⟨g, 0, none⟩ = some a
  c1 : W.cell? ⟨g, 1, none⟩ = some b
  c2 : W.cell? ⟨g, 2, none⟩ = some c
  c3 : W.cell? ⟨g, 3, none⟩ = some d
  f0 : W.frozen? ⟨g, 0, none⟩ = false
  f1 : W.frozen? ⟨g, 1, none⟩ = false
  f2 : W.frozen? ⟨g, 2, none⟩ = false
  f3 : W.frozen? ⟨g, 3, none⟩ = false
  lt : g < W.heap.size
theorem Four.toB {W V : World} {g B : Nat} {a b c d : Value} (h : Four W g a b c d) (hb : Below B W V) (hg : g < B) : Four V g a b c d :=
  ⟨(hb.cell (p := ⟨g, 0, none⟩) hg).trans h.c0, (hb.cell (p := ⟨g, 1, none⟩) hg).trans h.c1, (hb.cell (p := ⟨g, 2, none⟩) hg).trans h.c2, (hb.cell (p := ⟨g, 3, none⟩) hg).trans h.c3,
   (hb.frozen (p := ⟨g, 0, none⟩) hg).trans h.f0, (hb.frozen (p := ⟨g, 1, none⟩) hg).trans h.f1, (hb.frozen (p := ⟨g, 2, none⟩) hg).trans h.f2, (hb.frozen (p := ⟨g, 3, none⟩) hg).trans h.f3, Nat.lt_of_lt_of_le h.lt hb.size⟩
theorem Four.to {W V : World} {g : Nat} {a b c d : Value} (h : Four W g a b c d) (hb : Below W.heap.size W V) : Four V g a b c d := h.toB hb h.lt
theorem Four.of {W : World} {g : Nat} {a b c d : Value} {t : TypeId} (h : W.heap[g]? = some (.cells #[a, b, c, d] t (0, 0))) : Four W g a b c d :=
  ⟨by simp [World.cell?, h], by simp [World.cell?, h], by simp [World.cell?, h], by simp [World.cell?, h], by simp [World.frozen?, h], by simp [World.frozen?, h], by simp [World.frozen?, h], by simp [World.frozen?, h], (Array.getElem?_eq_some_iff.1 h).1⟩
theorem Four.new (W : World) (a b c d : Value) (t : TypeId) : Four (W.alloc (.cells #[a, b, c, d] t)) W.heap.size a b c d := Four.of (World.alloc_heap_new W _)
theorem Four.alloc {W : World} {g : Nat} {a b c d : Value} (h : Four W g a b c d) (o : Obj) : Four (W.alloc o) g a b c d := h.to ((Below.refl _ _).alloc (Nat.le_refl _) _)
def put4 (W : World) (g : Nat) (a b c d : Value) : World := (((W.setCell ⟨g, 0, none⟩ a).setCell ⟨g, 1, none⟩ b).setCell ⟨g, 2, none⟩ c).setCell ⟨g, 3, none⟩ d
def Qc (W : World) (a b c d : Value) (r : Rat) : Prop := Zc W a b r.num /\ Zc W c d (if r.den = 1 then 0 else (r.den : Int))
theorem Zc.zero (W : World) : Zc W (.bool false) (.slice none 0 0) 0 := ⟨none, 0, rfl, rfl, Rd.nil, Nat.le_refl _, by decide⟩
theorem Qc.to {W V : World} {a b c d : Value} {r : Rat} (h : Qc W a b c d r) (hb : Below W.heap.size W V) : Qc V a b c d r := ⟨h.1.to hb, h.2.to hb⟩
def QR (w : World) (r : Rat) (e : Ending) (w' : World) : Prop := ∃ a b c d, e = .returned (.agg #[a, b, c, d]) /\ Qc w' a b c d r /\ Below w.heap.size w w'
theorem inI_one : inI 1 = true /\ i64v 1 = 1 := inI_t (by decide) (by decide)
theorem isOne_z {w : World} {x y : Value} {a : Int} (ha : Zi w x y a) : Calls Tryz.prog 96 #[.agg #[x, y]] w fun e w' => e = .returned (.bool (decide (a = 1))) /\ Below w.heap.size w w' := by
 have hb := Hd ((Below.refl w.heap.size w).alloc (Nat.le_refl _) (.cells #[x, y] 24))
 have HI := Hd (int64_z (ha.to hb.out))
 have hone : a = 1 -> inI a = true /\ i64v a = 1 := by rintro rfl; exact inI_one
 have hne : a ≠ 1 -> inI a = true -> i64v a ≠ 1 := fun h h1 h2 => by unfold i64v at h2; rw [h1] at h2; exact h h2
 obtain ⟨i, ei⟩ : ∃ i, i64v a = i := ⟨_, rfl⟩
 obtain ⟨so, es⟩ : ∃ s, inI a = s := ⟨_, rfl⟩
 rw [ei, es] at HI hone hne
 have HR : Hid ((so = true /\ i = 1 /\ decide (a = 1) = true) ∨ (so = true /\ i ≠ 1 /\ decide (a = 1) = false) ∨ (so = false /\ decide (a = 1) = false)) := by
  by_cases h : a = 1
  .exact .inl ⟨(hone h).1, (hone h).2, decide_eq_true h⟩
  .cases so
   .exact .inr (.inr ⟨rfl, decide_eq_false h⟩)
   .exact .inr (.inl ⟨rfl, hne h rfl, decide_eq_false h⟩)
 clear hone hne ei es ha
 rcases HR.out with ⟨rfl, rfl, hr⟩ | ⟨rfl, hi, hr⟩ | ⟨rfl, hr⟩
 .rw [hr]
  clear hr HR
  go_enter Tryz.func96, Tryz.ntmps96
  go_wp2_with fail
  refine HI.out.mono ?_
  rintro e w' ⟨rfl, b⟩
  have HB := hx hb b
  clear b HI
  go_wp2
  go_ret
  exact ⟨rfl, HB.out⟩
 .rw [hr]
  have hi2 : (i == 1) = false := by simpa using hi
  clear hr HR hi
  go_enter Tryz.func96, Tryz.ntmps96
  go_wp2_with fail
  refine HI.out.mono ?_
  rintro e w' ⟨rfl, b⟩
  have HB := hx hb b
  clear b HI
  go_wp2
  go_ret
  exact ⟨rfl, HB.out⟩
 .rw [hr]
  clear hr HR
  go_enter Tryz.func96, Tryz.ntmps96
  go_wp2_with fail
  refine HI.out.mono ?_
  rintro e w' ⟨rfl, b⟩
  have HB := hx hb b
  clear b HI
  go_wp2
  go_ret
  exact ⟨rfl, HB.out⟩
structure Kept4 (g : Nat) (w V : World) : Prop where
 two : ∀ g' u v, g' ≠ g -> Two w g' u v -> Two V g' u v
 four : ∀ g' a b c d, g' ≠ g -> Four w g' a b c d -> Four V g' a b c d
 zc : ∀ x y z, Zc w x y z -> Zc V x y z
 zi : ∀ x y z, Zi w x y z -> Zi V x y z
 bel : ∀ B w0, Below B w0 w -> B <= g -> Below B w0 V
 size : V.heap.size = w.heap.size
theorem Kept4.zl {g : Nat} {w V : World} (kp : Kept4 g w V) {x y : Value} {z : Int} (h : Zl w x y z) : Zl V x y z := zl_of h (kp.zi _ _ _)
theorem Kept.zl {g : Nat} {w V : World} (kp : Kept g w V) {x y : Value} {z : Int} (h : Zl w x y z) : Zl V x y z := zl_of h (kp.zi _ _ _)
theorem cell_put4 {W : World} {g : Nat} {a b c d : Value} {p : Addr} (hp : p.block ≠ g) (a' b' c' d' : Value) : (put4 W g a' b' c' d').cell? p = W.cell? p := by
 unfold put4
 rw [World.cell?_setCell_other _ _ _ _ (by intro e; exact hp (by rw [<- e])), World.cell?_setCell_other _ _ _ _ (by intro e; exact hp (by rw [<- e])), World.cell?_setCell_other _ _ _ _ (by intro e; exact hp (by rw [<- e])), World.cell?_setCell_other _ _ _ _ (by intro e; exact hp (by rw [<- e]))]
theorem frozen_put4 {W : World} {g : Nat} {p : Addr} (a' b' c' d' : Value) : (put4 W g a' b' c' d').frozen? p = W.frozen? p := by
 unfold put4
 rw [World.frozen?_setCell, World.frozen?_setCell, World.frozen?_setCell, World.frozen?_setCell]
theorem size_put4 {W : World} {g : Nat} (a' b' c' d' : Value) : (put4 W g a' b' c' d').heap.size = W.heap.size := by unfold put4; simp [World.setCell]
theorem Four.set {W : World} {g : Nat} {a b c d : Value} (h : Four W g a b c d) (a' b' c' d' : Value) : Four (put4 W g a' b' c' d') g a' b' c' d' := by
 have n01 : (⟨g, 0, none⟩ : Addr) ≠ ⟨g, 1, none⟩ := by simp
 have h0 : ((W.setCell ⟨g, 0, none⟩ a')).cell? ⟨g, 0, none⟩ = some a' := World.cell?_setCell_same' _ _ _ (by rw [h.c0]; rfl)
 have h1 : ((W.setCell ⟨g, 0, none⟩ a').setCell ⟨g, 1, none⟩ b').cell? ⟨g, 1, none⟩ = some b' := World.cell?_setCell_same' _ _ _ (by rw [World.cell?_setCell_other _ _ _ _ (by simp), h.c1]; rfl)
 have h2 : (((W.setCell ⟨g, 0, none⟩ a').setCell ⟨g, 1, none⟩ b').setCell ⟨g, 2, none⟩ c').cell? ⟨g, 2, none⟩ = some c' := World.cell?_setCell_same' _ _ _ (by rw [World.cell?_setCell_other _ _ _ _ (by simp), World.cell?_setCell_other _ _ _ _ (by simp), h.c2]; rfl)
 have h3 : (put4 W g a' b' c' d').cell? ⟨g, 3, none⟩ = some d' := World.cell?_setCell_same' _ _ _ (by rw [World.cell?_setCell_other _ _ _ _ (by simp), World.cell?_setCell_other _ _ _ _ (by simp), World.cell?_setCell_other _ _ _ _ (by simp), h.c3]; rfl)
 refine ⟨?_, ?_, ?_, h3, by rw [frozen_put4]; exact h.f0, by rw [frozen_put4]; exact h.f1, by rw [frozen_put4]; exact h.f2, by rw [frozen_put4]; exact h.f3, by rw [size_put4]; exact h.lt⟩
 .unfold put4
  rw [World.cell?_setCell_other _ _ _ _ (by simp), World.cell?_setCell_other _ _ _ _ (by simp), World.cell?_setCell_other _ _ _ _ (by simp)]; exact h0
 .unfold put4
  rw [World.cell?_setCell_other _ _ _ _ (by simp), World.cell?_setCell_other _ _ _ _ (by simp)]; exact h1
 .unfold put4
  rw [World.cell?_setCell_other _ _ _ _ (by simp)]; exact h2
theorem Rd.put4 {kd : IntKind} {w : World} {B g : Nat} {A : Option Addr} {xs : List Nat} {a b c d : Value} (t : Four w g a b c d) (h1 : ∀ n : Int, a ≠ .int kd n) (h2 : ∀ n : Int, b ≠ .int kd n) (h3 : ∀ n : Int, c ≠ .int kd n) (h4 : ∀ n : Int, d ≠ .int kd n) (h : Rd kd w B A xs) (a' b' c' d' : Value) : Rd kd (put4 w g a' b' c' d') B A xs := by
 intro k hk
 obtain ⟨b0, o, rfl, hb, hc⟩ := h k hk
 refine ⟨b0, o, rfl, hb, ?_⟩
 have hne : ∀ (j : Nat) (u : Value), w.cell? ⟨g, j, none⟩ = some u -> (∀ n : Int, u ≠ .int kd n) -> (⟨g, j, none⟩ : Addr) ≠ ⟨b0, o + k, none⟩ := fun j u hu hn e => by
  rw [e, hc] at hu
  injection hu with hu
  exact hn _ hu.symm
 unfold Go.Proofs.YtcgdbdhhoomgiaaGreat.put4
 rw [World.cell?_setCell_other _ _ _ _ (hne 3 d t.c3 h4), World.cell?_setCell_other _ _ _ _ (hne 2 c t.c2 h3), World.cell?_setCell_other _ _ _ _ (hne 1 b t.c1 h2), World.cell?_setCell_other _ _ _ _ (hne 0 a t.c0 h1)]
 exact hc
def Fq (a b c d : Value) : Prop := Fs a b /\ Fs c d
theorem Fs.nint {kd : IntKind} {x y : Value} (h : Fs x y) : (∀ n : Int, x ≠ .int kd n) /\ (∀ n : Int, y ≠ .int kd n) := by
 obtain ⟨n, A, k, c, rfl, rfl⟩ := h
 exact ⟨(fun n e => by cases e), (fun n e => by cases e)⟩
theorem Kept4.of {w : World} {g : Nat} {a b c d : Value} (t : Four w g a b c d) (f : Fq a b c d) (a' b' c' d' : Value) : Kept4 g w (put4 w g a' b' c' d') := by
 have hr : ∀ A xs, Rd .u32 w w.heap.size A xs -> Rd .u32 (put4 w g a' b' c' d') (put4 w g a' b' c' d').heap.size A xs := fun A xs h => by
  rw [size_put4]
  exact Rd.put4 t f.1.nint.1 f.1.nint.2 f.2.nint.1 f.2.nint.2 h _ _ _ _
 refine ⟨fun g' u v hne t' => ?_, fun g' p q r s hne t' => ?_, ?_, ?_, fun B w0 h hg => ?_, size_put4 _ _ _ _⟩
 .exact ⟨(cell_put4 (a := a) (b := b) (c := c) (d := d) hne _ _ _ _).trans t'.c0, (cell_put4 (a := a) (b := b) (c := c) (d := d) hne _ _ _ _).trans t'.c1, (frozen_put4 _ _ _ _).trans t'.f0, (frozen_put4 _ _ _ _).trans t'.f1, by rw [size_put4]; exact t'.lt⟩
 .exact ⟨(cell_put4 (a := a) (b := b) (c := c) (d := d) hne _ _ _ _).trans t'.c0, (cell_put4 (a := a) (b := b) (c := c) (d := d) hne _ _ _ _).trans t'.c1, (cell_put4 (a := a) (b := b) (c := c) (d := d) hne _ _ _ _).trans t'.c2, (cell_put4 (a := a) (b := b) (c := c) (d := d) hne _ _ _ _).trans t'.c3,
   (frozen_put4 _ _ _ _).trans t'.f0, (frozen_put4 _ _ _ _).trans t'.f1, (frozen_put4 _ _ _ _).trans t'.f2, (frozen_put4 _ _ _ _).trans t'.f3, by rw [size_put4]; exact t'.lt⟩
 .rintro x y z ⟨A, c, h1, h2, h3, h4, h5⟩
  exact ⟨A, c, h1, h2, hr _ _ h3, h4, h5⟩
 .rintro x y z ⟨n, A, c, xs, h1, h2, ⟨r1, r2, r3, r4, r5⟩, h4⟩
  exact ⟨n, A, c, xs, h1, h2, ⟨hr _ _ r1, r2, r3, r4, r5⟩, h4⟩
 .exact (((h.setCell (p := ⟨g, 0, none⟩) hg _).setCell (p := ⟨g, 1, none⟩) hg _).setCell (p := ⟨g, 2, none⟩) hg _).setCell (p := ⟨g, 3, none⟩) hg _
section
variable {ac : Act} {w : World} {K : Act -> World -> Prop} {Q : Exit -> Act -> World -> Prop} {d : Option Tmp} {ty : TypeId} {pos : String} {after : Array Edge} {guard : Option (Nat × Bool)}
theorem wp_alloc_four (h : ∀ (g : Nat) (V : World), Four V g (.bool false) (.slice none 0 0) (.bool false) (.slice none 0 0) -> Below w.heap.size w V -> w.heap.size <= g -> K (ac.put d (.pointer (some ⟨g, 0, none⟩))) V) :
  Oper.wp Tryz.prog ⟨d, .alloc 26, ty, pos, after, guard⟩ ac w K Q := by
 have h1 := h _ _ (Four.new w (.bool false) (.slice none 0 0) (.bool false) (.slice none 0 0) 26) ((Below.refl _ _).alloc (Nat.le_refl _) _) (Nat.le_refl _)
 go_simp
 exact h1
theorem wp_store_four {g : Nat} {a b c e a0 b0 c0 e0 : Value} {p v : Operand} (hp : ac.eval p = .pointer (some ⟨g, 0, none⟩)) (hv : ac.eval v = .agg #[a, b, c, e]) (t : Four w g a0 b0 c0 e0) (f0 : Fq a0 b0 c0 e0) (f1 : Fq a b c e)
  (h : ∀ V : World, Four V g a b c e -> Kept4 g w V -> K (ac.put d undef) V) :
  Oper.wp Tryz.prog ⟨d, .store 26 p v, ty, pos, after, guard⟩ ac w K Q := by
 have h1 := h _ (t.set a b c e) (Kept4.of t f0 a b c e)
 obtain ⟨⟨n1, A1, k1, l1, rfl, rfl⟩, ⟨n2, A2, k2, l2, rfl, rfl⟩⟩ := f1
 have u0 := t.c0
 have u1 := t.c1
 have u2 := t.c2
 have u3 := t.c3
 have v0 := t.f0
 have v1 := t.f1
 have v2 := t.f2
 have v3 := t.f3
 clear h t
 unfold put4 at h1
 simp only [Oper.wp, execOp, hp, hv]
 go_simp
 exact h1
end
end Go.Proofs.YtcgdbdhhoomgiaaGreat

namespace Go.Proofs.YtcgdbdhhoomgiaaGreat
open Go.RowKit Go.Shelf
theorem Zi.zero (W : World) : Zi W (.bool false) (.slice none 0 0) 0 := ⟨false, none, 0, [], rfl, rfl, ⟨Rd.nil, Dg.nil, by simp, by decide, by simp⟩, rfl⟩
theorem Four.far {w : World} {g g' : Nat} {a b c d : Value} (t : Four w g' a b c d) (hne : g' ≠ g) (u v : Value) : Four ((w.setCell ⟨g, 0, none⟩ u).setCell ⟨g, 1, none⟩ v) g' a b c d := by
 refine ⟨?_, ?_, ?_, ?_, ?_, ?_, ?_, ?_, by simpa [World.setCell] using t.lt⟩
 all_goals first
  | (rw [World.frozen?_setCell, World.frozen?_setCell]; first | exact t.f0 | exact t.f1 | exact t.f2 | exact t.f3)
  | (rw [World.cell?_setCell_other _ _ _ _ (by simp [Ne.symm hne]), World.cell?_setCell_other _ _ _ _ (by simp [Ne.symm hne])]; first | exact t.c0 | exact t.c1 | exact t.c2 | exact t.c3)
theorem pack2 {V : World} {g : Nat} {x0 y0 : Value} (t : Two V g x0 y0) (f : Fs x0 y0) (a b : Value) : ∃ V', (V.setCell ⟨g, 0, none⟩ a).setCell ⟨g, 1, none⟩ b = V' /\ Two V' g a b /\ Kept g V V' /\ ∀ g' p q r s, g' ≠ g -> Four V g' p q r s -> Four V' g' p q r s :=
 ⟨_, rfl, t.set a b, Kept.of t f.nint.1 f.nint.2 a b, fun _ _ _ _ _ hne h => h.far hne a b⟩
theorem pack4 {V : World} {g : Nat} {a0 b0 c0 d0 : Value} (t : Four V g a0 b0 c0 d0) (f : Fq a0 b0 c0 d0) (a b c d : Value) : ∃ V', (((V.setCell ⟨g, 0, none⟩ a).setCell ⟨g, 1, none⟩ b).setCell ⟨g, 2, none⟩ c).setCell ⟨g, 3, none⟩ d = V' /\ Four V' g a b c d /\ Kept4 g V V' :=
 ⟨_, rfl, t.set a b c d, Kept4.of t f a b c d⟩
theorem Fq.nil : Fq (.bool false) (.slice none 0 0) (.bool false) (.slice none 0 0) := ⟨Fs.nil, Fs.nil⟩
theorem fromInteger_z {w : World} {x y : Value} {a : Int} (ha : Zi w x y a) : Calls Tryz.prog 69 #[.agg #[x, y]] w (QR w (a : Rat)) := by
 obtain ⟨W0, hW0⟩ : ∃ W0, W0 = (w.alloc (.cells #[x, y] 24)).alloc (.cells #[.bool false, .slice none 0 0, .bool false, .slice none 0 0] 26) := ⟨_, rfl⟩
 have hb : Below w.heap.size w W0 := by rw [hW0]; exact ((Below.refl _ _).alloc (Nat.le_refl _) _).alloc (by simp) _
 have tX : Two W0 w.heap.size x y := by rw [hW0]; exact (Two.new w _ _ _).alloc _
 have tR : Four W0 (w.heap.size + 1) (.bool false) (.slice none 0 0) (.bool false) (.slice none 0 0) := by
  have h := Four.new (w.alloc (.cells #[x, y] 24)) (.bool false) (.slice none 0 0) (.bool false) (.slice none 0 0) 26
  rw [World.size_alloc] at h
  rw [hW0]; exact h
 have HW0 := Hd hW0
 have HA := Hd (add_z (ha.to hb) (Zi.zero W0))
 rw [Int.add_zero] at HA
 have HB0 := Hd hb
 clear hW0 ha hb
 go_enter Tryz.func69, Tryz.ntmps69
 go_wp2_with fail
 rw [<- HW0.out]
 have k0 := tX.c0
 have k1 := tX.c1
 go_wp2_with fail
 refine HA.out.mono ?_
 rintro e V ⟨xr, yr, rfl, rz, bb⟩
 have t4 := tR.to bb
 have HB := hx HB0 bb
 have RZ := Hd rz
 obtain ⟨A3, c3, rfl, rfl, -⟩ := rz
 obtain ⟨V2, eV, u, kp⟩ := pack4 t4 Fq.nil (.bool (decide (a < 0))) (.slice A3 (dig b32 a.natAbs).length c3) (.bool false) (.slice none 0 0)
 obtain ⟨v0, v1, v2, v3, v4, v5, v6, v7, _⟩ := t4
 have EV := Hd eV
 have KP := Hd kp
 have U := Hd u
 clear k0 k1 eV kp u bb HA tX tR
 go_wp2
 rw [EV.out]
 refine bodyPost_ret (v := .agg #[.bool (decide (a < 0)), .slice A3 (dig b32 a.natAbs).length c3, .bool false, .slice none 0 0]) (by simp [results, Tryz.f69, go_sem, U.out.c0, U.out.c1, U.out.c2, U.out.c3]) rfl ?_
 exact ⟨_, _, _, _, rfl, ⟨KP.out.zc _ _ _ RZ.out, Zc.zero V2⟩, KP.out.bel _ _ HB.out (by omega)⟩
def cmn (a b : Int) : Int := if b < 0 then -(Int.gcd a b : Int) else (Int.gcd a b : Int)
theorem cmn_num (a b : Int) (hb : b ≠ 0) : a / cmn a b = (Rat.divInt a b).num := by
 rw [Rat.num_divInt]
 unfold cmn
 have hg : ((b.gcd a : Nat) : Int) ∣ a := Int.gcd_dvd_right ..
 split
 .rename_i h
  rw [Int.sign_eq_neg_one_of_neg h, Int.ediv_neg, Int.gcd_comm a b, Int.neg_mul, Int.one_mul, Int.neg_ediv_of_dvd hg]
 .rename_i h
  rw [Int.sign_eq_one_of_pos (by omega), Int.gcd_comm a b, Int.one_mul]
theorem cmn_den (a b : Int) (hb : b ≠ 0) : b / cmn a b = ((Rat.divInt a b).den : Int) := by
 rw [Rat.den_divInt, if_neg hb]
 unfold cmn
 have hg : ((b.gcd a : Nat) : Int) ∣ b := Int.gcd_dvd_left ..
 rw [Int.gcd_comm a b, Int.natCast_ediv]
 split
 .rename_i h
  rw [Int.ediv_neg, show ((b.natAbs : Nat) : Int) = -b from by omega, Int.neg_ediv_of_dvd hg]
 .rename_i h
  rw [show ((b.natAbs : Nat) : Int) = b from by omega]
theorem cmn_ne (a b : Int) (hb : b ≠ 0) : cmn a b ≠ 0 := by
 have h : Int.gcd a b ≠ 0 := fun h => hb (Int.gcd_eq_zero_iff.1 h).2
 unfold cmn
 split <;> omega
theorem divInt_one (a : Int) : Rat.divInt a 1 = (a : Rat) := by
 apply Rat.ext
 .rw [Rat.num_divInt]; simp
 .rw [Rat.den_divInt]; simp
theorem sign_v {w : World} {x y : Value} {a v : Int} (h : Zl w x y a) (hv : sgn a = v) : Calls Tryz.prog 66 #[.agg #[x, y]] w fun e w' => e = .returned (.int .i64 v) /\ Below w.heap.size w w' := by
 subst hv; exact sign_z h.zi
theorem isOne_v {w : World} {x y : Value} {a : Int} {v : Bool} (ha : Zl w x y a) (hv : decide (a = 1) = v) : Calls Tryz.prog 96 #[.agg #[x, y]] w fun e w' => e = .returned (.bool v) /\ Below w.heap.size w w' := by
 subst hv; exact isOne_z ha.zi
theorem Sg.num {a b : Int} (sa : Sg a) (hb : b ≠ 0) : Sg (Rat.divInt a b).num := by
 rw [<- cmn_num a b hb]
 unfold Sg at *
 have h1 : (a / cmn a b).natAbs <= a.natAbs := Int.natAbs_ediv_le_natAbs _ _
 omega
theorem Sg.den {a b : Int} (sb : Sg b) (hb : b ≠ 0) : Sg ((Rat.divInt a b).den : Int) := by
 rw [<- cmn_den a b hb]
 unfold Sg at *
 have h1 : (b / cmn a b).natAbs <= b.natAbs := Int.natAbs_ediv_le_natAbs _ _
 omega
theorem one4_new (w : World) (o : Obj) : Below w.heap.size w (w.alloc o) := (Below.refl _ _).alloc (Nat.le_refl _) _
theorem gcd_v {w : World} {x y x' y' : Value} {a b G : Int} (ha : Zl w x y a) (hb : Zl w x' y' b) (sa : Sg a) (sb : Sg b) (hG : (Int.gcd a b : Int) = G) : Calls Tryz.prog 97 #[.agg #[x, y], .agg #[x', y']] w (ZR w G) := by
 subst hG; exact gcd_z ha hb sa sb
theorem gcd_le (a b : Int) (hb : b ≠ 0) : Int.gcd a b <= b.natAbs := Nat.le_of_dvd (by omega) (Int.gcd_dvd_natAbs_right a b)
theorem quot_n1 {w : World} {x1 y1 x2 y2 : Value} {a b : Int} (ha : Zl w x1 y1 a) (hb : Zl w x2 y2 b) (hb0 : b ≠ 0) (hb1 : b ≠ 1) (sa : Sg a) (sb : Sg b) (hneg : b < 0) (hone : (Rat.divInt a b).den = 1) :
  Calls Tryz.prog 70 #[.agg #[x1, y1], .agg #[x2, y2]] w (QR w (Rat.divInt a b)) := by
 have hgn : Int.gcd a b ≠ 0 := fun h => hb0 (Int.gcd_eq_zero_iff.1 h).2
 have hgl := gcd_le a b hb0
 have hn := Hd (cmn_num a b hb0)
 have hdd := Hd (cmn_den a b hb0)
 have hc0 := Hd (cmn_ne a b hb0)
 have sc : Hid (Sg (cmn a b)) := by
  show Sg _
  unfold Sg cmn at *
  split <;> omega
 have sg : Hid (Sg (Int.gcd a b : Nat)) := by
  show Sg _
  unfold Sg at *
  omega
 have sd := Hd (sb.den (a := a) hb0)
 rw [<- hdd.out] at sd
 have h1 : Hid (decide (b = 1) = false) := decide_eq_false hb1
 have hs : Hid (sgn b = -1) := by show _ = _; unfold sgn; rw [if_neg hb0, if_pos hneg]
 have hd1 : Hid (decide (b / cmn a b = 1) = true) := by
  show _ = _
  rw [hdd.out]
  exact decide_eq_true (by rw [hone]; rfl)
 have hcm : Hid (-(Int.gcd a b : Int) = cmn a b) := by show _ = _; unfold cmn; rw [if_pos hneg]
 obtain ⟨C, eC⟩ : ∃ C, cmn a b = C := ⟨_, rfl⟩
 obtain ⟨G, eG⟩ : ∃ G : Int, (Int.gcd a b : Int) = G := ⟨_, rfl⟩
 rw [eC] at hn hdd hc0 sc sd hd1 hcm
 rw [eG] at sg hcm
 have EG := Hd eG
 clear eC eG hgn hgl
 obtain ⟨W0, hW0⟩ : ∃ W0, W0 = ((w.alloc (.cells #[x1, y1] 24)).alloc (.cells #[x2, y2] 24)).alloc (.cells #[.bool false, .slice none 0 0, .bool false, .slice none 0 0] 26) := ⟨_, rfl⟩
 have hbw : Below w.heap.size w W0 := by rw [hW0]; exact (((Below.refl _ _).alloc (Nat.le_refl _) _).alloc (by simp) _).alloc (by simp; omega) _
 have tA : Two W0 w.heap.size x1 y1 := by rw [hW0]; exact ((Two.new w _ _ _).alloc _).alloc _
 have tB : Two W0 (w.heap.size + 1) x2 y2 := by
  have h := Two.new (w.alloc (.cells #[x1, y1] 24)) x2 y2 24
  rw [World.size_alloc] at h
  rw [hW0]; exact h.alloc _
 have tR : Four W0 (w.heap.size + 1 + 1) (.bool false) (.slice none 0 0) (.bool false) (.slice none 0 0) := by
  have h := Four.new ((w.alloc (.cells #[x1, y1] 24)).alloc (.cells #[x2, y2] 24)) (.bool false) (.slice none 0 0) (.bool false) (.slice none 0 0) 26
  rw [World.size_alloc, World.size_alloc] at h
  rw [hW0]; exact h
 have HW0 := Hd hW0
 have hA := ha.to hbw
 have hB := hb.to hbw
 have HB := Hd hbw
 have hneB : Hid (w.heap.size + 1 ≠ w.heap.size) := by show _ ≠ _; omega
 have hneR : Hid (w.heap.size + 1 + 1 ≠ w.heap.size) := by show _ ≠ _; omega
 have hneRB : Hid (w.heap.size + 1 + 1 ≠ w.heap.size + 1) := by show _ ≠ _; omega
 replace sa := Hd sa
 replace sb := Hd sb
 clear ha hb hb0 hb1 hneg hone hW0 hbw
 go_enter Tryz.func70, Tryz.ntmps70
 go_wp2_with fail
 rw [<- HW0.out]
 have k0 := tB.c0
 have k1 := tB.c1
 go_wp2_with fail
 refine (isOne_v hB h1.out).mono ?_
 rintro e V1 ⟨rfl, bb⟩
 clear k0 k1
 replace tA := tA.to bb
 replace tB := tB.to bb
 replace tR := tR.to bb
 replace hA := hA.to bb
 replace hB := hB.to bb
 replace HB := hx HB bb
 clear bb
 have k0 := tA.c0
 have k1 := tA.c1
 have k2 := tB.c0
 have k3 := tB.c1
 go_wp2_with fail
 refine (gcd_v hA hB sa.out sb.out EG.out).mono ?_
 rintro e V2 ⟨xg, yg, rfl, rg, bb⟩
 clear k0 k1 k2 k3
 replace tA := tA.to bb
 replace tB := tB.to bb
 replace tR := tR.to bb
 replace hA := hA.to bb
 replace hB := hB.to bb
 replace HB := hx HB bb
 clear bb
 have hg5w : Hid (w.heap.size <= V2.heap.size) := HB.out.size
 have rg2 := rg
 obtain ⟨Ag, cg, rfl, rfl, -⟩ := rg2
 have bb := one4_new V2 (.cells #[.bool (decide (G < 0)), .slice Ag (dig b32 G.natAbs).length cg] 24)
 have t5 := Two.new V2 (.bool (decide (G < 0))) (.slice Ag (dig b32 G.natAbs).length cg) 24
 replace rg := rg.to bb
 have hne5A := Nat.ne_of_lt tA.lt
 have hne5B := Nat.ne_of_lt tB.lt
 have hne5R := Nat.ne_of_lt tR.lt
 replace tA := tA.to bb
 replace tB := tB.to bb
 replace tR := tR.to bb
 replace hA := hA.to bb
 replace hB := hB.to bb
 replace HB := hx HB bb
 clear bb
 have k0 := tB.c0
 have k1 := tB.c1
 go_wp2_with fail
 obtain ⟨V3, hV3⟩ : ∃ V, V = V2.alloc (.cells #[.bool (decide (G < 0)), .slice Ag (dig b32 G.natAbs).length cg] 24) := ⟨_, rfl⟩
 obtain ⟨g5, hg5⟩ : ∃ g, g = V2.heap.size := ⟨_, rfl⟩
 rw [<- hV3, <- hg5]
 rw [<- hV3] at rg tA tB tR hA hB HB
 rw [<- hV3, <- hg5] at t5
 rw [<- hg5] at hne5A hne5B hne5R hg5w
 clear k0 k1
 clear hV3 hg5
 refine (sign_v hB hs.out).mono ?_
 rintro e V4 ⟨rfl, bb⟩
 replace rg := rg.to bb
 replace tA := tA.to bb
 replace tB := tB.to bb
 replace t5 := t5.to bb
 replace tR := tR.to bb
 replace hA := hA.to bb
 replace hB := hB.to bb
 replace HB := hx HB bb
 clear bb
 have k0 := t5.c0
 have k1 := t5.c1
 go_wp2_with fail
 refine (neg_z (rg.zs sg.out).zi).mono ?_
 rintro e V5 ⟨xn, yn, rfl, rc, bb⟩
 clear k0 k1
 replace tA := tA.to bb
 replace tB := tB.to bb
 replace t5 := t5.to bb
 replace tR := tR.to bb
 replace hA := hA.to bb
 replace hB := hB.to bb
 replace HB := hx HB bb
 clear bb rg
 rw [hcm.out] at rc
 have rg2 := rc
 obtain ⟨Ac, cc, rfl, rfl, -⟩ := rg2
 have k0 := t5.c0
 have k1 := t5.c1
 have k2 := t5.f0
 have k3 := t5.f1
 obtain ⟨V6, eV, u5, kp, kf⟩ := pack2 t5 ⟨_, _, _, _, rfl, rfl⟩ (.bool (decide (C < 0))) (.slice Ac (dig b32 C.natAbs).length cc)
 replace tA := kp.two _ _ _ hne5A tA
 replace tB := kp.two _ _ _ hne5B tB
 replace tR := kf _ _ _ _ _ hne5R tR
 replace hA := kp.zl hA
 replace hB := kp.zl hB
 replace rc := kp.zc _ _ _ rc
 replace HB := Hd (kp.bel _ _ HB.out hg5w.out)
 clear t5 kp kf
 have t5 := u5
 have k4 := tA.c0
 have k5 := tA.c1
 have k6 := t5.c0
 have k7 := t5.c1
 go_wp2_with fail
 clear k0 k1 k2 k3 k4 k5 k6 k7 eV u5
 refine (dm_z hA (rc.zs sc.out) hc0.out sa.out).mono ?_
 rintro e V7 ⟨A1, c1, A2, c2, rfl, r1, r2, l1, m1, l2, m2, bb⟩
 replace rc := rc.to bb
 replace tA := tA.to bb
 replace tB := tB.to bb
 replace t5 := t5.to bb
 replace tR := tR.to bb
 replace hA := hA.to bb
 replace hB := hB.to bb
 replace HB := hx HB bb
 clear bb r2 l2 m2
 have rn : Zc V7 (.bool (decide (a / C < 0))) (.slice A1 (dig b32 (a / C).natAbs).length c1) (a / C) := ⟨A1, c1, rfl, rfl, r1, l1, m1⟩
 clear r1 l1 m1
 obtain ⟨V8, eV, u, kp, kf⟩ := pack2 tA hA.fs (.bool (decide (a / C < 0))) (.slice A1 (dig b32 (a / C).natAbs).length c1)
 have k0 := tA.c0
 have k1 := tA.c1
 have k2 := tA.f0
 have k3 := tA.f1
 replace tB := kp.two _ _ _ hneB.out tB
 replace t5 := kp.two _ _ _ (Ne.symm hne5A) t5
 replace tR := kf _ _ _ _ _ hneR.out tR
 replace hB := kp.zl hB
 replace rc := kp.zc _ _ _ rc
 replace rn := kp.zc _ _ _ rn
 replace HB := Hd (kp.bel _ _ HB.out (Nat.le_refl _))
 clear tA hA kp kf
 have tA := u
 have k4 := tB.c0
 have k5 := tB.c1
 have k6 := t5.c0
 have k7 := t5.c1
 go_wp2_with fail
 clear k0 k1 k2 k3 k4 k5 k6 k7 eV u
 refine (dm_z hB (rc.zs sc.out) hc0.out sb.out).mono ?_
 rintro e V9 ⟨A3, c3, A4, c4, rfl, r1, r2, l1, m1, l2, m2, bb⟩
 replace rn := rn.to bb
 replace tA := tA.to bb
 replace tB := tB.to bb
 replace tR := tR.to bb
 replace hB := hB.to bb
 replace HB := hx HB bb
 clear bb r2 l2 m2 rc t5
 have rd : Zc V9 (.bool (decide (b / C < 0))) (.slice A3 (dig b32 (b / C).natAbs).length c3) (b / C) := ⟨A3, c3, rfl, rfl, r1, l1, m1⟩
 clear r1 l1 m1
 obtain ⟨V10, eV, u, kp, kf⟩ := pack2 tB hB.fs (.bool (decide (b / C < 0))) (.slice A3 (dig b32 (b / C).natAbs).length c3)
 have k0 := tB.c0
 have k1 := tB.c1
 have k2 := tB.f0
 have k3 := tB.f1
 replace tA := kp.two _ _ _ (Ne.symm hneB.out) tA
 replace tR := kf _ _ _ _ _ hneRB.out tR
 replace rn := kp.zc _ _ _ rn
 replace rd := kp.zc _ _ _ rd
 replace HB := Hd (kp.bel _ _ HB.out (Nat.le_succ _))
 clear tB hB kp kf
 have tB := u
 have k4 := tB.c0
 have k5 := tB.c1
 go_wp2_with fail
 clear k0 k1 k2 k3 k4 k5 eV u
 refine (isOne_v (rd.zs sd.out) hd1.out).mono ?_
 rintro e V11 ⟨rfl, bb⟩
 replace rn := rn.to bb
 replace rd := rd.to bb
 replace tA := tA.to bb
 replace tB := tB.to bb
 replace tR := tR.to bb
 replace HB := hx HB bb
 clear bb
 have RN := Hd rn
 have RD := Hd rd
 clear rn rd
 obtain ⟨V12, eV, u, kp⟩ := pack4 tR Fq.nil (.bool (decide (a / C < 0))) (.slice A1 (dig b32 (a / C).natAbs).length c1) (.bool false) (.slice none 0 0)
 have k0 := tA.c0
 have k1 := tA.c1
 obtain ⟨v0, v1, v2, v3, v4, v5, v6, v7, _⟩ := tR
 have EV := Hd eV
 have KP := Hd kp
 have U := Hd u
 clear eV kp u tA tB
 go_wp2
 rw [EV.out]
 refine bodyPost_ret (v := .agg #[.bool (decide (a / C < 0)), .slice A1 (dig b32 (a / C).natAbs).length c1, .bool false, .slice none 0 0]) (by simp [results, Tryz.f70, go_sem, U.out.c0, U.out.c1, U.out.c2, U.out.c3]) rfl ?_
 exact ⟨_, _, _, _, rfl, ⟨by rw [<- hn.out]; exact KP.out.zc _ _ _ RN.out, by rw [if_pos (by have h1 := hdd.out; have h2 := of_decide_eq_true hd1.out; omega)]; exact Zc.zero V12⟩, KP.out.bel _ _ HB.out (by omega)⟩
theorem quot_n0 {w : World} {x1 y1 x2 y2 : Value} {a b : Int} (ha : Zl w x1 y1 a) (hb : Zl w x2 y2 b) (hb0 : b ≠ 0) (hb1 : b ≠ 1) (sa : Sg a) (sb : Sg b) (hneg : b < 0) (hone : (Rat.divInt a b).den ≠ 1) :
  Calls Tryz.prog 70 #[.agg #[x1, y1], .agg #[x2, y2]] w (QR w (Rat.divInt a b)) := by
 have hgn : Int.gcd a b ≠ 0 := fun h => hb0 (Int.gcd_eq_zero_iff.1 h).2
 have hgl := gcd_le a b hb0
 have hn := Hd (cmn_num a b hb0)
 have hdd := Hd (cmn_den a b hb0)
 have hc0 := Hd (cmn_ne a b hb0)
 have sc : Hid (Sg (cmn a b)) := by
  show Sg _
  unfold Sg cmn at *
  split <;> omega
 have sg : Hid (Sg (Int.gcd a b : Nat)) := by
  show Sg _
  unfold Sg at *
  omega
 have sd := Hd (sb.den (a := a) hb0)
 rw [<- hdd.out] at sd
 have h1 : Hid (decide (b = 1) = false) := decide_eq_false hb1
 have hs : Hid (sgn b = -1) := by show _ = _; unfold sgn; rw [if_neg hb0, if_pos hneg]
 have hd1 : Hid (decide (b / cmn a b = 1) = false) := by
  show _ = _
  rw [hdd.out]
  exact decide_eq_false (by omega)
 have hcm : Hid (-(Int.gcd a b : Int) = cmn a b) := by show _ = _; unfold cmn; rw [if_pos hneg]
 obtain ⟨C, eC⟩ : ∃ C, cmn a b = C := ⟨_, rfl⟩
 obtain ⟨G, eG⟩ : ∃ G : Int, (Int.gcd a b : Int) = G := ⟨_, rfl⟩
 rw [eC] at hn hdd hc0 sc sd hd1 hcm
 rw [eG] at sg hcm
 have EG := Hd eG
 clear eC eG hgn hgl
 obtain ⟨W0, hW0⟩ : ∃ W0, W0 = ((w.alloc (.cells #[x1, y1] 24)).alloc (.cells #[x2, y2] 24)).alloc (.cells #[.bool false, .slice none 0 0, .bool false, .slice none 0 0] 26) := ⟨_, rfl⟩
 have hbw : Below w.heap.size w W0 := by rw [hW0]; exact (((Below.refl _ _).alloc (Nat.le_refl _) _).alloc (by simp) _).alloc (by simp; omega) _
 have tA : Two W0 w.heap.size x1 y1 := by rw [hW0]; exact ((Two.new w _ _ _).alloc _).alloc _
 have tB : Two W0 (w.heap.size + 1) x2 y2 := by
  have h := Two.new (w.alloc (.cells #[x1, y1] 24)) x2 y2 24
  rw [World.size_alloc] at h
  rw [hW0]; exact h.alloc _
 have tR : Four W0 (w.heap.size + 1 + 1) (.bool false) (.slice none 0 0) (.bool false) (.slice none 0 0) := by
  have h := Four.new ((w.alloc (.cells #[x1, y1] 24)).alloc (.cells #[x2, y2] 24)) (.bool false) (.slice none 0 0) (.bool false) (.slice none 0 0) 26
  rw [World.size_alloc, World.size_alloc] at h
  rw [hW0]; exact h
 have HW0 := Hd hW0
 have hA := ha.to hbw
 have hB := hb.to hbw
 have HB := Hd hbw
 have hneB : Hid (w.heap.size + 1 ≠ w.heap.size) := by show _ ≠ _; omega
 have hneR : Hid (w.heap.size + 1 + 1 ≠ w.heap.size) := by show _ ≠ _; omega
 have hneRB : Hid (w.heap.size + 1 + 1 ≠ w.heap.size + 1) := by show _ ≠ _; omega
 replace sa := Hd sa
 replace sb := Hd sb
 clear ha hb hb0 hb1 hneg hone hW0 hbw
 go_enter Tryz.func70, Tryz.ntmps70
 go_wp2_with fail
 rw [<- HW0.out]
 have k0 := tB.c0
 have k1 := tB.c1
 go_wp2_with fail
 refine (isOne_v hB h1.out).mono ?_
 rintro e V1 ⟨rfl, bb⟩
 clear k0 k1
 replace tA := tA.to bb
 replace tB := tB.to bb
 replace tR := tR.to bb
 replace hA := hA.to bb
 replace hB := hB.to bb
 replace HB := hx HB bb
 clear bb
 have k0 := tA.c0
 have k1 := tA.c1
 have k2 := tB.c0
 have k3 := tB.c1
 go_wp2_with fail
 refine (gcd_v hA hB sa.out sb.out EG.out).mono ?_
 rintro e V2 ⟨xg, yg, rfl, rg, bb⟩
 clear k0 k1 k2 k3
 replace tA := tA.to bb
 replace tB := tB.to bb
 replace tR := tR.to bb
 replace hA := hA.to bb
 replace hB := hB.to bb
 replace HB := hx HB bb
 clear bb
 have hg5w : Hid (w.heap.size <= V2.heap.size) := HB.out.size
 have rg2 := rg
 obtain ⟨Ag, cg, rfl, rfl, -⟩ := rg2
 have bb := one4_new V2 (.cells #[.bool (decide (G < 0)), .slice Ag (dig b32 G.natAbs).length cg] 24)
 have t5 := Two.new V2 (.bool (decide (G < 0))) (.slice Ag (dig b32 G.natAbs).length cg) 24
 replace rg := rg.to bb
 have hne5A := Nat.ne_of_lt tA.lt
 have hne5B := Nat.ne_of_lt tB.lt
 have hne5R := Nat.ne_of_lt tR.lt
 replace tA := tA.to bb
 replace tB := tB.to bb
 replace tR := tR.to bb
 replace hA := hA.to bb
 replace hB := hB.to bb
 replace HB := hx HB bb
 clear bb
 have k0 := tB.c0
 have k1 := tB.c1
 go_wp2_with fail
 obtain ⟨V3, hV3⟩ : ∃ V, V = V2.alloc (.cells #[.bool (decide (G < 0)), .slice Ag (dig b32 G.natAbs).length cg] 24) := ⟨_, rfl⟩
 obtain ⟨g5, hg5⟩ : ∃ g, g = V2.heap.size := ⟨_, rfl⟩
 rw [<- hV3, <- hg5]
 rw [<- hV3] at rg tA tB tR hA hB HB
 rw [<- hV3, <- hg5] at t5
 rw [<- hg5] at hne5A hne5B hne5R hg5w
 clear k0 k1
 clear hV3 hg5
 refine (sign_v hB hs.out).mono ?_
 rintro e V4 ⟨rfl, bb⟩
 replace rg := rg.to bb
 replace tA := tA.to bb
 replace tB := tB.to bb
 replace t5 := t5.to bb
 replace tR := tR.to bb
 replace hA := hA.to bb
 replace hB := hB.to bb
 replace HB := hx HB bb
 clear bb
 have k0 := t5.c0
 have k1 := t5.c1
 go_wp2_with fail
 refine (neg_z (rg.zs sg.out).zi).mono ?_
 rintro e V5 ⟨xn, yn, rfl, rc, bb⟩
 clear k0 k1
 replace tA := tA.to bb
 replace tB := tB.to bb
 replace t5 := t5.to bb
 replace tR := tR.to bb
 replace hA := hA.to bb
 replace hB := hB.to bb
 replace HB := hx HB bb
 clear bb rg
 rw [hcm.out] at rc
 have rg2 := rc
 obtain ⟨Ac, cc, rfl, rfl, -⟩ := rg2
 have k0 := t5.c0
 have k1 := t5.c1
 have k2 := t5.f0
 have k3 := t5.f1
 obtain ⟨V6, eV, u5, kp, kf⟩ := pack2 t5 ⟨_, _, _, _, rfl, rfl⟩ (.bool (decide (C < 0))) (.slice Ac (dig b32 C.natAbs).length cc)
 replace tA := kp.two _ _ _ hne5A tA
 replace tB := kp.two _ _ _ hne5B tB
 replace tR := kf _ _ _ _ _ hne5R tR
 replace hA := kp.zl hA
 replace hB := kp.zl hB
 replace rc := kp.zc _ _ _ rc
 replace HB := Hd (kp.bel _ _ HB.out hg5w.out)
 clear t5 kp kf
 have t5 := u5
 have k4 := tA.c0
 have k5 := tA.c1
 have k6 := t5.c0
 have k7 := t5.c1
 go_wp2_with fail
 clear k0 k1 k2 k3 k4 k5 k6 k7 eV u5
 refine (dm_z hA (rc.zs sc.out) hc0.out sa.out).mono ?_
 rintro e V7 ⟨A1, c1, A2, c2, rfl, r1, r2, l1, m1, l2, m2, bb⟩
 replace rc := rc.to bb
 replace tA := tA.to bb
 replace tB := tB.to bb
 replace t5 := t5.to bb
 replace tR := tR.to bb
 replace hA := hA.to bb
 replace hB := hB.to bb
 replace HB := hx HB bb
 clear bb r2 l2 m2
 have rn : Zc V7 (.bool (decide (a / C < 0))) (.slice A1 (dig b32 (a / C).natAbs).length c1) (a / C) := ⟨A1, c1, rfl, rfl, r1, l1, m1⟩
 clear r1 l1 m1
 obtain ⟨V8, eV, u, kp, kf⟩ := pack2 tA hA.fs (.bool (decide (a / C < 0))) (.slice A1 (dig b32 (a / C).natAbs).length c1)
 have k0 := tA.c0
 have k1 := tA.c1
 have k2 := tA.f0
 have k3 := tA.f1
 replace tB := kp.two _ _ _ hneB.out tB
 replace t5 := kp.two _ _ _ (Ne.symm hne5A) t5
 replace tR := kf _ _ _ _ _ hneR.out tR
 replace hB := kp.zl hB
 replace rc := kp.zc _ _ _ rc
 replace rn := kp.zc _ _ _ rn
 replace HB := Hd (kp.bel _ _ HB.out (Nat.le_refl _))
 clear tA hA kp kf
 have tA := u
 have k4 := tB.c0
 have k5 := tB.c1
 have k6 := t5.c0
 have k7 := t5.c1
 go_wp2_with fail
 clear k0 k1 k2 k3 k4 k5 k6 k7 eV u
 refine (dm_z hB (rc.zs sc.out) hc0.out sb.out).mono ?_
 rintro e V9 ⟨A3, c3, A4, c4, rfl, r1, r2, l1, m1, l2, m2, bb⟩
 replace rn := rn.to bb
 replace tA := tA.to bb
 replace tB := tB.to bb
 replace tR := tR.to bb
 replace hB := hB.to bb
 replace HB := hx HB bb
 clear bb r2 l2 m2 rc t5
 have rd : Zc V9 (.bool (decide (b / C < 0))) (.slice A3 (dig b32 (b / C).natAbs).length c3) (b / C) := ⟨A3, c3, rfl, rfl, r1, l1, m1⟩
 clear r1 l1 m1
 obtain ⟨V10, eV, u, kp, kf⟩ := pack2 tB hB.fs (.bool (decide (b / C < 0))) (.slice A3 (dig b32 (b / C).natAbs).length c3)
 have k0 := tB.c0
 have k1 := tB.c1
 have k2 := tB.f0
 have k3 := tB.f1
 replace tA := kp.two _ _ _ (Ne.symm hneB.out) tA
 replace tR := kf _ _ _ _ _ hneRB.out tR
 replace rn := kp.zc _ _ _ rn
 replace rd := kp.zc _ _ _ rd
 replace HB := Hd (kp.bel _ _ HB.out (Nat.le_succ _))
 clear tB hB kp kf
 have tB := u
 have k4 := tB.c0
 have k5 := tB.c1
 go_wp2_with fail
 clear k0 k1 k2 k3 k4 k5 eV u
 refine (isOne_v (rd.zs sd.out) hd1.out).mono ?_
 rintro e V11 ⟨rfl, bb⟩
 replace rn := rn.to bb
 replace rd := rd.to bb
 replace tA := tA.to bb
 replace tB := tB.to bb
 replace tR := tR.to bb
 replace HB := hx HB bb
 clear bb
 have RN := Hd rn
 have RD := Hd rd
 clear rn rd
 obtain ⟨V12, eV, u, kp⟩ := pack4 tR Fq.nil (.bool (decide (a / C < 0))) (.slice A1 (dig b32 (a / C).natAbs).length c1) (.bool (decide (b / C < 0))) (.slice A3 (dig b32 (b / C).natAbs).length c3)
 have k0 := tA.c0
 have k1 := tA.c1
 have k2 := tB.c0
 have k3 := tB.c1
 obtain ⟨v0, v1, v2, v3, v4, v5, v6, v7, _⟩ := tR
 have EV := Hd eV
 have KP := Hd kp
 have U := Hd u
 clear eV kp u tA tB
 go_wp2
 rw [EV.out]
 refine bodyPost_ret (v := .agg #[.bool (decide (a / C < 0)), .slice A1 (dig b32 (a / C).natAbs).length c1, .bool (decide (b / C < 0)), .slice A3 (dig b32 (b / C).natAbs).length c3]) (by simp [results, Tryz.f70, go_sem, U.out.c0, U.out.c1, U.out.c2, U.out.c3]) rfl ?_
 exact ⟨_, _, _, _, rfl, ⟨by rw [<- hn.out]; exact KP.out.zc _ _ _ RN.out, by rw [if_neg (by have h1 := hdd.out; have h2 := of_decide_eq_false hd1.out; omega), <- hdd.out]; exact KP.out.zc _ _ _ RD.out⟩, KP.out.bel _ _ HB.out (by omega)⟩
theorem quot_p1 {w : World} {x1 y1 x2 y2 : Value} {a b : Int} (ha : Zl w x1 y1 a) (hb : Zl w x2 y2 b) (hb0 : b ≠ 0) (hb1 : b ≠ 1) (sa : Sg a) (sb : Sg b) (hneg : 0 < b) (hone : (Rat.divInt a b).den = 1) :
  Calls Tryz.prog 70 #[.agg #[x1, y1], .agg #[x2, y2]] w (QR w (Rat.divInt a b)) := by
 have hgn : Int.gcd a b ≠ 0 := fun h => hb0 (Int.gcd_eq_zero_iff.1 h).2
 have hgl := gcd_le a b hb0
 have hn := Hd (cmn_num a b hb0)
 have hdd := Hd (cmn_den a b hb0)
 have hc0 := Hd (cmn_ne a b hb0)
 have sc : Hid (Sg (cmn a b)) := by
  show Sg _
  unfold Sg cmn at *
  split <;> omega
 have sg : Hid (Sg (Int.gcd a b : Nat)) := by
  show Sg _
  unfold Sg at *
  omega
 have sd := Hd (sb.den (a := a) hb0)
 rw [<- hdd.out] at sd
 have h1 : Hid (decide (b = 1) = false) := decide_eq_false hb1
 have hs : Hid (sgn b = 1) := by show _ = _; unfold sgn; rw [if_neg hb0, if_neg (by omega)]
 have hd1 : Hid (decide (b / cmn a b = 1) = true) := by
  show _ = _
  rw [hdd.out]
  exact decide_eq_true (by rw [hone]; rfl)
 have hcm : (Int.gcd a b : Int) = cmn a b := by unfold cmn; rw [if_neg (by omega)]
 obtain ⟨G, eG⟩ : ∃ G : Int, (Int.gcd a b : Int) = G := ⟨_, rfl⟩
 rw [eG] at sg hcm
 rw [<- hcm] at hn hdd hc0 sc sd hd1
 have EG := Hd eG
 clear eG hgn hgl hcm
 obtain ⟨W0, hW0⟩ : ∃ W0, W0 = ((w.alloc (.cells #[x1, y1] 24)).alloc (.cells #[x2, y2] 24)).alloc (.cells #[.bool false, .slice none 0 0, .bool false, .slice none 0 0] 26) := ⟨_, rfl⟩
 have hbw : Below w.heap.size w W0 := by rw [hW0]; exact (((Below.refl _ _).alloc (Nat.le_refl _) _).alloc (by simp) _).alloc (by simp; omega) _
 have tA : Two W0 w.heap.size x1 y1 := by rw [hW0]; exact ((Two.new w _ _ _).alloc _).alloc _
 have tB : Two W0 (w.heap.size + 1) x2 y2 := by
  have h := Two.new (w.alloc (.cells #[x1, y1] 24)) x2 y2 24
  rw [World.size_alloc] at h
  rw [hW0]; exact h.alloc _
 have tR : Four W0 (w.heap.size + 1 + 1) (.bool false) (.slice none 0 0) (.bool false) (.slice none 0 0) := by
  have h := Four.new ((w.alloc (.cells #[x1, y1] 24)).alloc (.cells #[x2, y2] 24)) (.bool false) (.slice none 0 0) (.bool false) (.slice none 0 0) 26
  rw [World.size_alloc, World.size_alloc] at h
  rw [hW0]; exact h
 have HW0 := Hd hW0
 have hA := ha.to hbw
 have hB := hb.to hbw
 have HB := Hd hbw
 have hneB : Hid (w.heap.size + 1 ≠ w.heap.size) := by show _ ≠ _; omega
 have hneR : Hid (w.heap.size + 1 + 1 ≠ w.heap.size) := by show _ ≠ _; omega
 have hneRB : Hid (w.heap.size + 1 + 1 ≠ w.heap.size + 1) := by show _ ≠ _; omega
 replace sa := Hd sa
 replace sb := Hd sb
 clear ha hb hb0 hb1 hneg hone hW0 hbw
 go_enter Tryz.func70, Tryz.ntmps70
 go_wp2_with fail
 rw [<- HW0.out]
 have k0 := tB.c0
 have k1 := tB.c1
 go_wp2_with fail
 refine (isOne_v hB h1.out).mono ?_
 rintro e V1 ⟨rfl, bb⟩
 clear k0 k1
 replace tA := tA.to bb
 replace tB := tB.to bb
 replace tR := tR.to bb
 replace hA := hA.to bb
 replace hB := hB.to bb
 replace HB := hx HB bb
 clear bb
 have k0 := tA.c0
 have k1 := tA.c1
 have k2 := tB.c0
 have k3 := tB.c1
 go_wp2_with fail
 refine (gcd_v hA hB sa.out sb.out EG.out).mono ?_
 rintro e V2 ⟨xg, yg, rfl, rg, bb⟩
 clear k0 k1 k2 k3
 replace tA := tA.to bb
 replace tB := tB.to bb
 replace tR := tR.to bb
 replace hA := hA.to bb
 replace hB := hB.to bb
 replace HB := hx HB bb
 clear bb
 have hg5w : Hid (w.heap.size <= V2.heap.size) := HB.out.size
 have rg2 := rg
 obtain ⟨Ag, cg, rfl, rfl, -⟩ := rg2
 have bb := one4_new V2 (.cells #[.bool (decide (G < 0)), .slice Ag (dig b32 G.natAbs).length cg] 24)
 have t5 := Two.new V2 (.bool (decide (G < 0))) (.slice Ag (dig b32 G.natAbs).length cg) 24
 replace rg := rg.to bb
 have hne5A := Nat.ne_of_lt tA.lt
 have hne5B := Nat.ne_of_lt tB.lt
 have hne5R := Nat.ne_of_lt tR.lt
 replace tA := tA.to bb
 replace tB := tB.to bb
 replace tR := tR.to bb
 replace hA := hA.to bb
 replace hB := hB.to bb
 replace HB := hx HB bb
 clear bb
 have k0 := tB.c0
 have k1 := tB.c1
 go_wp2_with fail
 obtain ⟨V3, hV3⟩ : ∃ V, V = V2.alloc (.cells #[.bool (decide (G < 0)), .slice Ag (dig b32 G.natAbs).length cg] 24) := ⟨_, rfl⟩
 obtain ⟨g5, hg5⟩ : ∃ g, g = V2.heap.size := ⟨_, rfl⟩
 rw [<- hV3, <- hg5]
 rw [<- hV3] at rg tA tB tR hA hB HB
 rw [<- hV3, <- hg5] at t5
 rw [<- hg5] at hne5A hne5B hne5R hg5w
 clear k0 k1
 clear hV3 hg5
 refine (sign_v hB hs.out).mono ?_
 rintro e V4 ⟨rfl, bb⟩
 replace rg := rg.to bb
 replace tA := tA.to bb
 replace tB := tB.to bb
 replace t5 := t5.to bb
 replace tR := tR.to bb
 replace hA := hA.to bb
 replace hB := hB.to bb
 replace HB := hx HB bb
 clear bb
 have rc := rg
 clear rg
 have k4 := tA.c0
 have k5 := tA.c1
 have k6 := t5.c0
 have k7 := t5.c1
 go_wp2_with fail
 clear k4 k5 k6 k7
 refine (dm_z hA (rc.zs sc.out) hc0.out sa.out).mono ?_
 rintro e V7 ⟨A1, c1, A2, c2, rfl, r1, r2, l1, m1, l2, m2, bb⟩
 replace rc := rc.to bb
 replace tA := tA.to bb
 replace tB := tB.to bb
 replace t5 := t5.to bb
 replace tR := tR.to bb
 replace hA := hA.to bb
 replace hB := hB.to bb
 replace HB := hx HB bb
 clear bb r2 l2 m2
 have rn : Zc V7 (.bool (decide (a / G < 0))) (.slice A1 (dig b32 (a / G).natAbs).length c1) (a / G) := ⟨A1, c1, rfl, rfl, r1, l1, m1⟩
 clear r1 l1 m1
 obtain ⟨V8, eV, u, kp, kf⟩ := pack2 tA hA.fs (.bool (decide (a / G < 0))) (.slice A1 (dig b32 (a / G).natAbs).length c1)
 have k0 := tA.c0
 have k1 := tA.c1
 have k2 := tA.f0
 have k3 := tA.f1
 replace tB := kp.two _ _ _ hneB.out tB
 replace t5 := kp.two _ _ _ (Ne.symm hne5A) t5
 replace tR := kf _ _ _ _ _ hneR.out tR
 replace hB := kp.zl hB
 replace rc := kp.zc _ _ _ rc
 replace rn := kp.zc _ _ _ rn
 replace HB := Hd (kp.bel _ _ HB.out (Nat.le_refl _))
 clear tA hA kp kf
 have tA := u
 have k4 := tB.c0
 have k5 := tB.c1
 have k6 := t5.c0
 have k7 := t5.c1
 go_wp2_with fail
 clear k0 k1 k2 k3 k4 k5 k6 k7 eV u
 refine (dm_z hB (rc.zs sc.out) hc0.out sb.out).mono ?_
 rintro e V9 ⟨A3, c3, A4, c4, rfl, r1, r2, l1, m1, l2, m2, bb⟩
 replace rn := rn.to bb
 replace tA := tA.to bb
 replace tB := tB.to bb
 replace tR := tR.to bb
 replace hB := hB.to bb
 replace HB := hx HB bb
 clear bb r2 l2 m2 rc t5
 have rd : Zc V9 (.bool (decide (b / G < 0))) (.slice A3 (dig b32 (b / G).natAbs).length c3) (b / G) := ⟨A3, c3, rfl, rfl, r1, l1, m1⟩
 clear r1 l1 m1
 obtain ⟨V10, eV, u, kp, kf⟩ := pack2 tB hB.fs (.bool (decide (b / G < 0))) (.slice A3 (dig b32 (b / G).natAbs).length c3)
 have k0 := tB.c0
 have k1 := tB.c1
 have k2 := tB.f0
 have k3 := tB.f1
 replace tA := kp.two _ _ _ (Ne.symm hneB.out) tA
 replace tR := kf _ _ _ _ _ hneRB.out tR
 replace rn := kp.zc _ _ _ rn
 replace rd := kp.zc _ _ _ rd
 replace HB := Hd (kp.bel _ _ HB.out (Nat.le_succ _))
 clear tB hB kp kf
 have tB := u
 have k4 := tB.c0
 have k5 := tB.c1
 go_wp2_with fail
 clear k0 k1 k2 k3 k4 k5 eV u
 refine (isOne_v (rd.zs sd.out) hd1.out).mono ?_
 rintro e V11 ⟨rfl, bb⟩
 replace rn := rn.to bb
 replace rd := rd.to bb
 replace tA := tA.to bb
 replace tB := tB.to bb
 replace tR := tR.to bb
 replace HB := hx HB bb
 clear bb
 have RN := Hd rn
 have RD := Hd rd
 clear rn rd
 obtain ⟨V12, eV, u, kp⟩ := pack4 tR Fq.nil (.bool (decide (a / G < 0))) (.slice A1 (dig b32 (a / G).natAbs).length c1) (.bool false) (.slice none 0 0)
 have k0 := tA.c0
 have k1 := tA.c1
 obtain ⟨v0, v1, v2, v3, v4, v5, v6, v7, _⟩ := tR
 have EV := Hd eV
 have KP := Hd kp
 have U := Hd u
 clear eV kp u tA tB
 go_wp2
 rw [EV.out]
 refine bodyPost_ret (v := .agg #[.bool (decide (a / G < 0)), .slice A1 (dig b32 (a / G).natAbs).length c1, .bool false, .slice none 0 0]) (by simp [results, Tryz.f70, go_sem, U.out.c0, U.out.c1, U.out.c2, U.out.c3]) rfl ?_
 exact ⟨_, _, _, _, rfl, ⟨by rw [<- hn.out]; exact KP.out.zc _ _ _ RN.out, by rw [if_pos (by have h1 := hdd.out; have h2 := of_decide_eq_true hd1.out; omega)]; exact Zc.zero V12⟩, KP.out.bel _ _ HB.out (by omega)⟩
theorem quot_p0 {w : World} {x1 y1 x2 y2 : Value} {a b : Int} (ha : Zl w x1 y1 a) (hb : Zl w x2 y2 b) (hb0 : b ≠ 0) (hb1 : b ≠ 1) (sa : Sg a) (sb : Sg b) (hneg : 0 < b) (hone : (Rat.divInt a b).den ≠ 1) :
  Calls Tryz.prog 70 #[.agg #[x1, y1], .agg #[x2, y2]] w (QR w (Rat.divInt a b)) := by
 have hgn : Int.gcd a b ≠ 0 := fun h => hb0 (Int.gcd_eq_zero_iff.1 h).2
 have hgl := gcd_le a b hb0
 have hn := Hd (cmn_num a b hb0)
 have hdd := Hd (cmn_den a b hb0)
 have hc0 := Hd (cmn_ne a b hb0)
 have sc : Hid (Sg (cmn a b)) := by
  show Sg _
  unfold Sg cmn at *
  split <;> omega
 have sg : Hid (Sg (Int.gcd a b : Nat)) := by
  show Sg _
  unfold Sg at *
  omega
 have sd := Hd (sb.den (a := a) hb0)
 rw [<- hdd.out] at sd
 have h1 : Hid (decide (b = 1) = false) := decide_eq_false hb1
 have hs : Hid (sgn b = 1) := by show _ = _; unfold sgn; rw [if_neg hb0, if_neg (by omega)]
 have hd1 : Hid (decide (b / cmn a b = 1) = false) := by
  show _ = _
  rw [hdd.out]
  exact decide_eq_false (by omega)
 have hcm : (Int.gcd a b : Int) = cmn a b := by unfold cmn; rw [if_neg (by omega)]
 obtain ⟨G, eG⟩ : ∃ G : Int, (Int.gcd a b : Int) = G := ⟨_, rfl⟩
 rw [eG] at sg hcm
 rw [<- hcm] at hn hdd hc0 sc sd hd1
 have EG := Hd eG
 clear eG hgn hgl hcm
 obtain ⟨W0, hW0⟩ : ∃ W0, W0 = ((w.alloc (.cells #[x1, y1] 24)).alloc (.cells #[x2, y2] 24)).alloc (.cells #[.bool false, .slice none 0 0, .bool false, .slice none 0 0] 26) := ⟨_, rfl⟩
 have hbw : Below w.heap.size w W0 := by rw [hW0]; exact (((Below.refl _ _).alloc (Nat.le_refl _) _).alloc (by simp) _).alloc (by simp; omega) _
 have tA : Two W0 w.heap.size x1 y1 := by rw [hW0]; exact ((Two.new w _ _ _).alloc _).alloc _
 have tB : Two W0 (w.heap.size + 1) x2 y2 := by
  have h := Two.new (w.alloc (.cells #[x1, y1] 24)) x2 y2 24
  rw [World.size_alloc] at h
  rw [hW0]; exact h.alloc _
 have tR : Four W0 (w.heap.size + 1 + 1) (.bool false) (.slice none 0 0) (.bool false) (.slice none 0 0) := by
  have h := Four.new ((w.alloc (.cells #[x1, y1] 24)).alloc (.cells #[x2, y2] 24)) (.bool false) (.slice none 0 0) (.bool false) (.slice none 0 0) 26
  rw [World.size_alloc, World.size_alloc] at h
  rw [hW0]; exact h
 have HW0 := Hd hW0
 have hA := ha.to hbw
 have hB := hb.to hbw
 have HB := Hd hbw
 have hneB : Hid (w.heap.size + 1 ≠ w.heap.size) := by show _ ≠ _; omega
 have hneR : Hid (w.heap.size + 1 + 1 ≠ w.heap.size) := by show _ ≠ _; omega
 have hneRB : Hid (w.heap.size + 1 + 1 ≠ w.heap.size + 1) := by show _ ≠ _; omega
 replace sa := Hd sa
 replace sb := Hd sb
 clear ha hb hb0 hb1 hneg hone hW0 hbw
 go_enter Tryz.func70, Tryz.ntmps70
 go_wp2_with fail
 rw [<- HW0.out]
 have k0 := tB.c0
 have k1 := tB.c1
 go_wp2_with fail
 refine (isOne_v hB h1.out).mono ?_
 rintro e V1 ⟨rfl, bb⟩
 clear k0 k1
 replace tA := tA.to bb
 replace tB := tB.to bb
 replace tR := tR.to bb
 replace hA := hA.to bb
 replace hB := hB.to bb
 replace HB := hx HB bb
 clear bb
 have k0 := tA.c0
 have k1 := tA.c1
 have k2 := tB.c0
 have k3 := tB.c1
 go_wp2_with fail
 refine (gcd_v hA hB sa.out sb.out EG.out).mono ?_
 rintro e V2 ⟨xg, yg, rfl, rg, bb⟩
 clear k0 k1 k2 k3
 replace tA := tA.to bb
 replace tB := tB.to bb
 replace tR := tR.to bb
 replace hA := hA.to bb
 replace hB := hB.to bb
 replace HB := hx HB bb
 clear bb
 have hg5w : Hid (w.heap.size <= V2.heap.size) := HB.out.size
 have rg2 := rg
 obtain ⟨Ag, cg, rfl, rfl, -⟩ := rg2
 have bb := one4_new V2 (.cells #[.bool (decide (G < 0)), .slice Ag (dig b32 G.natAbs).length cg] 24)
 have t5 := Two.new V2 (.bool (decide (G < 0))) (.slice Ag (dig b32 G.natAbs).length cg) 24
 replace rg := rg.to bb
 have hne5A := Nat.ne_of_lt tA.lt
 have hne5B := Nat.ne_of_lt tB.lt
 have hne5R := Nat.ne_of_lt tR.lt
 replace tA := tA.to bb
 replace tB := tB.to bb
 replace tR := tR.to bb
 replace hA := hA.to bb
 replace hB := hB.to bb
 replace HB := hx HB bb
 clear bb
 have k0 := tB.c0
 have k1 := tB.c1
 go_wp2_with fail
 obtain ⟨V3, hV3⟩ : ∃ V, V = V2.alloc (.cells #[.bool (decide (G < 0)), .slice Ag (dig b32 G.natAbs).length cg] 24) := ⟨_, rfl⟩
 obtain ⟨g5, hg5⟩ : ∃ g, g = V2.heap.size := ⟨_, rfl⟩
 rw [<- hV3, <- hg5]
 rw [<- hV3] at rg tA tB tR hA hB HB
 rw [<- hV3, <- hg5] at t5
 rw [<- hg5] at hne5A hne5B hne5R hg5w
 clear k0 k1
 clear hV3 hg5
 refine (sign_v hB hs.out).mono ?_
 rintro e V4 ⟨rfl, bb⟩
 replace rg := rg.to bb
 replace tA := tA.to bb
 replace tB := tB.to bb
 replace t5 := t5.to bb
 replace tR := tR.to bb
 replace hA := hA.to bb
 replace hB := hB.to bb
 replace HB := hx HB bb
 clear bb
 have rc := rg
 clear rg
 have k4 := tA.c0
 have k5 := tA.c1
 have k6 := t5.c0
 have k7 := t5.c1
 go_wp2_with fail
 clear k4 k5 k6 k7
 refine (dm_z hA (rc.zs sc.out) hc0.out sa.out).mono ?_
 rintro e V7 ⟨A1, c1, A2, c2, rfl, r1, r2, l1, m1, l2, m2, bb⟩
 replace rc := rc.to bb
 replace tA := tA.to bb
 replace tB := tB.to bb
 replace t5 := t5.to bb
 replace tR := tR.to bb
 replace hA := hA.to bb
 replace hB := hB.to bb
 replace HB := hx HB bb
 clear bb r2 l2 m2
 have rn : Zc V7 (.bool (decide (a / G < 0))) (.slice A1 (dig b32 (a / G).natAbs).length c1) (a / G) := ⟨A1, c1, rfl, rfl, r1, l1, m1⟩
 clear r1 l1 m1
 obtain ⟨V8, eV, u, kp, kf⟩ := pack2 tA hA.fs (.bool (decide (a / G < 0))) (.slice A1 (dig b32 (a / G).natAbs).length c1)
 have k0 := tA.c0
 have k1 := tA.c1
 have k2 := tA.f0
 have k3 := tA.f1
 replace tB := kp.two _ _ _ hneB.out tB
 replace t5 := kp.two _ _ _ (Ne.symm hne5A) t5
 replace tR := kf _ _ _ _ _ hneR.out tR
 replace hB := kp.zl hB
 replace rc := kp.zc _ _ _ rc
 replace rn := kp.zc _ _ _ rn
 replace HB := Hd (kp.bel _ _ HB.out (Nat.le_refl _))
 clear tA hA kp kf
 have tA := u
 have k4 := tB.c0
 have k5 := tB.c1
 have k6 := t5.c0
 have k7 := t5.c1
 go_wp2_with fail
 clear k0 k1 k2 k3 k4 k5 k6 k7 eV u
 refine (dm_z hB (rc.zs sc.out) hc0.out sb.out).mono ?_
 rintro e V9 ⟨A3, c3, A4, c4, rfl, r1, r2, l1, m1, l2, m2, bb⟩
 replace rn := rn.to bb
 replace tA := tA.to bb
 replace tB := tB.to bb
 replace tR := tR.to bb
 replace hB := hB.to bb
 replace HB := hx HB bb
 clear bb r2 l2 m2 rc t5
 have rd : Zc V9 (.bool (decide (b / G < 0))) (.slice A3 (dig b32 (b / G).natAbs).length c3) (b / G) := ⟨A3, c3, rfl, rfl, r1, l1, m1⟩
 clear r1 l1 m1
 obtain ⟨V10, eV, u, kp, kf⟩ := pack2 tB hB.fs (.bool (decide (b / G < 0))) (.slice A3 (dig b32 (b / G).natAbs).length c3)
 have k0 := tB.c0
 have k1 := tB.c1
 have k2 := tB.f0
 have k3 := tB.f1
 replace tA := kp.two _ _ _ (Ne.symm hneB.out) tA
 replace tR := kf _ _ _ _ _ hneRB.out tR
 replace rn := kp.zc _ _ _ rn
 replace rd := kp.zc _ _ _ rd
 replace HB := Hd (kp.bel _ _ HB.out (Nat.le_succ _))
 clear tB hB kp kf
 have tB := u
 have k4 := tB.c0
 have k5 := tB.c1
 go_wp2_with fail
 clear k0 k1 k2 k3 k4 k5 eV u
 refine (isOne_v (rd.zs sd.out) hd1.out).mono ?_
 rintro e V11 ⟨rfl, bb⟩
 replace rn := rn.to bb
 replace rd := rd.to bb
 replace tA := tA.to bb
 replace tB := tB.to bb
 replace tR := tR.to bb
 replace HB := hx HB bb
 clear bb
 have RN := Hd rn
 have RD := Hd rd
 clear rn rd
 obtain ⟨V12, eV, u, kp⟩ := pack4 tR Fq.nil (.bool (decide (a / G < 0))) (.slice A1 (dig b32 (a / G).natAbs).length c1) (.bool (decide (b / G < 0))) (.slice A3 (dig b32 (b / G).natAbs).length c3)
 have k0 := tA.c0
 have k1 := tA.c1
 have k2 := tB.c0
 have k3 := tB.c1
 obtain ⟨v0, v1, v2, v3, v4, v5, v6, v7, _⟩ := tR
 have EV := Hd eV
 have KP := Hd kp
 have U := Hd u
 clear eV kp u tA tB
 go_wp2
 rw [EV.out]
 refine bodyPost_ret (v := .agg #[.bool (decide (a / G < 0)), .slice A1 (dig b32 (a / G).natAbs).length c1, .bool (decide (b / G < 0)), .slice A3 (dig b32 (b / G).natAbs).length c3]) (by simp [results, Tryz.f70, go_sem, U.out.c0, U.out.c1, U.out.c2, U.out.c3]) rfl ?_
 exact ⟨_, _, _, _, rfl, ⟨by rw [<- hn.out]; exact KP.out.zc _ _ _ RN.out, by rw [if_neg (by have h1 := hdd.out; have h2 := of_decide_eq_false hd1.out; omega), <- hdd.out]; exact KP.out.zc _ _ _ RD.out⟩, KP.out.bel _ _ HB.out (by omega)⟩
theorem Qc.fq {W : World} {a b c d : Value} {r : Rat} (h : Qc W a b c d r) : Fq a b c d := ⟨h.1.fs, h.2.fs⟩
theorem Qc.k4 {g : Nat} {w V : World} {a b c d : Value} {r : Rat} (h : Qc w a b c d r) (kp : Kept4 g w V) : Qc V a b c d r := ⟨kp.zc _ _ _ h.1, kp.zc _ _ _ h.2⟩
theorem quot_one {w : World} {x1 y1 x2 y2 : Value} {a b : Int} (ha : Zl w x1 y1 a) (hb : Zl w x2 y2 b) (hb1 : b = 1) :
  Calls Tryz.prog 70 #[.agg #[x1, y1], .agg #[x2, y2]] w (QR w (Rat.divInt a b)) := by
 have h1 : Hid (decide (b = 1) = true) := decide_eq_true hb1
 rw [hb1, divInt_one]
 obtain ⟨W0, hW0⟩ : ∃ W0, W0 = ((w.alloc (.cells #[x1, y1] 24)).alloc (.cells #[x2, y2] 24)).alloc (.cells #[.bool false, .slice none 0 0, .bool false, .slice none 0 0] 26) := ⟨_, rfl⟩
 have hbw : Below w.heap.size w W0 := by rw [hW0]; exact (((Below.refl _ _).alloc (Nat.le_refl _) _).alloc (by simp) _).alloc (by simp; omega) _
 have tA : Two W0 w.heap.size x1 y1 := by rw [hW0]; exact ((Two.new w _ _ _).alloc _).alloc _
 have tB : Two W0 (w.heap.size + 1) x2 y2 := by
  have h := Two.new (w.alloc (.cells #[x1, y1] 24)) x2 y2 24
  rw [World.size_alloc] at h
  rw [hW0]; exact h.alloc _
 have tR : Four W0 (w.heap.size + 1 + 1) (.bool false) (.slice none 0 0) (.bool false) (.slice none 0 0) := by
  have h := Four.new ((w.alloc (.cells #[x1, y1] 24)).alloc (.cells #[x2, y2] 24)) (.bool false) (.slice none 0 0) (.bool false) (.slice none 0 0) 26
  rw [World.size_alloc, World.size_alloc] at h
  rw [hW0]; exact h
 have HW0 := Hd hW0
 have hA := ha.to hbw
 have hB := hb.to hbw
 have HB := Hd hbw
 clear ha hb hb1 hW0 hbw
 go_enter Tryz.func70, Tryz.ntmps70
 go_wp2_with fail
 rw [<- HW0.out]
 have k0 := tB.c0
 have k1 := tB.c1
 go_wp2_with fail
 refine (isOne_v hB h1.out).mono ?_
 rintro e V1 ⟨rfl, bb⟩
 replace tA := tA.to bb
 replace tR := tR.to bb
 replace hA := hA.to bb
 replace HB := hx HB bb
 clear k0 k1 bb tB hB
 have k0 := tA.c0
 have k1 := tA.c1
 go_wp2_with fail
 refine (fromInteger_z hA.zi).mono ?_
 rintro e V2 ⟨a1, b1, c1, d1, rfl, rq, bb⟩
 replace tR := tR.to bb
 replace HB := hx HB bb
 clear k0 k1 bb tA hA
 have RQ := Hd rq
 obtain ⟨V3, eV, u, kp⟩ := pack4 tR Fq.nil a1 b1 c1 d1
 obtain ⟨⟨n1, A1, l1, m1, rfl, rfl⟩, ⟨n2, A2, l2, m2, rfl, rfl⟩⟩ := rq.fq
 obtain ⟨v0, v1, v2, v3, v4, v5, v6, v7, _⟩ := tR
 have EV := Hd eV
 have KP := Hd kp
 have U := Hd u
 clear eV kp u rq
 go_wp2
 rw [EV.out]
 refine bodyPost_ret (v := .agg #[.bool n1, .slice A1 l1 m1, .bool n2, .slice A2 l2 m2]) (by simp [results, Tryz.f70, go_sem, U.out.c0, U.out.c1, U.out.c2, U.out.c3]) rfl ?_
 exact ⟨_, _, _, _, rfl, RQ.out.k4 KP.out, KP.out.bel _ _ HB.out (by omega)⟩
theorem quotient_z {w : World} {x1 y1 x2 y2 : Value} {a b : Int} (ha : Zl w x1 y1 a) (hb : Zl w x2 y2 b) (hb0 : b ≠ 0) (sa : Sg a) (sb : Sg b) :
  Calls Tryz.prog 70 #[.agg #[x1, y1], .agg #[x2, y2]] w (QR w (Rat.divInt a b)) := by
 by_cases h1 : b = 1
 .exact quot_one ha hb h1
 .rcases Int.lt_or_le b 0 with hn | hp
  .by_cases hd : (Rat.divInt a b).den = 1
   .exact quot_n1 ha hb hb0 h1 sa sb hn hd
   .exact quot_n0 ha hb hb0 h1 sa sb hn hd
  .by_cases hd : (Rat.divInt a b).den = 1
   .exact quot_p1 ha hb hb0 h1 sa sb (by omega) hd
   .exact quot_p0 ha hb hb0 h1 sa sb (by omega) hd
theorem Sg.i64 {v : Int} (h1 : -9223372036854775808 <= v) (h2 : v <= 9223372036854775807) : Sg v := sg_lit (by omega)
def rv (p q : Int) : Rat := if q = 0 then (p : Rat) else Rat.divInt p q
theorem sgn_zero {q : Int} : sgn q = 0 ↔ q = 0 := by unfold sgn; split <;> (try split) <;> simp_all
theorem sgn_neg {q : Int} (h : q < 0) : sgn q = -1 := by unfold sgn; rw [if_neg (by omega), if_pos h]
theorem sgn_pos {q : Int} (h : 0 < q) : sgn q = 1 := by unfold sgn; rw [if_neg (by omega), if_neg (by omega)]
theorem canonical_z {w : World} {x1 y1 x2 y2 : Value} {p q : Int} (h1 : Zl w x1 y1 p) (h2 : Zl w x2 y2 q) (sp : Sg p) (sq : Sg q) :
  Calls Tryz.prog 53 #[.agg #[x1, y1, x2, y2]] w (QR w (rv p q)) := by
 obtain ⟨W0, hW0⟩ : ∃ W0, W0 = (w.alloc (.cells #[x1, y1, x2, y2] 26)).alloc (.cells #[.bool false, .slice none 0 0, .bool false, .slice none 0 0] 26) := ⟨_, rfl⟩
 have hbw : Below w.heap.size w W0 := by rw [hW0]; exact ((Below.refl _ _).alloc (Nat.le_refl _) _).alloc (by simp) _
 have tA : Four W0 w.heap.size x1 y1 x2 y2 := by rw [hW0]; exact (Four.new w _ _ _ _ _).alloc _
 have tR : Four W0 (w.heap.size + 1) (.bool false) (.slice none 0 0) (.bool false) (.slice none 0 0) := by
  have h := Four.new (w.alloc (.cells #[x1, y1, x2, y2] 26)) (.bool false) (.slice none 0 0) (.bool false) (.slice none 0 0) 26
  rw [World.size_alloc] at h
  rw [hW0]; exact h
 have HW0 := Hd hW0
 have hA := h1.to hbw
 have hB := h2.to hbw
 have HB := Hd hbw
 have HSP := Hd sp
 have HSQ := Hd sq
 clear h1 h2 hW0 hbw sp sq
 by_cases hq : q = 0
 .have HR : Hid (rv p q = (p : Rat)) := by show _ = _; unfold rv; rw [if_pos hq]
  rw [HR.out]
  have hs : Hid (sgn q = 0) := sgn_zero.2 hq
  clear hq
  go_enter Tryz.func53, Tryz.ntmps53
  go_wp2_with fail
  rw [<- HW0.out]
  have k0 := tA.c0
  have k1 := tA.c1
  have k2 := tA.c2
  have k3 := tA.c3
  go_wp2_with fail
  refine (sign_v hB hs.out).mono ?_
  rintro e V1 ⟨rfl, bb⟩
  replace tA := tA.to bb
  replace tR := tR.to bb
  replace hA := hA.to bb
  replace HB := hx HB bb
  clear k0 k1 k2 k3 bb hB
  have k0 := tA.c0
  have k1 := tA.c1
  go_wp2_with fail
  refine (fromInteger_z hA.zi).mono ?_
  rintro e V2 ⟨a1, b1, c1, d1, rfl, rq, bb⟩
  replace tR := tR.to bb
  replace HB := hx HB bb
  clear k0 k1 bb tA hA
  have RQ := Hd rq
  obtain ⟨V3, eV, u, kp⟩ := pack4 tR Fq.nil a1 b1 c1 d1
  obtain ⟨⟨n1, A1, l1, m1, rfl, rfl⟩, ⟨n2, A2, l2, m2, rfl, rfl⟩⟩ := rq.fq
  obtain ⟨v0, v1, v2, v3, v4, v5, v6, v7, _⟩ := tR
  have EV := Hd eV
  have KP := Hd kp
  have U := Hd u
  clear eV kp u rq
  go_wp2
  rw [EV.out]
  refine bodyPost_ret (v := .agg #[.bool n1, .slice A1 l1 m1, .bool n2, .slice A2 l2 m2]) (by simp [results, Tryz.f53, go_sem, U.out.c0, U.out.c1, U.out.c2, U.out.c3]) rfl ?_
  exact ⟨_, _, _, _, rfl, RQ.out.k4 KP.out, KP.out.bel _ _ HB.out (by omega)⟩
 .have HR : Hid (rv p q = Rat.divInt p q) := by show _ = _; unfold rv; rw [if_neg hq]
  rw [HR.out]
  have hs : (sgn q == 0) = false := by simpa using fun h => hq (sgn_zero.1 h)
  obtain ⟨s, es⟩ : ∃ s, sgn q = s := ⟨_, rfl⟩
  rw [es] at hs
  have ES := Hd es
  have HQ := Hd hq
  clear es hq
  go_enter Tryz.func53, Tryz.ntmps53
  go_wp2_with fail
  rw [<- HW0.out]
  have k0 := tA.c0
  have k1 := tA.c1
  have k2 := tA.c2
  have k3 := tA.c3
  go_wp2_with fail
  refine (sign_v hB ES.out).mono ?_
  rintro e V1 ⟨rfl, bb⟩
  replace tA := tA.to bb
  replace tR := tR.to bb
  replace hA := hA.to bb
  replace hB := hB.to bb
  replace HB := hx HB bb
  clear k0 k1 k2 k3 bb
  have k0 := tA.c0
  have k1 := tA.c1
  have k2 := tA.c2
  have k3 := tA.c3
  go_wp2_with fail
  refine (quotient_z hA hB HQ.out HSP.out HSQ.out).mono ?_
  rintro e V2 ⟨a1, b1, c1, d1, rfl, rq, bb⟩
  replace tR := tR.to bb
  replace HB := hx HB bb
  clear k0 k1 k2 k3 bb tA hA hB
  have RQ := Hd rq
  obtain ⟨V3, eV, u, kp⟩ := pack4 tR Fq.nil a1 b1 c1 d1
  obtain ⟨⟨n1, A1, l1, m1, rfl, rfl⟩, ⟨n2, A2, l2, m2, rfl, rfl⟩⟩ := rq.fq
  obtain ⟨v0, v1, v2, v3, v4, v5, v6, v7, _⟩ := tR
  have EV := Hd eV
  have KP := Hd kp
  have U := Hd u
  clear eV kp u rq
  go_wp2
  rw [EV.out]
  refine bodyPost_ret (v := .agg #[.bool n1, .slice A1 l1 m1, .bool n2, .slice A2 l2 m2]) (by simp [results, Tryz.f53, go_sem, U.out.c0, U.out.c1, U.out.c2, U.out.c3]) rfl ?_
  exact ⟨_, _, _, _, rfl, RQ.out.k4 KP.out, KP.out.bel _ _ HB.out (by omega)⟩
end Go.Proofs.YtcgdbdhhoomgiaaGreat
