/- Parts: Z, Step, RefOps1, RefOps2, Least. -/
import Derived.Test.YtlnjnoingiohjaaMa4
import Derived.Test.YtlnjnoingiohjaaMa5
import Derived.Test.YtlnjnoingiohjaaMa7
import Derived.Test.YtlnjnoingiohjaaMa8
set_option linter.unusedVariables false

namespace Go.Proofs.Ytlnjnoingiohjaa
open Go.RowKit Go.Shelf

/-- Two cells that are an integer, in whatever form. -/
def Zi (W : World) (x y : Value) (z : Int) : Prop := ∃ n A c xs, x = .bool n ∧ y = .slice A xs.length c ∧ Arg W A c xs ∧ zof n (val b32 xs) = z

/-- Two cells that are an integer in canonical form. -/
def Zc (W : World) (x y : Value) (z : Int) : Prop := ∃ A c, x = .bool (decide (z < 0)) ∧ y = .slice A (dig b32 z.natAbs).length c ∧ Rd .u32 W W.heap.size A (dig b32 z.natAbs) ∧ (dig b32 z.natAbs).length ≤ c ∧ c ≤ 9223372036854775807

/-- An integer of at most k words. -/
def Sm (k : Nat) (z : Int) : Prop := z.natAbs < b32 ^ k

theorem Zi.to {W V : World} {x y : Value} {z : Int} (h : Zi W x y z) (hb : Below W.heap.size W V) : Zi V x y z := by
  obtain ⟨n, A, c, xs, h1, h2, h3, h4⟩ := h
  exact ⟨n, A, c, xs, h1, h2, h3.to hb, h4⟩
theorem Zc.to {W V : World} {x y : Value} {z : Int} (h : Zc W x y z) (hb : Below W.heap.size W V) : Zc V x y z := by
  obtain ⟨A, c, h1, h2, h3, h4, h5⟩ := h
  exact ⟨A, c, h1, h2, h3.to hb, h4, h5⟩

theorem Sm.add {k : Nat} {a b : Int} (ha : Sm k a) (hb : Sm k b) : Sm (k + 1) (a + b) := by
  unfold Sm at *
  rw [Nat.pow_succ]
  have : b32 ^ k * 2 ≤ b32 ^ k * b32 := Nat.mul_le_mul_left _ (by decide)
  omega
theorem Sm.sub {k : Nat} {a b : Int} (ha : Sm k a) (hb : Sm k b) : Sm (k + 1) (a - b) := by
  unfold Sm at *
  rw [Nat.pow_succ]
  have : b32 ^ k * 2 ≤ b32 ^ k * b32 := Nat.mul_le_mul_left _ (by decide)
  omega
theorem Sm.mono {k l : Nat} {a : Int} (ha : Sm k a) (h : k ≤ l) : Sm l a := Nat.lt_of_lt_of_le ha (Nat.pow_le_pow_right (by decide) h)
theorem Sm.mul {k l : Nat} {a b : Int} (ha : Sm k a) (hb : Sm l b) : Sm (k + l) (a * b) := by
  unfold Sm at *
  rw [Int.natAbs_mul, Nat.pow_add]
  exact Nat.mul_lt_mul'' ha hb
theorem Sm.abs {k : Nat} {a : Int} (ha : Sm k a) : Sm k (a.natAbs : Int) := by unfold Sm at *; rwa [Int.natAbs_natCast]
theorem Sm.neg {k : Nat} {a : Int} (ha : Sm k a) : Sm k (-a) := by unfold Sm at *; rwa [Int.natAbs_neg]
theorem Sm.zof {k : Nat} {n : Bool} {xs : List Nat} (h : Dg b32 xs) (hl : xs.length ≤ k) : Sm k (zof n (val b32 xs)) := by
  unfold Sm
  rw [zof_abs]
  exact Nat.lt_of_lt_of_le (val_lt h) (Nat.pow_le_pow_right (by decide) hl)

theorem zof_dec (z : Int) : zof (decide (z < 0)) z.natAbs = z := by
  by_cases h : z < 0 <;> simp [h, Go.Proofs.Ytlnjnoingiohjaa.zof] <;> omega

theorem Zc.zi {W : World} {x y : Value} {z : Int} {k : Nat} (h : Zc W x y z) (hs : Sm k z) (hk : k ≤ 4294967295) : Zi W x y z := by
  obtain ⟨A, c, h1, h2, h3, h4, h5⟩ := h
  exact ⟨_, A, c, _, h1, h2, ⟨h3, Dg_dig b32_one _, h4, h5, Nat.le_trans (dig_length_le b32_one hs) hk⟩, by rw [val_dig b32_one]; exact zof_dec z⟩

/-- A call hands back z, in canonical form. -/
def ZR (w : World) (z : Int) (e : Ending) (w' : World) : Prop := ∃ x y, e = .returned (.agg #[x, y]) ∧ Zc w' x y z ∧ Below w.heap.size w w'

theorem ZRet.zr {w w' : World} {z : Int} {e : Ending} (h : ZRet w z e w') : ZR w z e w' := by
  obtain ⟨A, c, rfl, h1, h2, h3, h4⟩ := h
  exact ⟨_, _, rfl, ⟨A, c, rfl, rfl, h1, h2, h3⟩, h4⟩

variable {w : World} {x y x' y' : Value} {a b : Int}

theorem add_z (ha : Zi w x y a) (hb : Zi w x' y' b) : Calls Try.prog 19 #[.agg #[x, y], .agg #[x', y']] w (ZR w (a + b)) := by
  obtain ⟨n, A, c, xs, rfl, rfl, h3, rfl⟩ := ha
  obtain ⟨m, B, d, ys, rfl, rfl, k3, rfl⟩ := hb
  exact (add_any n m h3 k3).mono fun _ _ h => h.zr

theorem sub_z (ha : Zi w x y a) (hb : Zi w x' y' b) : Calls Try.prog 21 #[.agg #[x, y], .agg #[x', y']] w (ZR w (a - b)) := by
  obtain ⟨n, A, c, xs, rfl, rfl, h3, rfl⟩ := ha
  obtain ⟨m, B, d, ys, rfl, rfl, k3, rfl⟩ := hb
  exact (sub_any n m h3 k3).mono fun _ _ h => h.zr

theorem zof_mul (n m : Bool) (a b : Nat) : zof (!(n == m)) (a * b) = zof n a * zof m b := by
  cases n <;> cases m <;> simp [zof, Int.neg_mul, Int.mul_neg]

theorem mul_z (ha : Zi w x y a) (hb : Zi w x' y' b) : Calls Try.prog 23 #[.agg #[x, y], .agg #[x', y']] w (ZR w (a * b)) := by
  obtain ⟨n, A, c, xs, rfl, rfl, h3, rfl⟩ := ha
  obtain ⟨m, B, d, ys, rfl, rfl, k3, rfl⟩ := hb
  have h := mul_any n m h3 k3
  rw [zof_mul] at h
  exact h.mono fun _ _ h => h.zr

theorem neg_z (ha : Zi w x y a) : Calls Try.prog 25 #[.agg #[x, y]] w (ZR w (-a)) := by
  obtain ⟨n, A, c, xs, rfl, rfl, h3, rfl⟩ := ha
  have h := neg_any n h3
  rw [zof_not] at h
  exact h.mono fun _ _ h => h.zr

theorem abs_z (ha : Zi w x y a) : Calls Try.prog 27 #[.agg #[x, y]] w (ZR w (a.natAbs : Int)) := by
  obtain ⟨n, A, c, xs, rfl, rfl, h3, rfl⟩ := ha
  rw [zof_abs]
  exact (abs_any n h3).mono fun _ _ h => h.zr

theorem sign_z (ha : Zi w x y a) : Calls Try.prog 29 #[.agg #[x, y]] w fun e w' => e = .returned (.int .i64 (sgn a)) ∧ Below w.heap.size w w' := by
  obtain ⟨n, A, c, xs, rfl, rfl, h3, rfl⟩ := ha
  exact sign_any n h3

theorem cmp_z (ha : Zi w x y a) (hb : Zi w x' y' b) : Calls Try.prog 31 #[.agg #[x, y], .agg #[x', y']] w fun e w' => e = .returned (.int .i64 (cmpZ a b)) ∧ Below w.heap.size w w' := by
  obtain ⟨n, A, c, xs, rfl, rfl, h3, rfl⟩ := ha
  obtain ⟨m, B, d, ys, rfl, rfl, k3, rfl⟩ := hb
  exact cmp_any n m h3 k3

theorem dig_last {b n : Nat} (hb : 1 < b) (h : (dig b n).length ≠ 0) : (dig b n).getD ((dig b n).length - 1) 0 ≠ 0 := by
  have h1 := trimN_of_dig hb n
  intro h0
  obtain ⟨ys, d, hd⟩ : ∃ ys d, dig b n = ys ++ [d] := by
    rcases List.eq_nil_or_concat (dig b n) with h2 | ⟨ys, d, h2⟩
    · rw [h2] at h; exact absurd rfl h
    · exact ⟨ys, d, by simpa using h2⟩
  rw [hd] at h0 h1
  simp at h0
  subst h0
  rw [trimN_snoc_zero] at h1
  have := trimN_le ys
  simp at h1
  omega

theorem canon_dig (z : Int) : canon (decide (z < 0)) (dig b32 z.natAbs) = true := by
  unfold canon
  split
  · rename_i h
    have h1 : z.natAbs = 0 := (dig_nil b32_one).1 (List.eq_nil_of_length_eq_zero h)
    have h2 : z = 0 := by omega
    subst h2; rfl
  · rename_i h
    exact decide_eq_true (dig_last b32_one h)

theorem isCan_c {k : Nat} (ha : Zc w x y a) (hs : Sm k a) (hk : k ≤ 4294967295) : Calls Try.prog 17 #[.agg #[x, y]] w fun e w' => e = .returned (.bool true) ∧ Below w.heap.size w w' := by
  obtain ⟨A, c, rfl, rfl, h3, h4, h5⟩ := ha
  have h := isCanonical_any (decide (a < 0)) (⟨h3, Dg_dig b32_one _, h4, h5, Nat.le_trans (dig_length_le b32_one hs) hk⟩ : Arg w A c (dig b32 a.natAbs))
  rw [canon_dig] at h
  exact h

theorem zof_inj_dec {a b : Int} (h1 : decide (a < 0) = decide (b < 0)) (h2 : dig b32 a.natAbs = dig b32 b.natAbs) : a = b := by
  have h3 := dig_inj b32_one h2
  by_cases ha : a < 0 <;> by_cases hb : b < 0 <;> simp [ha, hb] at h1 <;> omega

theorem same_c (ha : Zc w x y a) (hb : Zc w x' y' b) : Calls Try.prog 14 #[.agg #[x, y], .agg #[x', y']] w fun e w' => e = .returned (.bool (decide (a = b))) ∧ Below w.heap.size w w' := by
  obtain ⟨A, c, rfl, rfl, h3, h4, h5⟩ := ha
  obtain ⟨A', c', rfl, rfl, k3, k4, k5⟩ := hb
  have h := same_any (decide (a < 0)) (decide (b < 0)) h3 k3 h4 h5 k4 k5
  rw [show decide (decide (a < 0) = decide (b < 0) ∧ dig b32 a.natAbs = dig b32 b.natAbs) = decide (a = b) from by
    rw [decide_eq_decide]
    exact ⟨fun h => zof_inj_dec h.1 h.2, fun h => by rw [h]; exact ⟨rfl, rfl⟩⟩] at h
  exact h

theorem same_t (ha : Zc w x y a) (hb : Zc w x' y' b) (h : a = b) : Calls Try.prog 14 #[.agg #[x, y], .agg #[x', y']] w fun e w' => e = .returned (.bool true) ∧ Below w.heap.size w w' := by
  have h1 := same_c ha hb
  rw [decide_eq_true h] at h1
  exact h1

/-- A load of an integer's two cells. -/
theorem load_two {W : World} {g t : Nat} {u v : Value} {ac : Act} {d : Option Tmp} {ty : TypeId} {pos : String} {after : Array Edge} {guard : Option (Nat × Bool)} (ht : ac.eval (.tmp t) = .pointer (some ⟨g, 0, none⟩)) (h : Two W g u v) :
    (execOp ac.eval ⟨d, .load 24 (.tmp t), ty, pos, after, guard⟩).run Try.prog W = .ok (.value (.agg #[u, v])) W := by
  have h0 := h.c0
  have h1 := h.c1
  simp only [execOp, ht]
  go_simp
end Go.Proofs.Ytlnjnoingiohjaa

namespace Go.Proofs.Ytlnjnoingiohjaa
open Go.RowKit Go.Shelf

/-- A variable that holds an integer in whatever form. -/
structure Zb (W : World) (g : Nat) (x y : Value) (z : Int) : Prop where
  two : Two W g x y
  zi : Zi W x y z
/-- A variable that holds an integer in canonical form. -/
structure Cb (W : World) (g : Nat) (x y : Value) (z : Int) : Prop where
  two : Two W g x y
  zc : Zc W x y z

theorem Zb.to {W V : World} {g : Nat} {x y : Value} {z : Int} (h : Zb W g x y z) (hb : Below W.heap.size W V) : Zb V g x y z := ⟨h.two.to hb, h.zi.to hb⟩
theorem Cb.to {W V : World} {g : Nat} {x y : Value} {z : Int} (h : Cb W g x y z) (hb : Below W.heap.size W V) : Cb V g x y z := ⟨h.two.to hb, h.zc.to hb⟩

/-- What a store into a variable that holds no number leaves as it was. -/
structure Kept (g : Nat) (w V : World) : Prop where
  two : ∀ g' u v, g' ≠ g → Two w g' u v → Two V g' u v
  zc : ∀ x y z, Zc w x y z → Zc V x y z
  zi : ∀ x y z, Zi w x y z → Zi V x y z
  bel : ∀ B w0, Below B w0 w → B ≤ g → Below B w0 V
  size : V.heap.size = w.heap.size

theorem Rd.set2' {kd : IntKind} {w : World} {B g : Nat} {A : Option Addr} {xs : List Nat} {x y : Value} (t : Two w g x y) (hx : ∀ n : Int, x ≠ .int kd n) (hy : ∀ n : Int, y ≠ .int kd n) (h : Rd kd w B A xs) (a b : Value) : Rd kd ((w.setCell ⟨g, 0, none⟩ a).setCell ⟨g, 1, none⟩ b) B A xs := by
  have h1 : (w.setCell ⟨g, 0, none⟩ a).cell? ⟨g, 1, none⟩ = some y := (World.cell?_setCell_other _ _ _ _ (by simp)).trans t.c1
  exact (h.set t.c0 hx a).set h1 hy b

theorem Kept.of {w : World} {g : Nat} {x y : Value} (t : Two w g x y) (hx : ∀ n : Int, x ≠ .int .u32 n) (hy : ∀ n : Int, y ≠ .int .u32 n) (a b : Value) : Kept g w ((w.setCell ⟨g, 0, none⟩ a).setCell ⟨g, 1, none⟩ b) := by
  have hsz : ((w.setCell ⟨g, 0, none⟩ a).setCell ⟨g, 1, none⟩ b).heap.size = w.heap.size := by simp [World.setCell]
  refine ⟨fun g' u v hne t' => t'.far hne _ _, ?_, ?_, fun B w0 h hg => (h.setCell (p := ⟨g, 0, none⟩) hg _).setCell (p := ⟨g, 1, none⟩) hg _, hsz⟩
  · rintro x y z ⟨A, c, h1, h2, h3, h4, h5⟩
    exact ⟨A, c, h1, h2, (Rd.set2' t hx hy h3 _ _).more (by rw [hsz]; exact Nat.le_refl _), h4, h5⟩
  · rintro x y z ⟨n, A, c, xs, h1, h2, ⟨r1, r2, r3, r4, r5⟩, h4⟩
    exact ⟨n, A, c, xs, h1, h2, ⟨(Rd.set2' t hx hy r1 _ _).more (by rw [hsz]; exact Nat.le_refl _), r2, r3, r4, r5⟩, h4⟩

/-- A flag and a slice. -/
def Fs (x y : Value) : Prop := ∃ n A k c, x = .bool n ∧ y = .slice A k c
theorem Zc.fs {w : World} {x y : Value} {z : Int} (h : Zc w x y z) : Fs x y := by
  obtain ⟨A, c, rfl, rfl, _⟩ := h
  exact ⟨_, _, _, _, rfl, rfl⟩
theorem Zi.fs {w : World} {x y : Value} {z : Int} (h : Zi w x y z) : Fs x y := by
  obtain ⟨n, A, c, xs, rfl, rfl, _⟩ := h
  exact ⟨_, _, _, _, rfl, rfl⟩
theorem Fs.nil : Fs (.bool false) (.slice none 0 0) := ⟨_, _, _, _, rfl, rfl⟩

theorem Zc.nint {w : World} {x y : Value} {z : Int} (h : Zc w x y z) : (∀ n : Int, x ≠ .int .u32 n) ∧ (∀ n : Int, y ≠ .int .u32 n) := by
  obtain ⟨A, c, rfl, rfl, _⟩ := h
  exact ⟨(fun n e => by cases e), (fun n e => by cases e)⟩

variable {ac : Act} {w : World} {K : Act → World → Prop} {Q : Exit → Act → World → Prop} {d : Option Tmp} {ty : TypeId} {pos : String} {after : Array Edge} {guard : Option (Nat × Bool)}

theorem wp_alloc_two (h : ∀ (g : Nat) (V : World), Two V g (.bool false) (.slice none 0 0) → Below w.heap.size w V → w.heap.size ≤ g → K (ac.put d (.pointer (some ⟨g, 0, none⟩))) V) :
    Oper.wp Try.prog ⟨d, .alloc 24, ty, pos, after, guard⟩ ac w K Q := by
  have h1 := h _ _ (Two.new w (.bool false) (.slice none 0 0) 24) ((Below.refl _ _).alloc (Nat.le_refl _) _) (Nat.le_refl _)
  go_simp
  exact h1

theorem wp_store_two {g : Nat} {x y x0 y0 : Value} {p v : Operand} (hp : ac.eval p = .pointer (some ⟨g, 0, none⟩)) (hv : ac.eval v = .agg #[x, y]) (t : Two w g x0 y0) (f0 : Fs x0 y0) (f1 : Fs x y)
    (h : ∀ V : World, Two V g x y → Kept g w V → K (ac.put d undef) V) :
    Oper.wp Try.prog ⟨d, .store 24 p v, ty, pos, after, guard⟩ ac w K Q := by
  obtain ⟨n0, A0, k0, c0, rfl, rfl⟩ := f0
  obtain ⟨n1, A1, k1, c1, rfl, rfl⟩ := f1
  have h1 := h _ (t.set _ _) (Kept.of t (fun n e => by cases e) (fun n e => by cases e) _ _)
  have u0 := t.c0
  have u1 := t.c1
  have v0 := t.f0
  have v1 := t.f1
  clear h t
  simp only [Oper.wp, execOp, hp, hv]
  go_simp
  exact h1
end Go.Proofs.Ytlnjnoingiohjaa

namespace Go.Proofs.Ytlnjnoingiohjaa
open Go.RowKit Go.Shelf

theorem Two.toB {W V : World} {g B : Nat} {a b : Value} (h : Two W g a b) (hb : Below B W V) (hg : g < B) : Two V g a b :=
  ⟨(hb.cell (p := ⟨g, 0, none⟩) hg).trans h.c0, (hb.cell (p := ⟨g, 1, none⟩) hg).trans h.c1, (hb.frozen (p := ⟨g, 0, none⟩) hg).trans h.f0, (hb.frozen (p := ⟨g, 1, none⟩) hg).trans h.f1, Nat.lt_of_lt_of_le h.lt hb.size⟩

theorem halves_r {A : Option Addr} {c : Nat} {xs : List Nat} {w : World} (hx : Arg w A c xs) : Calls Try.prog 46 #[.slice A xs.length c] w (HRet w (val b32 xs)) := halves_any hx

theorem of_r (neg : Bool) {A : Option Addr} {c n : Nat} {w : World} (hr : Hr w A c (dig b16 n)) : Calls Try.prog 49 #[.bool neg, .slice A (dig b16 n).length c] w (ZR w (zof neg n)) := by
  have h := of_any neg hr.rd hr.dg hr.le hr.cap (Nat.le_trans hr.small (by decide))
  rw [val_dig b16_one] at h
  exact h.mono fun _ _ h => h.zr

theorem mul_r {A A' : Option Addr} {c c' m n k l : Nat} {w : World} (hx : Hr w A c (dig b16 m)) (hy : Hr w A' c' (dig b16 n)) (h1 : m < b16 ^ k) (h2 : n < b16 ^ l) (hk : k + l ≤ 1000000) :
    Calls Try.prog 55 #[.slice A (dig b16 m).length c, .slice A' (dig b16 n).length c'] w (HRet w (m * n)) := by
  have h := rmul_any hx hy (Nat.le_trans (Nat.add_le_add (dig_length_le b16_one h1) (dig_length_le b16_one h2)) hk)
  rw [val_dig b16_one, val_dig b16_one] at h
  exact h


set_option maxRecDepth 100000 in
set_option maxHeartbeats 8000000 in
theorem rneg_any (n : Bool) {A : Option Addr} {c : Nat} {xs : List Nat} {w : World} (hx : Arg w A c xs) (sx : xs.length ≤ 10000) :
    Calls Try.prog 26 #[.agg #[.bool n, .slice A xs.length c]] w (ZR w (zof (!n) (val b32 xs))) := by
  obtain ⟨W0, hW0⟩ : ∃ W0, W0 = ((w.alloc (.cells #[.bool n, .slice A xs.length c] 24)).alloc (.cells #[.bool false, .slice none 0 0] 24)) := ⟨_, rfl⟩
  have hb : Below w.heap.size w W0 := by rw [hW0]; exact ((Below.refl _ _).alloc (Nat.le_refl _) _).alloc (by simp) _
  have tX : Two W0 (w.heap.size) (.bool n) (.slice A xs.length c) := by
    have h := Two.new w (.bool n) (.slice A xs.length c) 24
    rw [hW0]; exact h.alloc _
  have tR : Two W0 (w.heap.size + 1) (.bool false) (.slice none 0 0) := by
    have h := Two.new (w.alloc (.cells #[.bool n, .slice A xs.length c] 24)) (.bool false) (.slice none 0 0) 24
    rw [World.size_alloc] at h
    rw [hW0]; exact h
  have HW0 := Lib.hid hW0
  have HB0 := Lib.hid hb
  have HX := Lib.hid hx
  have hBW : w.heap.size + 1 ≤ W0.heap.size := by rw [hW0]; simp
  have Dsx : val b32 xs < b16 ^ (2 * xs.length) := by rw [← pow_2k]; exact val_lt hx.dg
  clear hW0 hb hx
  go_enter Try.func26, Try.ntmps26
  go_wp2_with fail
  rw [← HW0.out]
  refine wp_region_plan (S := fun w' => Below (w.heap.size + 1) W0 w') [(0, true), (1, true), (2, true), (3, true), (4, true), (5, false), (6, false), (7, false)] (by kernel_rfl) (by kernel_rfl) (Below.refl _ _).drew ?_
  have HB := (Below.refl W0.heap.size W0).drew
  repeat (refine plan_take (v := ?_) rfl (by rfl) ?_ ?_; rotate_left; (focus (intro w' hS; have k0 := (tX.toB hS (by omega)).c0; have k1 := (tX.toB hS (by omega)).c1; go_simp; try with_reducible rfl)); simp only [Act.put, List.setIfInBounds_toArray, List.set_cons_zero, List.set_cons_succ])
  refine plan_call rfl (by rfl) (fun K hK => ?_)
  go_simp
  refine (halves_r (HX.out.to (HB0.out.trans (HB.mono HB0.out.size)))).mono ?_
  rintro e V ⟨A1, c1, rfl, r1, l1, m1, bb⟩
  replace HB := HB.trans (bb.mono HB.size)
  have H1 := Hr.of_ret r1 l1 m1 Dsx (by omega)
  clear r1 l1 m1 bb
  refine hK.out _ _ (HB.mono hBW) ?_
  clear hK K
  refine plan_call rfl (by rfl) (fun K hK => ?_)
  go_simp
  refine (of_r (!n) H1).mono ?_
  rintro e V ⟨xr, yr, rfl, rz, bb⟩
  replace HB := HB.trans (bb.mono HB.size)
  clear H1 bb
  refine hK.out _ _ (HB.mono hBW) ?_
  clear hK K
  refine plan_call rfl (by rfl) (fun K hK => ?_)
  refine wp_store_two (by rfl) (by rfl) (tR.to HB) Fs.nil rz.fs (fun V u kp => ?_)
  have HF := kp.zc _ _ _ rz
  have HE := kp.bel _ _ (HB0.out.trans (HB.mono HB0.out.size)) (by omega)
  refine hK.out _ _ (kp.bel _ _ (HB.mono hBW) (Nat.le_refl _)) ?_
  clear hK K kp
  simp only [Act.put, List.setIfInBounds_toArray, List.set_cons_zero, List.set_cons_succ]
  refine plan_done ?_
  have HF2 := Lib.hid HF
  have HE2 := Lib.hid HE
  clear HF HE
  go_wp2
  exact bodyPost_ret (v := .agg #[xr, yr]) (by simp [results, Try.f26, go_sem, u.c0, u.c1]) rfl ⟨xr, yr, rfl, HF2.out, HE2.out⟩
set_option maxRecDepth 100000 in
set_option maxHeartbeats 8000000 in
theorem rMul_any (n : Bool) (m : Bool) {A A' : Option Addr} {c c' : Nat} {xs ys : List Nat} {w : World} (hx : Arg w A c xs) (sx : xs.length ≤ 10000) (hy : Arg w A' c' ys) (sy : ys.length ≤ 10000) :
    Calls Try.prog 24 #[.agg #[.bool n, .slice A xs.length c], .agg #[.bool m, .slice A' ys.length c']] w (ZR w (zof (!(n == m)) (val b32 xs * val b32 ys))) := by
  obtain ⟨W0, hW0⟩ : ∃ W0, W0 = (((w.alloc (.cells #[.bool n, .slice A xs.length c] 24)).alloc (.cells #[.bool m, .slice A' ys.length c'] 24)).alloc (.cells #[.bool false, .slice none 0 0] 24)) := ⟨_, rfl⟩
  have hb : Below w.heap.size w W0 := by rw [hW0]; exact (((Below.refl _ _).alloc (Nat.le_refl _) _).alloc (by simp) _).alloc (by simp; omega) _
  have tX : Two W0 (w.heap.size) (.bool n) (.slice A xs.length c) := by
    have h := Two.new w (.bool n) (.slice A xs.length c) 24
    rw [hW0]; exact (h.alloc _).alloc _
  have tY : Two W0 (w.heap.size + 1) (.bool m) (.slice A' ys.length c') := by
    have h := Two.new (w.alloc (.cells #[.bool n, .slice A xs.length c] 24)) (.bool m) (.slice A' ys.length c') 24
    rw [World.size_alloc] at h
    rw [hW0]; exact h.alloc _
  have tR : Two W0 (w.heap.size + 1 + 1) (.bool false) (.slice none 0 0) := by
    have h := Two.new ((w.alloc (.cells #[.bool n, .slice A xs.length c] 24)).alloc (.cells #[.bool m, .slice A' ys.length c'] 24)) (.bool false) (.slice none 0 0) 24
    rw [World.size_alloc, World.size_alloc] at h
    rw [hW0]; exact h
  have HW0 := Lib.hid hW0
  have HB0 := Lib.hid hb
  have HX := Lib.hid hx
  have HY := Lib.hid hy
  have hBW : w.heap.size + 1 + 1 ≤ W0.heap.size := by rw [hW0]; simp
  have Dsx : val b32 xs < b16 ^ (2 * xs.length) := by rw [← pow_2k]; exact val_lt hx.dg
  have Dsy : val b32 ys < b16 ^ (2 * ys.length) := by rw [← pow_2k]; exact val_lt hy.dg
  clear hW0 hb hx hy
  obtain ⟨s, hs⟩ : ∃ s, (!(n == m)) = s := ⟨_, rfl⟩
  rw [hs]
  go_enter Try.func24, Try.ntmps24
  go_wp2_with fail
  rw [← HW0.out]
  refine wp_region_plan (S := fun w' => Below (w.heap.size + 1 + 1) W0 w') [(0, true), (1, true), (2, true), (3, true), (4, true), (5, true), (6, true), (8, true), (9, true), (7, false), (10, false), (11, false), (12, false), (13, false)] (by kernel_rfl) (by kernel_rfl) (Below.refl _ _).drew ?_
  have HB := (Below.refl W0.heap.size W0).drew
  repeat (refine plan_take (v := ?_) rfl (by rfl) ?_ ?_; rotate_left; (focus (intro w' hS; have k0 := (tX.toB hS (by omega)).c0; have k1 := (tX.toB hS (by omega)).c1; have k2 := (tY.toB hS (by omega)).c0; have k3 := (tY.toB hS (by omega)).c1; go_simp; try with_reducible rfl)); simp only [Act.put, List.setIfInBounds_toArray, List.set_cons_zero, List.set_cons_succ])
  refine plan_call rfl (by rfl) (fun K hK => ?_)
  go_simp
  refine (halves_r (HX.out.to (HB0.out.trans (HB.mono HB0.out.size)))).mono ?_
  rintro e V ⟨A1, c1, rfl, r1, l1, m1, bb⟩
  replace HB := HB.trans (bb.mono HB.size)
  have H1 := Hr.of_ret r1 l1 m1 Dsx (by omega)
  clear r1 l1 m1 bb
  refine hK.out _ _ (HB.mono hBW) ?_
  clear hK K
  refine plan_call rfl (by rfl) (fun K hK => ?_)
  go_simp
  refine (halves_r (HY.out.to (HB0.out.trans (HB.mono HB0.out.size)))).mono ?_
  rintro e V ⟨A2, c2, rfl, r1, l1, m1, bb⟩
  replace HB := HB.trans (bb.mono HB.size)
  have H2 := Hr.of_ret r1 l1 m1 Dsy (by omega)
  replace H1 := H1.to bb
  clear r1 l1 m1 bb
  refine hK.out _ _ (HB.mono hBW) ?_
  clear hK K
  refine plan_call rfl (by rfl) (fun K hK => ?_)
  go_simp
  refine (mul_r H1 H2 Dsx Dsy (by omega)).mono ?_
  rintro e V ⟨A3, c3, rfl, r1, l1, m1, bb⟩
  replace HB := HB.trans (bb.mono HB.size)
  have H3 := Hr.of_ret r1 l1 m1 (pow_cut Dsx Dsy) (by omega)
  clear r1 l1 m1 bb H1 H2
  refine hK.out _ _ (HB.mono hBW) ?_
  clear hK K
  refine plan_call rfl (by rfl) (fun K hK => ?_)
  go_simp
  refine (of_r s H3).mono ?_
  rintro e V ⟨xr, yr, rfl, rz, bb⟩
  replace HB := HB.trans (bb.mono HB.size)
  clear H3 bb
  refine hK.out _ _ (HB.mono hBW) ?_
  clear hK K
  refine plan_call rfl (by rfl) (fun K hK => ?_)
  refine wp_store_two (by rfl) (by rfl) (tR.to HB) Fs.nil rz.fs (fun V u kp => ?_)
  have HF := kp.zc _ _ _ rz
  have HE := kp.bel _ _ (HB0.out.trans (HB.mono HB0.out.size)) (by omega)
  refine hK.out _ _ (kp.bel _ _ (HB.mono hBW) (Nat.le_refl _)) ?_
  clear hK K kp
  simp only [Act.put, List.setIfInBounds_toArray, List.set_cons_zero, List.set_cons_succ]
  refine plan_done ?_
  have HF2 := Lib.hid HF
  have HE2 := Lib.hid HE
  clear HF HE
  go_wp2
  exact bodyPost_ret (v := .agg #[xr, yr]) (by simp [results, Try.f24, go_sem, u.c0, u.c1]) rfl ⟨xr, yr, rfl, HF2.out, HE2.out⟩
end Go.Proofs.Ytlnjnoingiohjaa

namespace Go.Proofs.Ytlnjnoingiohjaa
open Go.RowKit Go.Shelf

theorem add_r {A A' : Option Addr} {c c' m n : Nat} {w : World} (hx : Hr w A c (dig b16 m)) (hy : Hr w A' c' (dig b16 n)) :
    Calls Try.prog 51 #[.slice A (dig b16 m).length c, .slice A' (dig b16 n).length c'] w (HRet w (m + n)) := by
  have h := radd_any hx hy
  rw [val_dig b16_one, val_dig b16_one] at h
  exact h

theorem sub_r {A A' : Option Addr} {c c' m n : Nat} {w : World} (hx : Hr w A c (dig b16 m)) (hy : Hr w A' c' (dig b16 n)) (h : n ≤ m) :
    Calls Try.prog 53 #[.slice A (dig b16 m).length c, .slice A' (dig b16 n).length c'] w (HRet w (m - n)) := by
  have h := rsub_any hx hy (by rw [val_dig b16_one, val_dig b16_one]; exact h)
  rw [val_dig b16_one, val_dig b16_one] at h
  exact h

theorem cmp_r {A A' : Option Addr} {c c' m n : Nat} {w : World} (hx : Hr w A c (dig b16 m)) (hy : Hr w A' c' (dig b16 n)) :
    Calls Try.prog 52 #[.slice A (dig b16 m).length c, .slice A' (dig b16 n).length c'] w fun e w' => e = .returned (.int .i64 (cmpN m n)) ∧ w' = w := by
  have h := rcmp_any hx hy
  rw [val_dig b16_one, val_dig b16_one] at h
  exact h

theorem pow_max {b k l m n : Nat} (hb : 2 ≤ b) (h1 : m < b ^ k) (h2 : n < b ^ l) : m + n < b ^ (k + l + 1) := by
  have e1 : b ^ k ≤ b ^ (k + l) := Nat.pow_le_pow_right (by omega) (by omega)
  have e2 : b ^ l ≤ b ^ (k + l) := Nat.pow_le_pow_right (by omega) (by omega)
  have e3 : b ^ (k + l) * 2 ≤ b ^ (k + l) * b := Nat.mul_le_mul_left _ hb
  rw [Nat.pow_succ]; omega


set_option maxRecDepth 100000 in
set_option maxHeartbeats 8000000 in
theorem rAdd_same (n : Bool) {A A' : Option Addr} {c c' : Nat} {xs ys : List Nat} {w : World} (hx : Arg w A c xs) (sx : xs.length ≤ 10000) (hy : Arg w A' c' ys) (sy : ys.length ≤ 10000) :
    Calls Try.prog 20 #[.agg #[.bool n, .slice A xs.length c], .agg #[.bool n, .slice A' ys.length c']] w (ZR w (zof n (val b32 xs + val b32 ys))) := by
  obtain ⟨W0, hW0⟩ : ∃ W0, W0 = (((w.alloc (.cells #[.bool n, .slice A xs.length c] 24)).alloc (.cells #[.bool n, .slice A' ys.length c'] 24)).alloc (.cells #[.bool false, .slice none 0 0] 24)) := ⟨_, rfl⟩
  have hb : Below w.heap.size w W0 := by rw [hW0]; exact (((Below.refl _ _).alloc (Nat.le_refl _) _).alloc (by simp) _).alloc (by simp; omega) _
  have tX : Two W0 (w.heap.size) (.bool n) (.slice A xs.length c) := by
    have h := Two.new w (.bool n) (.slice A xs.length c) 24
    rw [hW0]; exact (h.alloc _).alloc _
  have tY : Two W0 (w.heap.size + 1) (.bool n) (.slice A' ys.length c') := by
    have h := Two.new (w.alloc (.cells #[.bool n, .slice A xs.length c] 24)) (.bool n) (.slice A' ys.length c') 24
    rw [World.size_alloc] at h
    rw [hW0]; exact h.alloc _
  have tR : Two W0 (w.heap.size + 1 + 1) (.bool false) (.slice none 0 0) := by
    have h := Two.new ((w.alloc (.cells #[.bool n, .slice A xs.length c] 24)).alloc (.cells #[.bool n, .slice A' ys.length c'] 24)) (.bool false) (.slice none 0 0) 24
    rw [World.size_alloc, World.size_alloc] at h
    rw [hW0]; exact h
  have HW0 := Lib.hid hW0
  have HB0 := Lib.hid hb
  have HX := Lib.hid hx
  have HY := Lib.hid hy
  have hBW : w.heap.size + 1 + 1 ≤ W0.heap.size := by rw [hW0]; simp
  have Dsx : val b32 xs < b16 ^ (2 * xs.length) := by rw [← pow_2k]; exact val_lt hx.dg
  have Dsy : val b32 ys < b16 ^ (2 * ys.length) := by rw [← pow_2k]; exact val_lt hy.dg
  clear hW0 hb hx hy
  have hnn : (n == n) = true := by simp
  go_enter Try.func20, Try.ntmps20
  go_wp2_with fail
  rw [← HW0.out]
  refine wp_region_plan (S := fun w' => Below (w.heap.size + 1 + 1) W0 w') [(0, true), (1, true), (3, true), (4, true), (2, false), (5, false), (6, true), (7, true)] (by kernel_rfl) (by kernel_rfl) (Below.refl _ _).drew ?_
  have HB := (Below.refl W0.heap.size W0).drew
  repeat (refine plan_take (v := ?_) rfl (by rfl) ?_ ?_; rotate_left; (focus (intro w' hS; have k0 := (tX.toB hS (by omega)).c0; have k1 := (tX.toB hS (by omega)).c1; have k2 := (tY.toB hS (by omega)).c0; have k3 := (tY.toB hS (by omega)).c1; go_simp; try with_reducible rfl)); simp only [Act.put, List.setIfInBounds_toArray, List.set_cons_zero, List.set_cons_succ])
  refine plan_call rfl (by rfl) (fun K hK => ?_)
  go_simp
  refine (halves_r (HX.out.to (HB0.out.trans (HB.mono HB0.out.size)))).mono ?_
  rintro e V ⟨A1, c1, rfl, r1, l1, m1, bb⟩
  replace HB := HB.trans (bb.mono HB.size)
  have H1 := Hr.of_ret r1 l1 m1 Dsx (by omega)
  clear r1 l1 m1 bb
  refine hK.out _ _ (HB.mono hBW) ?_
  clear hK K
  refine plan_call rfl (by rfl) (fun K hK => ?_)
  go_simp
  refine (halves_r (HY.out.to (HB0.out.trans (HB.mono HB0.out.size)))).mono ?_
  rintro e V ⟨A2, c2, rfl, r1, l1, m1, bb⟩
  replace HB := HB.trans (bb.mono HB.size)
  have H2 := Hr.of_ret r1 l1 m1 Dsy (by omega)
  replace H1 := H1.to bb
  clear r1 l1 m1 bb
  refine hK.out _ _ (HB.mono hBW) ?_
  clear hK K
  repeat (refine plan_take (v := ?_) rfl (by rfl) ?_ ?_; rotate_left; (focus (intro w' hS; have k0 := (tX.toB hS (by omega)).c0; have k1 := (tX.toB hS (by omega)).c1; have k2 := (tY.toB hS (by omega)).c0; have k3 := (tY.toB hS (by omega)).c1; go_simp; try with_reducible rfl)); simp only [Act.put, List.setIfInBounds_toArray, List.set_cons_zero, List.set_cons_succ])
  refine plan_done ?_
  have k1 := (tX.to HB).c0
  have k2 := (tX.to HB).c1
  have k3 := (tY.to HB).c0
  have k4 := (tY.to HB).c1
  go_wp2_with fail
  clear k1 k2 k3 k4
  refine wp_region_plan (S := fun w' => Below (w.heap.size + 1 + 1) W0 w') [(0, true), (1, true), (2, true), (3, true), (4, false), (5, false), (6, false)] (by kernel_rfl) (by kernel_rfl) (HB.mono hBW).drew ?_
  replace HB := HB.drew
  repeat (refine plan_take (v := ?_) rfl (by rfl) ?_ ?_; rotate_left; (focus (intro w' hS; have k0 := (tX.toB hS (by omega)).c0; have k1 := (tX.toB hS (by omega)).c1; have k2 := (tY.toB hS (by omega)).c0; have k3 := (tY.toB hS (by omega)).c1; go_simp; try with_reducible rfl)); simp only [Act.put, List.setIfInBounds_toArray, List.set_cons_zero, List.set_cons_succ])
  replace H1 := H1.to (Below.refl _ _).drew
  replace H2 := H2.to (Below.refl _ _).drew
  refine plan_call rfl (by rfl) (fun K hK => ?_)
  go_simp
  refine (add_r H1 H2).mono ?_
  rintro e V ⟨A3, c3, rfl, r1, l1, m1, bb⟩
  replace HB := HB.trans (bb.mono HB.size)
  have H3 := Hr.of_ret r1 l1 m1 (pow_max (by decide) Dsx Dsy) (by omega)
  clear r1 l1 m1 bb H1 H2
  refine hK.out _ _ (HB.mono hBW) ?_
  clear hK K
  refine plan_call rfl (by rfl) (fun K hK => ?_)
  go_simp
  refine (of_r n H3).mono ?_
  rintro e V ⟨xr, yr, rfl, rz, bb⟩
  replace HB := HB.trans (bb.mono HB.size)
  clear H3 bb
  refine hK.out _ _ (HB.mono hBW) ?_
  clear hK K
  refine plan_call rfl (by rfl) (fun K hK => ?_)
  refine wp_store_two (by rfl) (by rfl) (tR.to HB) Fs.nil rz.fs (fun V u kp => ?_)
  have HF := kp.zc _ _ _ rz
  have HE := kp.bel _ _ (HB0.out.trans (HB.mono HB0.out.size)) (by omega)
  refine hK.out _ _ (kp.bel _ _ (HB.mono hBW) (Nat.le_refl _)) ?_
  clear hK K kp
  simp only [Act.put, List.setIfInBounds_toArray, List.set_cons_zero, List.set_cons_succ]
  refine plan_done ?_
  have HF2 := Lib.hid HF
  have HE2 := Lib.hid HE
  clear HF HE
  go_wp2
  exact bodyPost_ret (v := .agg #[xr, yr]) (by simp [results, Try.f20, go_sem, u.c0, u.c1]) rfl ⟨xr, yr, rfl, HF2.out, HE2.out⟩
set_option maxRecDepth 100000 in
set_option maxHeartbeats 8000000 in
theorem rAdd_ge (n : Bool) (m : Bool) {A A' : Option Addr} {c c' : Nat} {xs ys : List Nat} {w : World} (hx : Arg w A c xs) (sx : xs.length ≤ 10000) (hy : Arg w A' c' ys) (sy : ys.length ≤ 10000) (hnm : (n == m) = false) (hge : val b32 ys ≤ val b32 xs) :
    Calls Try.prog 20 #[.agg #[.bool n, .slice A xs.length c], .agg #[.bool m, .slice A' ys.length c']] w (ZR w (zof n (val b32 xs - val b32 ys))) := by
  obtain ⟨W0, hW0⟩ : ∃ W0, W0 = (((w.alloc (.cells #[.bool n, .slice A xs.length c] 24)).alloc (.cells #[.bool m, .slice A' ys.length c'] 24)).alloc (.cells #[.bool false, .slice none 0 0] 24)) := ⟨_, rfl⟩
  have hb : Below w.heap.size w W0 := by rw [hW0]; exact (((Below.refl _ _).alloc (Nat.le_refl _) _).alloc (by simp) _).alloc (by simp; omega) _
  have tX : Two W0 (w.heap.size) (.bool n) (.slice A xs.length c) := by
    have h := Two.new w (.bool n) (.slice A xs.length c) 24
    rw [hW0]; exact (h.alloc _).alloc _
  have tY : Two W0 (w.heap.size + 1) (.bool m) (.slice A' ys.length c') := by
    have h := Two.new (w.alloc (.cells #[.bool n, .slice A xs.length c] 24)) (.bool m) (.slice A' ys.length c') 24
    rw [World.size_alloc] at h
    rw [hW0]; exact h.alloc _
  have tR : Two W0 (w.heap.size + 1 + 1) (.bool false) (.slice none 0 0) := by
    have h := Two.new ((w.alloc (.cells #[.bool n, .slice A xs.length c] 24)).alloc (.cells #[.bool m, .slice A' ys.length c'] 24)) (.bool false) (.slice none 0 0) 24
    rw [World.size_alloc, World.size_alloc] at h
    rw [hW0]; exact h
  have HW0 := Lib.hid hW0
  have HB0 := Lib.hid hb
  have HX := Lib.hid hx
  have HY := Lib.hid hy
  have hBW : w.heap.size + 1 + 1 ≤ W0.heap.size := by rw [hW0]; simp
  have Dsx : val b32 xs < b16 ^ (2 * xs.length) := by rw [← pow_2k]; exact val_lt hx.dg
  have Dsy : val b32 ys < b16 ^ (2 * ys.length) := by rw [← pow_2k]; exact val_lt hy.dg
  clear hW0 hb hx hy
  obtain ⟨o, ho⟩ : ∃ o, cmpN (val b32 xs) (val b32 ys) = o := ⟨_, rfl⟩
  have ho0 : 0 ≤ o := by rw [← ho]; unfold cmpN; split <;> (try split) <;> omega
  have HO := Lib.hid ho
  have HGE := Lib.hid hge
  clear ho hge
  go_enter Try.func20, Try.ntmps20
  go_wp2_with fail
  rw [← HW0.out]
  refine wp_region_plan (S := fun w' => Below (w.heap.size + 1 + 1) W0 w') [(0, true), (1, true), (3, true), (4, true), (2, false), (5, false), (6, true), (7, true)] (by kernel_rfl) (by kernel_rfl) (Below.refl _ _).drew ?_
  have HB := (Below.refl W0.heap.size W0).drew
  repeat (refine plan_take (v := ?_) rfl (by rfl) ?_ ?_; rotate_left; (focus (intro w' hS; have k0 := (tX.toB hS (by omega)).c0; have k1 := (tX.toB hS (by omega)).c1; have k2 := (tY.toB hS (by omega)).c0; have k3 := (tY.toB hS (by omega)).c1; go_simp; try with_reducible rfl)); simp only [Act.put, List.setIfInBounds_toArray, List.set_cons_zero, List.set_cons_succ])
  refine plan_call rfl (by rfl) (fun K hK => ?_)
  go_simp
  refine (halves_r (HX.out.to (HB0.out.trans (HB.mono HB0.out.size)))).mono ?_
  rintro e V ⟨A1, c1, rfl, r1, l1, m1, bb⟩
  replace HB := HB.trans (bb.mono HB.size)
  have H1 := Hr.of_ret r1 l1 m1 Dsx (by omega)
  clear r1 l1 m1 bb
  refine hK.out _ _ (HB.mono hBW) ?_
  clear hK K
  refine plan_call rfl (by rfl) (fun K hK => ?_)
  go_simp
  refine (halves_r (HY.out.to (HB0.out.trans (HB.mono HB0.out.size)))).mono ?_
  rintro e V ⟨A2, c2, rfl, r1, l1, m1, bb⟩
  replace HB := HB.trans (bb.mono HB.size)
  have H2 := Hr.of_ret r1 l1 m1 Dsy (by omega)
  replace H1 := H1.to bb
  clear r1 l1 m1 bb
  refine hK.out _ _ (HB.mono hBW) ?_
  clear hK K
  repeat (refine plan_take (v := ?_) rfl (by rfl) ?_ ?_; rotate_left; (focus (intro w' hS; have k0 := (tX.toB hS (by omega)).c0; have k1 := (tX.toB hS (by omega)).c1; have k2 := (tY.toB hS (by omega)).c0; have k3 := (tY.toB hS (by omega)).c1; go_simp; try with_reducible rfl)); simp only [Act.put, List.setIfInBounds_toArray, List.set_cons_zero, List.set_cons_succ])
  refine plan_done ?_
  have k1 := (tX.to HB).c0
  have k2 := (tX.to HB).c1
  have k3 := (tY.to HB).c0
  have k4 := (tY.to HB).c1
  go_wp2_with fail
  have HC := cmp_r H1 H2
  rw [HO.out] at HC
  refine HC.mono ?_
  rintro e V2 ⟨rfl, rfl⟩
  clear HC
  go_wp2_with fail
  clear k1 k2 k3 k4
  refine wp_region_plan (S := fun w' => Below (w.heap.size + 1 + 1) W0 w') [(0, true), (1, true), (2, true), (3, true), (4, false), (5, false), (6, false)] (by kernel_rfl) (by kernel_rfl) (HB.mono hBW).drew ?_
  replace HB := HB.drew
  repeat (refine plan_take (v := ?_) rfl (by rfl) ?_ ?_; rotate_left; (focus (intro w' hS; have k0 := (tX.toB hS (by omega)).c0; have k1 := (tX.toB hS (by omega)).c1; have k2 := (tY.toB hS (by omega)).c0; have k3 := (tY.toB hS (by omega)).c1; go_simp; try with_reducible rfl)); simp only [Act.put, List.setIfInBounds_toArray, List.set_cons_zero, List.set_cons_succ])
  replace H1 := H1.to (Below.refl _ _).drew
  replace H2 := H2.to (Below.refl _ _).drew
  refine plan_call rfl (by rfl) (fun K hK => ?_)
  go_simp
  refine (sub_r H1 H2 HGE.out).mono ?_
  rintro e V ⟨A3, c3, rfl, r1, l1, m1, bb⟩
  replace HB := HB.trans (bb.mono HB.size)
  have H3 := Hr.of_ret r1 l1 m1 (Nat.lt_of_le_of_lt (Nat.sub_le _ _) Dsx) (by omega)
  clear r1 l1 m1 bb H1 H2
  refine hK.out _ _ (HB.mono hBW) ?_
  clear hK K
  refine plan_call rfl (by rfl) (fun K hK => ?_)
  go_simp
  refine (of_r n H3).mono ?_
  rintro e V ⟨xr, yr, rfl, rz, bb⟩
  replace HB := HB.trans (bb.mono HB.size)
  clear H3 bb
  refine hK.out _ _ (HB.mono hBW) ?_
  clear hK K
  refine plan_call rfl (by rfl) (fun K hK => ?_)
  refine wp_store_two (by rfl) (by rfl) (tR.to HB) Fs.nil rz.fs (fun V u kp => ?_)
  have HF := kp.zc _ _ _ rz
  have HE := kp.bel _ _ (HB0.out.trans (HB.mono HB0.out.size)) (by omega)
  refine hK.out _ _ (kp.bel _ _ (HB.mono hBW) (Nat.le_refl _)) ?_
  clear hK K kp
  simp only [Act.put, List.setIfInBounds_toArray, List.set_cons_zero, List.set_cons_succ]
  refine plan_done ?_
  have HF2 := Lib.hid HF
  have HE2 := Lib.hid HE
  clear HF HE
  go_wp2
  exact bodyPost_ret (v := .agg #[xr, yr]) (by simp [results, Try.f20, go_sem, u.c0, u.c1]) rfl ⟨xr, yr, rfl, HF2.out, HE2.out⟩
set_option maxRecDepth 100000 in
set_option maxHeartbeats 8000000 in
theorem rAdd_lt (n : Bool) (m : Bool) {A A' : Option Addr} {c c' : Nat} {xs ys : List Nat} {w : World} (hx : Arg w A c xs) (sx : xs.length ≤ 10000) (hy : Arg w A' c' ys) (sy : ys.length ≤ 10000) (hnm : (n == m) = false) (hlt : val b32 xs < val b32 ys) :
    Calls Try.prog 20 #[.agg #[.bool n, .slice A xs.length c], .agg #[.bool m, .slice A' ys.length c']] w (ZR w (zof m (val b32 ys - val b32 xs))) := by
  obtain ⟨W0, hW0⟩ : ∃ W0, W0 = (((w.alloc (.cells #[.bool n, .slice A xs.length c] 24)).alloc (.cells #[.bool m, .slice A' ys.length c'] 24)).alloc (.cells #[.bool false, .slice none 0 0] 24)) := ⟨_, rfl⟩
  have hb : Below w.heap.size w W0 := by rw [hW0]; exact (((Below.refl _ _).alloc (Nat.le_refl _) _).alloc (by simp) _).alloc (by simp; omega) _
  have tX : Two W0 (w.heap.size) (.bool n) (.slice A xs.length c) := by
    have h := Two.new w (.bool n) (.slice A xs.length c) 24
    rw [hW0]; exact (h.alloc _).alloc _
  have tY : Two W0 (w.heap.size + 1) (.bool m) (.slice A' ys.length c') := by
    have h := Two.new (w.alloc (.cells #[.bool n, .slice A xs.length c] 24)) (.bool m) (.slice A' ys.length c') 24
    rw [World.size_alloc] at h
    rw [hW0]; exact h.alloc _
  have tR : Two W0 (w.heap.size + 1 + 1) (.bool false) (.slice none 0 0) := by
    have h := Two.new ((w.alloc (.cells #[.bool n, .slice A xs.length c] 24)).alloc (.cells #[.bool m, .slice A' ys.length c'] 24)) (.bool false) (.slice none 0 0) 24
    rw [World.size_alloc, World.size_alloc] at h
    rw [hW0]; exact h
  have HW0 := Lib.hid hW0
  have HB0 := Lib.hid hb
  have HX := Lib.hid hx
  have HY := Lib.hid hy
  have hBW : w.heap.size + 1 + 1 ≤ W0.heap.size := by rw [hW0]; simp
  have Dsx : val b32 xs < b16 ^ (2 * xs.length) := by rw [← pow_2k]; exact val_lt hx.dg
  have Dsy : val b32 ys < b16 ^ (2 * ys.length) := by rw [← pow_2k]; exact val_lt hy.dg
  clear hW0 hb hx hy
  have HO : Hid (cmpN (val b32 xs) (val b32 ys) = -1) := cmpN_lt hlt
  have HGE := Lib.hid (Nat.le_of_lt hlt)
  clear hlt
  go_enter Try.func20, Try.ntmps20
  go_wp2_with fail
  rw [← HW0.out]
  refine wp_region_plan (S := fun w' => Below (w.heap.size + 1 + 1) W0 w') [(0, true), (1, true), (3, true), (4, true), (2, false), (5, false), (6, true), (7, true)] (by kernel_rfl) (by kernel_rfl) (Below.refl _ _).drew ?_
  have HB := (Below.refl W0.heap.size W0).drew
  repeat (refine plan_take (v := ?_) rfl (by rfl) ?_ ?_; rotate_left; (focus (intro w' hS; have k0 := (tX.toB hS (by omega)).c0; have k1 := (tX.toB hS (by omega)).c1; have k2 := (tY.toB hS (by omega)).c0; have k3 := (tY.toB hS (by omega)).c1; go_simp; try with_reducible rfl)); simp only [Act.put, List.setIfInBounds_toArray, List.set_cons_zero, List.set_cons_succ])
  refine plan_call rfl (by rfl) (fun K hK => ?_)
  go_simp
  refine (halves_r (HX.out.to (HB0.out.trans (HB.mono HB0.out.size)))).mono ?_
  rintro e V ⟨A1, c1, rfl, r1, l1, m1, bb⟩
  replace HB := HB.trans (bb.mono HB.size)
  have H1 := Hr.of_ret r1 l1 m1 Dsx (by omega)
  clear r1 l1 m1 bb
  refine hK.out _ _ (HB.mono hBW) ?_
  clear hK K
  refine plan_call rfl (by rfl) (fun K hK => ?_)
  go_simp
  refine (halves_r (HY.out.to (HB0.out.trans (HB.mono HB0.out.size)))).mono ?_
  rintro e V ⟨A2, c2, rfl, r1, l1, m1, bb⟩
  replace HB := HB.trans (bb.mono HB.size)
  have H2 := Hr.of_ret r1 l1 m1 Dsy (by omega)
  replace H1 := H1.to bb
  clear r1 l1 m1 bb
  refine hK.out _ _ (HB.mono hBW) ?_
  clear hK K
  repeat (refine plan_take (v := ?_) rfl (by rfl) ?_ ?_; rotate_left; (focus (intro w' hS; have k0 := (tX.toB hS (by omega)).c0; have k1 := (tX.toB hS (by omega)).c1; have k2 := (tY.toB hS (by omega)).c0; have k3 := (tY.toB hS (by omega)).c1; go_simp; try with_reducible rfl)); simp only [Act.put, List.setIfInBounds_toArray, List.set_cons_zero, List.set_cons_succ])
  refine plan_done ?_
  have k1 := (tX.to HB).c0
  have k2 := (tX.to HB).c1
  have k3 := (tY.to HB).c0
  have k4 := (tY.to HB).c1
  go_wp2_with fail
  have HC := cmp_r H1 H2
  rw [HO.out] at HC
  refine HC.mono ?_
  rintro e V2 ⟨rfl, rfl⟩
  clear HC
  go_wp2_with fail
  clear k1 k2 k3 k4
  refine wp_region_plan (S := fun w' => Below (w.heap.size + 1 + 1) W0 w') [(0, true), (1, true), (2, true), (3, true), (4, false), (5, false), (6, false)] (by kernel_rfl) (by kernel_rfl) (HB.mono hBW).drew ?_
  replace HB := HB.drew
  repeat (refine plan_take (v := ?_) rfl (by rfl) ?_ ?_; rotate_left; (focus (intro w' hS; have k0 := (tX.toB hS (by omega)).c0; have k1 := (tX.toB hS (by omega)).c1; have k2 := (tY.toB hS (by omega)).c0; have k3 := (tY.toB hS (by omega)).c1; go_simp; try with_reducible rfl)); simp only [Act.put, List.setIfInBounds_toArray, List.set_cons_zero, List.set_cons_succ])
  replace H1 := H1.to (Below.refl _ _).drew
  replace H2 := H2.to (Below.refl _ _).drew
  refine plan_call rfl (by rfl) (fun K hK => ?_)
  go_simp
  refine (sub_r H2 H1 HGE.out).mono ?_
  rintro e V ⟨A3, c3, rfl, r1, l1, m1, bb⟩
  replace HB := HB.trans (bb.mono HB.size)
  have H3 := Hr.of_ret r1 l1 m1 (Nat.lt_of_le_of_lt (Nat.sub_le _ _) Dsy) (by omega)
  clear r1 l1 m1 bb H1 H2
  refine hK.out _ _ (HB.mono hBW) ?_
  clear hK K
  refine plan_call rfl (by rfl) (fun K hK => ?_)
  go_simp
  refine (of_r m H3).mono ?_
  rintro e V ⟨xr, yr, rfl, rz, bb⟩
  replace HB := HB.trans (bb.mono HB.size)
  clear H3 bb
  refine hK.out _ _ (HB.mono hBW) ?_
  clear hK K
  refine plan_call rfl (by rfl) (fun K hK => ?_)
  refine wp_store_two (by rfl) (by rfl) (tR.to HB) Fs.nil rz.fs (fun V u kp => ?_)
  have HF := kp.zc _ _ _ rz
  have HE := kp.bel _ _ (HB0.out.trans (HB.mono HB0.out.size)) (by omega)
  refine hK.out _ _ (kp.bel _ _ (HB.mono hBW) (Nat.le_refl _)) ?_
  clear hK K kp
  simp only [Act.put, List.setIfInBounds_toArray, List.set_cons_zero, List.set_cons_succ]
  refine plan_done ?_
  have HF2 := Lib.hid HF
  have HE2 := Lib.hid HE
  clear HF HE
  go_wp2
  exact bodyPost_ret (v := .agg #[xr, yr]) (by simp [results, Try.f20, go_sem, u.c0, u.c1]) rfl ⟨xr, yr, rfl, HF2.out, HE2.out⟩
theorem rAdd_any (n m : Bool) {A A' : Option Addr} {c c' : Nat} {xs ys : List Nat} {w : World} (hx : Arg w A c xs) (sx : xs.length ≤ 10000) (hy : Arg w A' c' ys) (sy : ys.length ≤ 10000) :
    Calls Try.prog 20 #[.agg #[.bool n, .slice A xs.length c], .agg #[.bool m, .slice A' ys.length c']] w (ZR w (zof n (val b32 xs) + zof m (val b32 ys))) := by
  by_cases hnm : n = m
  · subst hnm
    have h := rAdd_same n hx sx hy sy
    rw [show zof n (val b32 xs + val b32 ys) = zof n (val b32 xs) + zof n (val b32 ys) from by cases n <;> simp [zof] <;> omega] at h
    exact h
  · have hb : (n == m) = false := by simpa using hnm
    rcases Nat.lt_or_ge (val b32 xs) (val b32 ys) with hlt | hge
    · have h := rAdd_lt n m hx sx hy sy hb hlt
      rw [show zof m (val b32 ys - val b32 xs) = zof n (val b32 xs) + zof m (val b32 ys) from by cases n <;> cases m <;> simp [zof] at * <;> omega] at h
      exact h
    · have h := rAdd_ge n m hx sx hy sy hb hge
      rw [show zof n (val b32 xs - val b32 ys) = zof n (val b32 xs) + zof m (val b32 ys) from by cases n <;> cases m <;> simp [zof] at * <;> omega] at h
      exact h
end Go.Proofs.Ytlnjnoingiohjaa

namespace Go.Proofs.Ytlnjnoingiohjaa
open Go.RowKit Go.Shelf

set_option maxRecDepth 100000 in
set_option maxHeartbeats 2000000 in
theorem least_any (n : Bool) {A : Option Addr} {c : Nat} {xs : List Nat} {w : World} (hx : Arg w A c xs) :
    Calls Try.prog 18 #[.agg #[.bool n, .slice A xs.length c]] w (ZRet w (zof n (val b32 xs))) := by
  obtain ⟨W0, hW0⟩ : ∃ W0, W0 = (w.alloc (.cells #[.bool n, .slice A xs.length c] 24)).alloc (.cells #[.bool false, .slice none 0 0] 24) := ⟨_, rfl⟩
  have hb : Below w.heap.size w W0.drew := by rw [hW0]; exact (((Below.refl _ _).alloc (Nat.le_refl _) _).alloc (by simp) _).drew
  have tX : Zat W0.drew w.heap.size (.bool n) (.slice A xs.length c) := by rw [hW0]; exact (Zat.new w _ _).alloc _
  have tR : Zat W0.drew (w.heap.size + 1) (.bool false) (.slice none 0 0) := by
    have h := Zat.new (w.alloc (.cells #[.bool n, .slice A xs.length c] 24)) (.bool false) (.slice none 0 0)
    rw [World.size_alloc] at h
    rw [hW0]; exact h
  have HSM : Hid ((dig b16 (val b32 xs)).length ≤ 8589934592) := by
    have h1 := trimL_dig b16_one (hw_dg hx.dg)
    rw [hw_val] at h1
    have h2 := trimL_le (hw xs)
    have h3 := hx.small
    rw [h1, hw_length] at h2
    show _ ≤ _
    omega
  have HH := Lib.hid (halves_any (hx.to hb))
  have cN : W0.cell? ⟨w.heap.size, 0, none⟩ = some (.bool n) := tX.two.c0
  have cW : W0.cell? ⟨w.heap.size, 1, none⟩ = some (.slice A xs.length c) := tX.two.c1
  have HW0 := Lib.hid hW0
  clear hW0 hx
  go_enter Try.func18, Try.ntmps18
  go_wp2_with fail
  rw [← HW0.out]
  refine wp_region_any (by kernel_rfl) ?_
  refine (show wpAny _ _ _ _ _ _ _ (World.drew _) from ?_)
  refine wpAny_take (i := 0) (v := .pointer (some ⟨w.heap.size, 0, none⟩)) rfl (by kernel_rfl) (by kernel_rfl) (by kernel_rfl) (fun _ _ _ h => h) (Or.inl ⟨by rfl, fun _ => by go_simp⟩) ?_
  refine wpAny_take (i := 2) (v := .pointer (some ⟨w.heap.size, 1, none⟩)) rfl (by kernel_rfl) (by kernel_rfl) (by kernel_rfl) (fun _ _ _ h => h) (Or.inl ⟨by rfl, fun _ => by go_simp⟩) ?_
  refine wpAny_ready (rs := [1, 3]) (by kernel_rfl) (by simp) (AllReady.cons rfl (fun K hK => ?_) (AllReady.cons rfl (fun K hK => ?_) AllReady.nil))
  · go_simp; refine hK _ _ ?_; clear hK K
    refine wpAny_ready (rs := [3]) (by kernel_rfl) (by simp) (AllReady.cons rfl (fun K hK => ?_) AllReady.nil)
    go_simp; refine hK _ _ ?_; clear hK K
    refine wpAny_ready (rs := [4]) (by kernel_rfl) (by simp) (AllReady.cons rfl (fun K hK => ?_) AllReady.nil)
    go_simp
    refine HH.out.mono ?_
    rintro e w2 ⟨A1, c1, rfl, r1, r2, r3, hb2⟩
    have hsm2 : (dig b16 (val b32 xs)).length ≤ 8589934592 := HSM.out
    have HO := Lib.hid (of_any n r1 (Dg_dig b16_one _) r2 r3 hsm2)
    rw [val_dig b16_one] at HO
    have cN2 := (tX.two.to hb2).c0
    have tR2 := tR.two.to hb2
    have HB := Lib.hid (hb.trans (hb2.mono hb.size))
    clear r1 r2 hsm2 hb2
    refine hK _ _ ?_; clear hK K
    refine wpAny_ready (rs := [5]) (by kernel_rfl) (by simp) (AllReady.cons rfl (fun K hK => ?_) AllReady.nil)
    obtain ⟨z, ez⟩ : ∃ z, Hid (zof n (val b32 xs) = z) := ⟨_, rfl⟩
    rw [ez.out] at HO
    go_simp
    refine HO.out.mono ?_
    rintro e w3 ⟨A3, c3, rfl, s1, s2, s3, hb3⟩
    obtain ⟨q1, q2, q3, q4, q5⟩ := tR2.to hb3
    have S1 := Lib.hid s1
    have HB3 := Lib.hid (HB.out.trans (hb3.mono HB.out.size))
    clear s1 hb3 tR2
    refine hK _ _ ?_; clear hK K
    refine wpAny_ready (rs := [6]) (by kernel_rfl) (by simp) (AllReady.cons rfl (fun K hK => ?_) AllReady.nil)
    go_simp; refine hK _ _ ?_; clear hK K
    refine wpAny_done (by kernel_rfl) ?_ _
    go_wp2
    have tF := (⟨q1, q2, q3, q4, q5⟩ : Two w3 (w.heap.size + 1) _ _).set (.bool (decide (z < 0))) (.slice A3 (dig b32 z.natAbs).length c3)
    refine bodyPost_ret (v := .agg #[.bool (decide (z < 0)), .slice A3 (dig b32 z.natAbs).length c3]) (by simp [results, Try.f18, go_sem, tF.c0, tF.c1]) rfl ?_
    rw [ez.out]
    exact zret_stored ⟨q1, q2, q3, q4, q5⟩ (by omega) S1.out s2 s3 HB3.out
  · go_simp; refine hK _ _ ?_; clear hK K
    refine wpAny_ready (rs := [1, 4]) (by kernel_rfl) (by simp) (AllReady.cons rfl (fun K hK => ?_) (AllReady.cons rfl (fun K hK => ?_) AllReady.nil))
    · go_simp; refine hK _ _ ?_; clear hK K
      refine wpAny_ready (rs := [4]) (by kernel_rfl) (by simp) (AllReady.cons rfl (fun K hK => ?_) AllReady.nil)
      go_simp
      refine HH.out.mono ?_
      rintro e w2 ⟨A1, c1, rfl, r1, r2, r3, hb2⟩
      have hsm2 : (dig b16 (val b32 xs)).length ≤ 8589934592 := HSM.out
      have HO := Lib.hid (of_any n r1 (Dg_dig b16_one _) r2 r3 hsm2)
      rw [val_dig b16_one] at HO
      have cN2 := (tX.two.to hb2).c0
      have tR2 := tR.two.to hb2
      have HB := Lib.hid (hb.trans (hb2.mono hb.size))
      clear r1 r2 hsm2 hb2
      refine hK _ _ ?_; clear hK K
      refine wpAny_ready (rs := [5]) (by kernel_rfl) (by simp) (AllReady.cons rfl (fun K hK => ?_) AllReady.nil)
      obtain ⟨z, ez⟩ : ∃ z, Hid (zof n (val b32 xs) = z) := ⟨_, rfl⟩
      rw [ez.out] at HO
      go_simp
      refine HO.out.mono ?_
      rintro e w3 ⟨A3, c3, rfl, s1, s2, s3, hb3⟩
      obtain ⟨q1, q2, q3, q4, q5⟩ := tR2.to hb3
      have S1 := Lib.hid s1
      have HB3 := Lib.hid (HB.out.trans (hb3.mono HB.out.size))
      clear s1 hb3 tR2
      refine hK _ _ ?_; clear hK K
      refine wpAny_ready (rs := [6]) (by kernel_rfl) (by simp) (AllReady.cons rfl (fun K hK => ?_) AllReady.nil)
      go_simp; refine hK _ _ ?_; clear hK K
      refine wpAny_done (by kernel_rfl) ?_ _
      go_wp2
      have tF := (⟨q1, q2, q3, q4, q5⟩ : Two w3 (w.heap.size + 1) _ _).set (.bool (decide (z < 0))) (.slice A3 (dig b32 z.natAbs).length c3)
      refine bodyPost_ret (v := .agg #[.bool (decide (z < 0)), .slice A3 (dig b32 z.natAbs).length c3]) (by simp [results, Try.f18, go_sem, tF.c0, tF.c1]) rfl ?_
      rw [ez.out]
      exact zret_stored ⟨q1, q2, q3, q4, q5⟩ (by omega) S1.out s2 s3 HB3.out
    · go_simp
      refine HH.out.mono ?_
      rintro e w2 ⟨A1, c1, rfl, r1, r2, r3, hb2⟩
      have hsm2 : (dig b16 (val b32 xs)).length ≤ 8589934592 := HSM.out
      have HO := Lib.hid (of_any n r1 (Dg_dig b16_one _) r2 r3 hsm2)
      rw [val_dig b16_one] at HO
      have cN2 := (tX.two.to hb2).c0
      have tR2 := tR.two.to hb2
      have HB := Lib.hid (hb.trans (hb2.mono hb.size))
      clear r1 r2 hsm2 hb2
      refine hK _ _ ?_; clear hK K
      refine wpAny_ready (rs := [1]) (by kernel_rfl) (by simp) (AllReady.cons rfl (fun K hK => ?_) AllReady.nil)
      go_simp; refine hK _ _ ?_; clear hK K
      refine wpAny_ready (rs := [5]) (by kernel_rfl) (by simp) (AllReady.cons rfl (fun K hK => ?_) AllReady.nil)
      obtain ⟨z, ez⟩ : ∃ z, Hid (zof n (val b32 xs) = z) := ⟨_, rfl⟩
      rw [ez.out] at HO
      go_simp
      refine HO.out.mono ?_
      rintro e w3 ⟨A3, c3, rfl, s1, s2, s3, hb3⟩
      obtain ⟨q1, q2, q3, q4, q5⟩ := tR2.to hb3
      have S1 := Lib.hid s1
      have HB3 := Lib.hid (HB.out.trans (hb3.mono HB.out.size))
      clear s1 hb3 tR2
      refine hK _ _ ?_; clear hK K
      refine wpAny_ready (rs := [6]) (by kernel_rfl) (by simp) (AllReady.cons rfl (fun K hK => ?_) AllReady.nil)
      go_simp; refine hK _ _ ?_; clear hK K
      refine wpAny_done (by kernel_rfl) ?_ _
      go_wp2
      have tF := (⟨q1, q2, q3, q4, q5⟩ : Two w3 (w.heap.size + 1) _ _).set (.bool (decide (z < 0))) (.slice A3 (dig b32 z.natAbs).length c3)
      refine bodyPost_ret (v := .agg #[.bool (decide (z < 0)), .slice A3 (dig b32 z.natAbs).length c3]) (by simp [results, Try.f18, go_sem, tF.c0, tF.c1]) rfl ?_
      rw [ez.out]
      exact zret_stored ⟨q1, q2, q3, q4, q5⟩ (by omega) S1.out s2 s3 HB3.out
theorem lo_word (m : Nat) (hm : m < 18446744073709551616) : ((m : Nat) : Int).tmod 4294967296 % 4294967296 = (m : Int) % 4294967296 := by
  rw [Int.tmod_eq_emod_of_nonneg (by omega)]; omega
theorem hi_word (m : Nat) (hm : m < 18446744073709551616) : IntKind.u64.wrap (((m : Nat) : Int).tdiv 4294967296) % 4294967296 = (m : Int) / 4294967296 := by
  rw [Int.tdiv_eq_ediv_of_nonneg (by omega), IntKind.wrap_u64]; omega

set_option maxHeartbeats 1000000 in
theorem from_tail (neg : Bool) (m : Nat) (hm : m < 18446744073709551616) {w W : World} (hb : Below w.heap.size w W) :
    Calls Try.prog 18 #[.agg #[.bool neg, .slice (some ⟨W.heap.size, 0, none⟩) 2 2]] (W.alloc (.cells #[.int .u32 ((m : Int) % 4294967296), .int .u32 ((m : Int) / 4294967296)] 52)) (ZRet (W.alloc (.cells #[.int .u32 ((m : Int) % 4294967296), .int .u32 ((m : Int) / 4294967296)] 52)) (zof neg m)) := by
  have hr := Rd.new .u32 W 52 [m % 4294967296, m / 4294967296]
  have h := least_any neg (A := some ⟨W.heap.size, 0, none⟩) (c := 2) (xs := [m % 4294967296, m / 4294967296]) (w := W.alloc (.cells (ints .u32 [m % 4294967296, m / 4294967296]).toArray 52))
    ⟨hr.more (by simp), two_dg hm, by simp, by omega, by simp⟩
  rw [two_val] at h
  simpa [ints] using h

set_option maxHeartbeats 1000000 in
theorem rfrom_pos (m : Nat) (hm : m < 9223372036854775808) (w : World) :
    Calls Try.prog 16 #[.int .i64 (m : Nat)] w (ZRet w ((m : Nat))) := by
  have t0 := Two.new w (.bool false) (.slice none 0 0) 24
  have HB0 := Lib.hid ((Below.refl w.heap.size w).alloc (Nat.le_refl _) (.cells #[.bool false, .slice none 0 0] 24))
  have hm' : m < 18446744073709551616 := by omega
  have HI := Lib.hid (from_tail false m hm' HB0.out)
  obtain ⟨z, ez⟩ : ∃ z, Hid (zof false m = z) := ⟨_, rfl⟩
  rw [ez.out] at HI
  simp only [World.size_alloc] at HI
  go_enter Try.func16, Try.ntmps16
  go_wp2_with fail
  refine HI.out.mono ?_
  rintro e w3 ⟨A3, c3, rfl, s1, s2, s3, hb3⟩
  obtain ⟨q1, q2, q3, q4, q5⟩ := (t0.alloc _).to hb3
  have S1 := Lib.hid s1
  have HB3 := Lib.hid ((HB0.out.alloc HB0.out.size _).trans (hb3.mono (by simp; omega)))
  clear s1 hb3 t0
  go_wp2
  have tF := (⟨q1, q2, q3, q4, q5⟩ : Two w3 w.heap.size _ _).set (.bool (decide (z < 0))) (.slice A3 (dig b32 z.natAbs).length c3)
  refine bodyPost_ret (v := .agg #[.bool (decide (z < 0)), .slice A3 (dig b32 z.natAbs).length c3]) (by simp [results, Try.f16, go_sem, tF.c0, tF.c1]) rfl ?_
  rw [show ((m : Nat) : Int) = z from by rw [← ez.out]; rfl]
  exact zret_stored ⟨q1, q2, q3, q4, q5⟩ (Nat.le_refl _) S1.out s2 s3 HB3.out

set_option maxHeartbeats 1000000 in
theorem rfrom_neg (m : Nat) (hm0 : 0 < m) (hm : m ≤ 9223372036854775808) (w : World) :
    Calls Try.prog 16 #[.int .i64 (-(m : Int))] w (ZRet w (-(m : Int))) := by
  have t0 := Two.new w (.bool false) (.slice none 0 0) 24
  have HB0 := Lib.hid ((Below.refl w.heap.size w).alloc (Nat.le_refl _) (.cells #[.bool false, .slice none 0 0] 24))
  have hm' : m < 18446744073709551616 := by omega
  have HI := Lib.hid (from_tail true m hm' HB0.out)
  obtain ⟨z, ez⟩ : ∃ z, Hid (zof true m = z) := ⟨_, rfl⟩
  rw [ez.out] at HI
  simp only [World.size_alloc] at HI
  go_enter Try.func16, Try.ntmps16
  go_wp2_with fail
  rw [wrap_neg_neg m hm', lo_word m hm', hi_word m hm']
  refine HI.out.mono ?_
  rintro e w3 ⟨A3, c3, rfl, s1, s2, s3, hb3⟩
  obtain ⟨q1, q2, q3, q4, q5⟩ := (t0.alloc _).to hb3
  have S1 := Lib.hid s1
  have HB3 := Lib.hid ((HB0.out.alloc HB0.out.size _).trans (hb3.mono (by simp; omega)))
  clear s1 hb3 t0
  go_wp2
  have tF := (⟨q1, q2, q3, q4, q5⟩ : Two w3 w.heap.size _ _).set (.bool (decide (z < 0))) (.slice A3 (dig b32 z.natAbs).length c3)
  refine bodyPost_ret (v := .agg #[.bool (decide (z < 0)), .slice A3 (dig b32 z.natAbs).length c3]) (by simp [results, Try.f16, go_sem, tF.c0, tF.c1]) rfl ?_
  rw [show (-(m : Int) : Int) = z from by rw [← ez.out]; rfl]
  exact zret_stored ⟨q1, q2, q3, q4, q5⟩ (Nat.le_refl _) S1.out s2 s3 HB3.out

theorem rfrom_any (n : Int) (h1 : -9223372036854775808 ≤ n) (h2 : n ≤ 9223372036854775807) (w : World) :
    Calls Try.prog 16 #[.int .i64 n] w (ZRet w n) := by
  rcases Int.lt_or_le n 0 with h | h
  · obtain ⟨m, rfl⟩ : ∃ m : Nat, n = -(m : Int) := ⟨n.natAbs, by omega⟩
    exact rfrom_neg m (by omega) (by omega) w
  · obtain ⟨m, rfl⟩ := Int.eq_ofNat_of_zero_le h
    exact rfrom_pos m (by omega) w
end Go.Proofs.Ytlnjnoingiohjaa
