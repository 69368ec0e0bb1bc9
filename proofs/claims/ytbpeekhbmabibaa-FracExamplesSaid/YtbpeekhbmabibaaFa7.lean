/- Parts: Z, Step, RefAdd, Int64, Frac0, Frac1, Frac2, Frac3. -/
import Derived.Test.YtbpeekhbmabibaaFa4
import Derived.Test.YtbpeekhbmabibaaFa5
import Derived.Test.YtbpeekhbmabibaaFa6
set_option linter.unusedVariables false

namespace Go.Proofs.Ytbpeekhbmabibaa
open Go.RowKit Go.Shelf

/-- Two cells that are an integer, in whatever form. -/
def Zi (W : World) (x y : Value) (z : Int) : Prop := ∃ n A c xs, x = .bool n ∧ y = .slice A xs.length c ∧ Arg W A c xs ∧ zof n (val b32 xs) = z

/-- Two cells that are an integer in canonical form. -/
def Zc (W : World) (x y : Value) (z : Int) : Prop := ∃ A c, x = .bool (decide (z < 0)) ∧ y = .slice A (dig b32 z.natAbs).length c ∧ Rd .u32 W W.heap.size A (dig b32 z.natAbs) ∧ (dig b32 z.natAbs).length ≤ c ∧ c ≤ 9223372036854775807

/-- An integer of at most k words. -/
def Sm (k : Nat) (z : Int) : Prop := z.natAbs < b32 ^ k

theorem Zi.to {W V : World} {x y : Value} {z : Int} (h : Zi W x y z) (hb : Below W.heap.size W V) : Zi V x y z := by
  obtain ⟨n, A, c, xs, h1, h2, h3, h4⟩ := h
  exact ⟨n, A, c, xs, h1, h2, h3.to hb, h4⟩
theorem Zc.to {W V : World} {x y : Value} {z : Int} (h : Zc W x y z) (hb : Below W.heap.size W V) : Zc V x y z := by
  obtain ⟨A, c, h1, h2, h3, h4, h5⟩ := h
  exact ⟨A, c, h1, h2, h3.to hb, h4, h5⟩

theorem Sm.add {k : Nat} {a b : Int} (ha : Sm k a) (hb : Sm k b) : Sm (k + 1) (a + b) := by
  unfold Sm at *
  rw [Nat.pow_succ]
  have : b32 ^ k * 2 ≤ b32 ^ k * b32 := Nat.mul_le_mul_left _ (by decide)
  omega
theorem Sm.sub {k : Nat} {a b : Int} (ha : Sm k a) (hb : Sm k b) : Sm (k + 1) (a - b) := by
  unfold Sm at *
  rw [Nat.pow_succ]
  have : b32 ^ k * 2 ≤ b32 ^ k * b32 := Nat.mul_le_mul_left _ (by decide)
  omega
theorem Sm.mono {k l : Nat} {a : Int} (ha : Sm k a) (h : k ≤ l) : Sm l a := Nat.lt_of_lt_of_le ha (Nat.pow_le_pow_right (by decide) h)
theorem Sm.mul {k l : Nat} {a b : Int} (ha : Sm k a) (hb : Sm l b) : Sm (k + l) (a * b) := by
  unfold Sm at *
  rw [Int.natAbs_mul, Nat.pow_add]
  exact Nat.mul_lt_mul'' ha hb
theorem Sm.abs {k : Nat} {a : Int} (ha : Sm k a) : Sm k (a.natAbs : Int) := by unfold Sm at *; rwa [Int.natAbs_natCast]
theorem Sm.neg {k : Nat} {a : Int} (ha : Sm k a) : Sm k (-a) := by unfold Sm at *; rwa [Int.natAbs_neg]
theorem Sm.zof {k : Nat} {n : Bool} {xs : List Nat} (h : Dg b32 xs) (hl : xs.length ≤ k) : Sm k (zof n (val b32 xs)) := by
  unfold Sm
  rw [zof_abs]
  exact Nat.lt_of_lt_of_le (val_lt h) (Nat.pow_le_pow_right (by decide) hl)

theorem zof_dec (z : Int) : zof (decide (z < 0)) z.natAbs = z := by
  by_cases h : z < 0 <;> simp [h, Go.Proofs.Ytbpeekhbmabibaa.zof] <;> omega

theorem Zc.zi {W : World} {x y : Value} {z : Int} {k : Nat} (h : Zc W x y z) (hs : Sm k z) (hk : k ≤ 4294967295) : Zi W x y z := by
  obtain ⟨A, c, h1, h2, h3, h4, h5⟩ := h
  exact ⟨_, A, c, _, h1, h2, ⟨h3, Dg_dig b32_one _, h4, h5, Nat.le_trans (dig_length_le b32_one hs) hk⟩, by rw [val_dig b32_one]; exact zof_dec z⟩

/-- A call hands back z, in canonical form. -/
def ZR (w : World) (z : Int) (e : Ending) (w' : World) : Prop := ∃ x y, e = .returned (.agg #[x, y]) ∧ Zc w' x y z ∧ Below w.heap.size w w'

theorem ZRet.zr {w w' : World} {z : Int} {e : Ending} (h : ZRet w z e w') : ZR w z e w' := by
  obtain ⟨A, c, rfl, h1, h2, h3, h4⟩ := h
  exact ⟨_, _, rfl, ⟨A, c, rfl, rfl, h1, h2, h3⟩, h4⟩

variable {w : World} {x y x' y' : Value} {a b : Int}

theorem add_z (ha : Zi w x y a) (hb : Zi w x' y' b) : Calls Try.prog 35 #[.agg #[x, y], .agg #[x', y']] w (ZR w (a + b)) := by
  obtain ⟨n, A, c, xs, rfl, rfl, h3, rfl⟩ := ha
  obtain ⟨m, B, d, ys, rfl, rfl, k3, rfl⟩ := hb
  exact (add_any n m h3 k3).mono fun _ _ h => h.zr

theorem sub_z (ha : Zi w x y a) (hb : Zi w x' y' b) : Calls Try.prog 51 #[.agg #[x, y], .agg #[x', y']] w (ZR w (a - b)) := by
  obtain ⟨n, A, c, xs, rfl, rfl, h3, rfl⟩ := ha
  obtain ⟨m, B, d, ys, rfl, rfl, k3, rfl⟩ := hb
  exact (sub_any n m h3 k3).mono fun _ _ h => h.zr

theorem zof_mul (n m : Bool) (a b : Nat) : zof (!(n == m)) (a * b) = zof n a * zof m b := by
  cases n <;> cases m <;> simp [zof, Int.neg_mul, Int.mul_neg]

theorem mul_z (ha : Zi w x y a) (hb : Zi w x' y' b) : Calls Try.prog 60 #[.agg #[x, y], .agg #[x', y']] w (ZR w (a * b)) := by
  obtain ⟨n, A, c, xs, rfl, rfl, h3, rfl⟩ := ha
  obtain ⟨m, B, d, ys, rfl, rfl, k3, rfl⟩ := hb
  have h := mul_any n m h3 k3
  rw [zof_mul] at h
  exact h.mono fun _ _ h => h.zr

theorem neg_z (ha : Zi w x y a) : Calls Try.prog 37 #[.agg #[x, y]] w (ZR w (-a)) := by
  obtain ⟨n, A, c, xs, rfl, rfl, h3, rfl⟩ := ha
  have h := neg_any n h3
  rw [zof_not] at h
  exact h.mono fun _ _ h => h.zr

theorem sign_z (ha : Zi w x y a) : Calls Try.prog 29 #[.agg #[x, y]] w fun e w' => e = .returned (.int .i64 (sgn a)) ∧ Below w.heap.size w w' := by
  obtain ⟨n, A, c, xs, rfl, rfl, h3, rfl⟩ := ha
  exact sign_any n h3

theorem cmp_z (ha : Zi w x y a) (hb : Zi w x' y' b) : Calls Try.prog 26 #[.agg #[x, y], .agg #[x', y']] w fun e w' => e = .returned (.int .i64 (cmpZ a b)) ∧ Below w.heap.size w w' := by
  obtain ⟨n, A, c, xs, rfl, rfl, h3, rfl⟩ := ha
  obtain ⟨m, B, d, ys, rfl, rfl, k3, rfl⟩ := hb
  exact cmp_any n m h3 k3

theorem dig_last {b n : Nat} (hb : 1 < b) (h : (dig b n).length ≠ 0) : (dig b n).getD ((dig b n).length - 1) 0 ≠ 0 := by
  have h1 := trimN_of_dig hb n
  intro h0
  obtain ⟨ys, d, hd⟩ : ∃ ys d, dig b n = ys ++ [d] := by
    rcases List.eq_nil_or_concat (dig b n) with h2 | ⟨ys, d, h2⟩
    · rw [h2] at h; exact absurd rfl h
    · exact ⟨ys, d, by simpa using h2⟩
  rw [hd] at h0 h1
  simp at h0
  subst h0
  rw [trimN_snoc_zero] at h1
  have := trimN_le ys
  simp at h1
  omega

theorem canon_dig (z : Int) : canon (decide (z < 0)) (dig b32 z.natAbs) = true := by
  unfold canon
  split
  · rename_i h
    have h1 : z.natAbs = 0 := (dig_nil b32_one).1 (List.eq_nil_of_length_eq_zero h)
    have h2 : z = 0 := by omega
    subst h2; rfl
  · rename_i h
    exact decide_eq_true (dig_last b32_one h)

theorem isCan_c {k : Nat} (ha : Zc w x y a) (hs : Sm k a) (hk : k ≤ 4294967295) : Calls Try.prog 30 #[.agg #[x, y]] w fun e w' => e = .returned (.bool true) ∧ Below w.heap.size w w' := by
  obtain ⟨A, c, rfl, rfl, h3, h4, h5⟩ := ha
  have h := isCanonical_any (decide (a < 0)) (⟨h3, Dg_dig b32_one _, h4, h5, Nat.le_trans (dig_length_le b32_one hs) hk⟩ : Arg w A c (dig b32 a.natAbs))
  rw [canon_dig] at h
  exact h

theorem zof_inj_dec {a b : Int} (h1 : decide (a < 0) = decide (b < 0)) (h2 : dig b32 a.natAbs = dig b32 b.natAbs) : a = b := by
  have h3 := dig_inj b32_one h2
  by_cases ha : a < 0 <;> by_cases hb : b < 0 <;> simp [ha, hb] at h1 <;> omega

/-- A load of an integer's two cells. -/
theorem load_two {W : World} {g t : Nat} {u v : Value} {ac : Act} {d : Option Tmp} {ty : TypeId} {pos : String} {after : Array Edge} {guard : Option (Nat × Bool)} (ht : ac.eval (.tmp t) = .pointer (some ⟨g, 0, none⟩)) (h : Two W g u v) :
    (execOp ac.eval ⟨d, .load 24 (.tmp t), ty, pos, after, guard⟩).run Try.prog W = .ok (.value (.agg #[u, v])) W := by
  have h0 := h.c0
  have h1 := h.c1
  simp only [execOp, ht]
  go_simp
end Go.Proofs.Ytbpeekhbmabibaa

namespace Go.Proofs.Ytbpeekhbmabibaa
open Go.RowKit Go.Shelf

/-- A variable that holds an integer in whatever form. -/
structure Zb (W : World) (g : Nat) (x y : Value) (z : Int) : Prop where
  two : Two W g x y
  zi : Zi W x y z
/-- A variable that holds an integer in canonical form. -/
structure Cb (W : World) (g : Nat) (x y : Value) (z : Int) : Prop where
  two : Two W g x y
  zc : Zc W x y z

theorem Zb.to {W V : World} {g : Nat} {x y : Value} {z : Int} (h : Zb W g x y z) (hb : Below W.heap.size W V) : Zb V g x y z := ⟨h.two.to hb, h.zi.to hb⟩
theorem Cb.to {W V : World} {g : Nat} {x y : Value} {z : Int} (h : Cb W g x y z) (hb : Below W.heap.size W V) : Cb V g x y z := ⟨h.two.to hb, h.zc.to hb⟩

/-- What a store into a variable that holds no number leaves as it was. -/
structure Kept (g : Nat) (w V : World) : Prop where
  two : ∀ g' u v, g' ≠ g → Two w g' u v → Two V g' u v
  zc : ∀ x y z, Zc w x y z → Zc V x y z
  zi : ∀ x y z, Zi w x y z → Zi V x y z
  bel : ∀ B w0, Below B w0 w → B ≤ g → Below B w0 V
  size : V.heap.size = w.heap.size

theorem Rd.set2' {kd : IntKind} {w : World} {B g : Nat} {A : Option Addr} {xs : List Nat} {x y : Value} (t : Two w g x y) (hx : ∀ n : Int, x ≠ .int kd n) (hy : ∀ n : Int, y ≠ .int kd n) (h : Rd kd w B A xs) (a b : Value) : Rd kd ((w.setCell ⟨g, 0, none⟩ a).setCell ⟨g, 1, none⟩ b) B A xs := by
  have h1 : (w.setCell ⟨g, 0, none⟩ a).cell? ⟨g, 1, none⟩ = some y := (World.cell?_setCell_other _ _ _ _ (by simp)).trans t.c1
  exact (h.set t.c0 hx a).set h1 hy b

theorem Kept.of {w : World} {g : Nat} {x y : Value} (t : Two w g x y) (hx : ∀ n : Int, x ≠ .int .u32 n) (hy : ∀ n : Int, y ≠ .int .u32 n) (a b : Value) : Kept g w ((w.setCell ⟨g, 0, none⟩ a).setCell ⟨g, 1, none⟩ b) := by
  have hsz : ((w.setCell ⟨g, 0, none⟩ a).setCell ⟨g, 1, none⟩ b).heap.size = w.heap.size := by simp [World.setCell]
  refine ⟨fun g' u v hne t' => t'.far hne _ _, ?_, ?_, fun B w0 h hg => (h.setCell (p := ⟨g, 0, none⟩) hg _).setCell (p := ⟨g, 1, none⟩) hg _, hsz⟩
  · rintro x y z ⟨A, c, h1, h2, h3, h4, h5⟩
    exact ⟨A, c, h1, h2, (Rd.set2' t hx hy h3 _ _).more (by rw [hsz]; exact Nat.le_refl _), h4, h5⟩
  · rintro x y z ⟨n, A, c, xs, h1, h2, ⟨r1, r2, r3, r4, r5⟩, h4⟩
    exact ⟨n, A, c, xs, h1, h2, ⟨(Rd.set2' t hx hy r1 _ _).more (by rw [hsz]; exact Nat.le_refl _), r2, r3, r4, r5⟩, h4⟩

/-- A flag and a slice. -/
def Fs (x y : Value) : Prop := ∃ n A k c, x = .bool n ∧ y = .slice A k c
theorem Zc.fs {w : World} {x y : Value} {z : Int} (h : Zc w x y z) : Fs x y := by
  obtain ⟨A, c, rfl, rfl, _⟩ := h
  exact ⟨_, _, _, _, rfl, rfl⟩
theorem Zi.fs {w : World} {x y : Value} {z : Int} (h : Zi w x y z) : Fs x y := by
  obtain ⟨n, A, c, xs, rfl, rfl, _⟩ := h
  exact ⟨_, _, _, _, rfl, rfl⟩
theorem Fs.nil : Fs (.bool false) (.slice none 0 0) := ⟨_, _, _, _, rfl, rfl⟩

theorem Zc.nint {w : World} {x y : Value} {z : Int} (h : Zc w x y z) : (∀ n : Int, x ≠ .int .u32 n) ∧ (∀ n : Int, y ≠ .int .u32 n) := by
  obtain ⟨A, c, rfl, rfl, _⟩ := h
  exact ⟨(fun n e => by cases e), (fun n e => by cases e)⟩

variable {ac : Act} {w : World} {K : Act → World → Prop} {Q : Exit → Act → World → Prop} {d : Option Tmp} {ty : TypeId} {pos : String} {after : Array Edge} {guard : Option (Nat × Bool)}

theorem wp_alloc_two (h : ∀ (g : Nat) (V : World), Two V g (.bool false) (.slice none 0 0) → Below w.heap.size w V → w.heap.size ≤ g → K (ac.put d (.pointer (some ⟨g, 0, none⟩))) V) :
    Oper.wp Try.prog ⟨d, .alloc 24, ty, pos, after, guard⟩ ac w K Q := by
  have h1 := h _ _ (Two.new w (.bool false) (.slice none 0 0) 24) ((Below.refl _ _).alloc (Nat.le_refl _) _) (Nat.le_refl _)
  go_simp
  exact h1

theorem wp_store_two {g : Nat} {x y x0 y0 : Value} {p v : Operand} (hp : ac.eval p = .pointer (some ⟨g, 0, none⟩)) (hv : ac.eval v = .agg #[x, y]) (t : Two w g x0 y0) (f0 : Fs x0 y0) (f1 : Fs x y)
    (h : ∀ V : World, Two V g x y → Kept g w V → K (ac.put d undef) V) :
    Oper.wp Try.prog ⟨d, .store 24 p v, ty, pos, after, guard⟩ ac w K Q := by
  obtain ⟨n0, A0, k0, c0, rfl, rfl⟩ := f0
  obtain ⟨n1, A1, k1, c1, rfl, rfl⟩ := f1
  have h1 := h _ (t.set _ _) (Kept.of t (fun n e => by cases e) (fun n e => by cases e) _ _)
  have u0 := t.c0
  have u1 := t.c1
  have v0 := t.f0
  have v1 := t.f1
  clear h t
  simp only [Oper.wp, execOp, hp, hv]
  go_simp
  exact h1
end Go.Proofs.Ytbpeekhbmabibaa

namespace Go.Proofs.Ytbpeekhbmabibaa
open Go.RowKit Go.Shelf

/-- A magnitude in base 2^16 that a function is given. -/
structure Hr (w : World) (A : Option Addr) (c : Nat) (xs : List Nat) : Prop where
  rd : Rd .i64 w w.heap.size A xs
  dg : Dg b16 xs
  le : xs.length ≤ c
  cap : c ≤ 9223372036854775807
  small : xs.length ≤ 4294967296

theorem Hr.to {w w' : World} {A : Option Addr} {c : Nat} {xs : List Nat} (h : Hr w A c xs) (hb : Below w.heap.size w w') : Hr w' A c xs := ⟨h.rd.to hb, h.dg, h.le, h.cap, h.small⟩

/-- A call hands back the magnitude n, trimmed. -/
def HRet (w : World) (n : Nat) (e : Ending) (w' : World) : Prop := ∃ A c, e = .returned (.slice A (dig b16 n).length c) ∧ Rd .i64 w' w'.heap.size A (dig b16 n) ∧ (dig b16 n).length ≤ c ∧ c ≤ 9223372036854775807 ∧ Below w.heap.size w w'

theorem val_le_take {b : Nat} (xs : List Nat) (k : Nat) (h : xs.length ≤ k) : xs.take k = xs := List.take_of_length_le h

theorem tmod16 (d : Nat) : ((d : Nat) : Int).tmod 65536 = ((d % 65536 : Nat) : Int) := by rw [Int.tmod_eq_emod_of_nonneg (by omega)]; omega
theorem tdiv16 (d : Nat) : ((d : Nat) : Int).tdiv 65536 = ((d / 65536 : Nat) : Int) := by rw [Int.tdiv_eq_ediv_of_nonneg (by omega)]; omega
theorem wrap_nat (d : Nat) (h : d < 9223372036854775808) : IntKind.i64.wrap ((d : Nat) : Int) = (d : Int) := IntWalk.i64_in _ (by omega)

/-- One digit more. -/
theorem digit_step {b k v T : Nat} {S : List Nat} (hl : S.length = k) {N r d : Nat} (h : val b S + b ^ k * r = N) (hv : v = d + r) (hT : T = N + b ^ k * d) : val b (S ++ [v % b]) + b ^ (k + 1) * (v / b) = T := by
  rw [val_append, hl, hT, ← h, Nat.pow_succ]
  simp only [val, Nat.mul_zero, Nat.add_zero]
  have h1 : v = v % b + b * (v / b) := (Nat.mod_add_div v b).symm
  have h2 : b ^ k * v = b ^ k * (v % b) + b ^ k * b * (v / b) := by
    rw [Nat.mul_assoc, ← Nat.mul_add]; rw [← h1]
  rw [hv, Nat.mul_add, ← hv] at h2
  omega

end Go.Proofs.Ytbpeekhbmabibaa

namespace Go.Proofs.Ytbpeekhbmabibaa
open Go.RowKit Go.Shelf

/-- Whether an int64 holds z, and what Int64 hands back. -/
def inI (z : Int) : Bool := decide (-9223372036854775808 ≤ z ∧ z ≤ 9223372036854775807)
def i64v (z : Int) : Int := if inI z then z else 0

theorem inI_t {z : Int} (h1 : -9223372036854775808 ≤ z) (h2 : z ≤ 9223372036854775807) : inI z = true ∧ i64v z = z := by
  have h : inI z = true := decide_eq_true ⟨h1, h2⟩
  exact ⟨h, by unfold i64v; rw [h]; rfl⟩
theorem inI_f {z : Int} (h1 : ¬ (-9223372036854775808 ≤ z ∧ z ≤ 9223372036854775807)) : inI z = false ∧ i64v z = 0 := by
  have h : inI z = false := decide_eq_false h1
  exact ⟨h, by unfold i64v; rw [h]; rfl⟩

theorem trim_long {xs : List Nat} (hd : Dg b32 xs) (h : 2 < (trimL xs).length) : 18446744073709551616 ≤ val b32 xs := by
  refine Classical.byContradiction fun hn => ?_
  have h1 := dig_length_le b32_one (k := 2) (n := val b32 xs) (by rw [show b32 ^ 2 = 18446744073709551616 from by decide]; omega)
  rw [← trimL_dig b32_one hd] at h1
  omega

set_option maxRecDepth 100000 in
set_option maxHeartbeats 4000000 in
theorem int64_any (n : Bool) {A : Option Addr} {c : Nat} {xs : List Nat} {w : World} (hx : Arg w A c xs) :
    Calls Try.prog 54 #[.agg #[.bool n, .slice A xs.length c]] w fun e w' => e = .returned (.tuple #[.int .i64 (i64v (zof n (val b32 xs))), .bool (inI (zof n (val b32 xs)))]) ∧ Below w.heap.size w w' := by
  have hb := Lib.hid ((Below.refl w.heap.size w).alloc (Nat.le_refl _) (.cells #[.bool n, .slice A xs.length c] 24))
  have HT := Lib.hid (trim_q (hx.to hb.out))
  have hdg := hx.dg
  have hlong := trim_long hdg
  have hv := val_trimL (b := b32) xs
  have HU : Hid ((trimL xs).length ≤ 2 → Calls Try.prog 59 #[.slice A (trimL xs).length c] (w.alloc (.cells #[.bool n, .slice A xs.length c] 24)) fun e w' => e = .returned (.int .u64 (val b32 (trimL xs) : Nat)) ∧ (w.alloc (.cells #[.bool n, .slice A xs.length c] 24)) = w') := fun h =>
    toUint64_any (hx.to hb.out).trim.rd (hx.to hb.out).trim.dg h
  obtain ⟨l, hl⟩ : ∃ l, (trimL xs).length = l := ⟨_, rfl⟩
  obtain ⟨v, ev⟩ : ∃ v, val b32 xs = v := ⟨_, rfl⟩
  have hv64 : l ≤ 2 → v < 18446744073709551616 := fun h => by
    have h1 := val_lt hx.trim.dg
    rw [val_trimL, ev] at h1
    have h2 : b32 ^ (trimL xs).length ≤ b32 ^ 2 := Nat.pow_le_pow_right (by decide) (by omega)
    rw [show b32 ^ 2 = 18446744073709551616 from by decide] at h2
    omega
  have hsl : l ≤ 4294967295 := by rw [← hl]; exact Nat.le_trans (trimL_le xs) hx.small
  rw [hv] at HU
  rw [ev] at HU hlong
  rw [hl] at HT HU hlong
  rw [ev]
  clear hv ev hl hdg hx
  rcases Nat.lt_or_ge 2 l with h2 | h2
  · have hz := hlong h2
    obtain ⟨i1, i2⟩ := inI_f (z := zof n v) (by cases n <;> simp [zof] <;> omega)
    rw [i1, i2]
    clear i1 i2 hz hlong hv64
    go_enter Try.func54, Try.ntmps54
    go_wp2_with fail
    refine HT.out.mono ?_
    rintro e w' ⟨rfl, rfl⟩
    go_wp2
    go_ret2
    exact ⟨rfl, hb.out⟩
  · have HU2 := Lib.hid (HU.out h2)
    have hv := hv64 h2
    clear hlong hv64 HU
    cases n with
    | false =>
      rcases Nat.lt_or_ge 9223372036854775807 v with hbig | hsm
      · obtain ⟨i1, i2⟩ := inI_f (z := zof false v) (by simp [zof]; omega)
        rw [i1, i2]
        clear i1 i2
        rcases Nat.lt_or_ge 9223372036854775808 v with hb2 | hb2
        all_goals
          go_enter Try.func54, Try.ntmps54
          go_wp2_with fail
          refine HT.out.mono ?_
          rintro e w' ⟨rfl, rfl⟩
          go_wp2_with fail
          refine HU2.out.mono ?_
          rintro e w' ⟨rfl, rfl⟩
          go_wp2
          go_ret2
          exact ⟨rfl, hb.out⟩
      · obtain ⟨i1, i2⟩ := inI_t (z := zof false v) (by unfold zof; simp only [Bool.false_eq_true, if_false]; omega) (by unfold zof; simp only [Bool.false_eq_true, if_false]; omega)
        rw [i1, i2, show zof false v = (v : Int) from by simp [zof]]
        have g := wrap_nat v (by omega)
        clear i1 i2
        go_enter Try.func54, Try.ntmps54
        go_wp2_with fail
        refine HT.out.mono ?_
        rintro e w' ⟨rfl, rfl⟩
        go_wp2_with fail
        refine HU2.out.mono ?_
        rintro e w' ⟨rfl, rfl⟩
        go_wp2
        go_ret2
        exact ⟨rfl, hb.out⟩
    | true =>
      rcases Nat.lt_or_ge 9223372036854775808 v with hbig | hsm
      · obtain ⟨i1, i2⟩ := inI_f (z := zof true v) (by simp [zof]; omega)
        rw [i1, i2]
        clear i1 i2
        go_enter Try.func54, Try.ntmps54
        go_wp2_with fail
        refine HT.out.mono ?_
        rintro e w' ⟨rfl, rfl⟩
        go_wp2_with fail
        refine HU2.out.mono ?_
        rintro e w' ⟨rfl, rfl⟩
        go_wp2
        go_ret2
        exact ⟨rfl, hb.out⟩
      · obtain ⟨i1, i2⟩ := inI_t (z := zof true v) (by unfold zof; simp only [if_true]; omega) (by unfold zof; simp only [if_true]; omega)
        obtain ⟨z, ez⟩ : ∃ z, zof true v = z := ⟨_, rfl⟩
        obtain ⟨u, eu⟩ : ∃ u, IntKind.i64.wrap ((v : Nat) : Int) = u := ⟨_, rfl⟩
        have g : IntKind.i64.wrap (-u) = z := by
          rw [← eu, ← ez, IntKind.wrap_i64, IntKind.wrap_i64]
          simp [zof]
          omega
        rw [i1, i2, ez]
        clear i1 i2 ez
        rcases Nat.lt_or_ge 9223372036854775807 v with hb2 | hb2
        all_goals
          go_enter Try.func54, Try.ntmps54
          go_wp2_with fail
          refine HT.out.mono ?_
          rintro e w' ⟨rfl, rfl⟩
          go_wp2_with fail
          refine HU2.out.mono ?_
          rintro e w' ⟨rfl, rfl⟩
          go_wp2
          go_ret2
          exact ⟨rfl, hb.out⟩
end Go.Proofs.Ytbpeekhbmabibaa

namespace Go.Proofs.Ytbpeekhbmabibaa
open Go.RowKit Go.Shelf

/-- What the division that is proved so far takes. -/
def Sg (z : Int) : Prop := z.natAbs < 18446744073709551616

theorem Sg.two {n : Bool} {xs : List Nat} (hd : Dg b32 xs) (h : Sg (zof n (val b32 xs))) : (trimL xs).length ≤ 2 := by
  rw [trimL_dig b32_one hd]
  unfold Sg at h
  rw [zof_abs] at h
  exact dig_length_le b32_one (by rw [show b32 ^ 2 = 18446744073709551616 from by decide]; exact h)

theorem int64_z {w : World} {x y : Value} {a : Int} (ha : Zi w x y a) : Calls Try.prog 54 #[.agg #[x, y]] w fun e w' => e = .returned (.tuple #[.int .i64 (i64v a), .bool (inI a)]) ∧ Below w.heap.size w w' := by
  obtain ⟨n, A, c, xs, rfl, rfl, h3, rfl⟩ := ha
  exact int64_any n h3

theorem from_z (v : Int) (h1 : -9223372036854775808 ≤ v) (h2 : v ≤ 9223372036854775807) (w : World) : Calls Try.prog 27 #[.int .i64 v] w (ZR w v) :=
  (fromInt64_any v h1 h2 w).mono fun _ _ h => h.zr

theorem zof_natAbs {n : Bool} {a : Nat} : (zof n a).natAbs = a := zof_abs n a

theorem gcd_z {w : World} {x y x' y' : Value} {a b : Int} (ha : Zi w x y a) (hb : Zi w x' y' b) (sa : Sg a) (sb : Sg b) : Calls Try.prog 32 #[.agg #[x, y], .agg #[x', y']] w (ZR w (Int.gcd a b : Nat)) := by
  obtain ⟨n, A, c, xs, rfl, rfl, h3, rfl⟩ := ha
  obtain ⟨m, B, d, ys, rfl, rfl, k3, rfl⟩ := hb
  have h := gcd_small n m h3 k3 (sa.two h3.dg) (sb.two k3.dg)
  rw [show Int.gcd (zof n (val b32 xs)) (zof m (val b32 ys)) = Nat.gcd (val b32 xs) (val b32 ys) from by unfold Int.gcd; rw [zof_abs, zof_abs]]
  exact h.mono fun _ _ h => h.zr

theorem ediv_unique {a b q r : Int} (hb : b ≠ 0) (h : a = q * b + r) (h0 : 0 ≤ r) (h1 : r < b.natAbs) : a / b = q ∧ a % b = r := by
  have h2 := Int.emod_add_mul_ediv a b
  have h3 := Int.emod_nonneg a hb
  have h4 := Int.emod_lt a hb
  have h5 : a % b = r := by
    rw [h, Int.add_comm, Int.mul_comm, Int.add_mul_emod_self_left]
    rcases Int.lt_or_le b 0 with hn | hp
    · rw [← Int.emod_neg, Int.emod_eq_of_lt h0 (by omega)]
    · rw [Int.emod_eq_of_lt h0 (by omega)]
  refine ⟨?_, h5⟩
  have h6 : b * (a / b) = b * q := by rw [Int.mul_comm b q]; omega
  exact Int.eq_of_mul_eq_mul_left hb h6

theorem dm_z {w : World} {x y x' y' : Value} {a b : Int} (ha : Zi w x y a) (hb : Zi w x' y' b) (hb0 : b ≠ 0) (sa : Sg a) : Calls Try.prog 36 #[.agg #[x, y], .agg #[x', y']] w (DRet w (a / b) (a % b)) := by
  obtain ⟨n, A, c, xs, rfl, rfl, h3, rfl⟩ := ha
  obtain ⟨m, B, d, ys, rfl, rfl, k3, rfl⟩ := hb
  have h2 := sa.two h3.dg
  have hy : 0 < val b32 ys := Nat.pos_of_ne_zero fun e => hb0 (by rw [e, zof_zero])
  have hq := Nat.mod_add_div (val b32 xs) (val b32 ys)
  have hr := Nat.mod_lt (val b32 xs) hy
  obtain ⟨X, eX⟩ : ∃ X, val b32 xs = X := ⟨_, rfl⟩
  obtain ⟨Y, eY⟩ : ∃ Y, val b32 ys = Y := ⟨_, rfl⟩
  obtain ⟨Q, eQ⟩ : ∃ Q, X / Y = Q := ⟨_, rfl⟩
  obtain ⟨R, eR⟩ : ∃ R, X % Y = R := ⟨_, rfl⟩
  have hqi : (X : Int) = (Q : Int) * (Y : Int) + (R : Int) := by
    rw [eX, eY, eQ, eR] at hq
    rw [← hq, Int.mul_comm]; push_cast; omega
  rw [eX, eY, eR] at hr
  rw [eY] at hy
  cases n <;> cases m
  · have h := dm_ff h3 k3 h2 (by omega)
    rw [eX, eY, eQ, eR] at h
    rw [eY] at hb0
    rw [eX, eY]
    obtain ⟨e1, e2⟩ := ediv_unique (a := zof false X) (b := zof false Y) (q := zof false Q) (r := R) hb0 (by simpa [zof] using hqi) (by omega) (by simp [zof]; omega)
    rw [e1, e2]; exact h
  · have h := dm_ft h3 k3 h2 (by omega)
    rw [eX, eY, eQ, eR] at h
    rw [eY] at hb0
    rw [eX, eY]
    obtain ⟨e1, e2⟩ := ediv_unique (a := zof false X) (b := zof true Y) (q := zof true Q) (r := R) hb0 (by simpa [zof, Int.neg_mul, Int.mul_neg] using hqi) (by omega) (by simp [zof]; omega)
    rw [e1, e2]; exact h
  · rcases Nat.eq_zero_or_pos R with hR | hR
    · have h := dm_tfz h3 k3 h2 (by omega) (by rw [eX, eY, eR]; exact hR)
      rw [eX, eY, eQ, eR] at h
      rw [eY] at hb0
      rw [eX, eY]
      obtain ⟨e1, e2⟩ := ediv_unique (a := zof true X) (b := zof false Y) (q := zof true Q) (r := R) hb0 (by simp only [zof, if_true, Bool.false_eq_true, if_false, Int.neg_mul]; omega) (by omega) (by simp [zof]; omega)
      rw [e1, e2]; exact h
    · have h := dm_tfn h3 k3 h2 (by omega) (by rw [eX, eY, eR]; exact hR)
      rw [eX, eY, eQ, eR] at h
      rw [eY] at hb0
      rw [eX, eY]
      obtain ⟨e1, e2⟩ := ediv_unique (a := zof true X) (b := zof false Y) (q := zof true (Q + 1)) (r := (Y - R : Nat)) hb0 (by simp only [zof, if_true, Bool.false_eq_true, if_false, Int.neg_mul]; push_cast; rw [Int.add_mul]; omega) (by omega) (by simp [zof]; omega)
      rw [e1, e2]; exact h
  · rcases Nat.eq_zero_or_pos R with hR | hR
    · have h := dm_ttz h3 k3 h2 (by omega) (by rw [eX, eY, eR]; exact hR)
      rw [eX, eY, eQ, eR] at h
      rw [eY] at hb0
      rw [eX, eY]
      obtain ⟨e1, e2⟩ := ediv_unique (a := zof true X) (b := zof true Y) (q := zof false Q) (r := R) hb0 (by simp only [zof, if_true, Bool.false_eq_true, if_false, Int.mul_neg]; omega) (by omega) (by simp [zof]; omega)
      rw [e1, e2]; exact h
    · have h := dm_ttn h3 k3 h2 (by omega) (by rw [eX, eY, eR]; exact hR)
      rw [eX, eY, eQ, eR] at h
      rw [eY] at hb0
      rw [eX, eY]
      obtain ⟨e1, e2⟩ := ediv_unique (a := zof true X) (b := zof true Y) (q := zof false (Q + 1)) (r := (Y - R : Nat)) hb0 (by simp only [zof, if_true, Bool.false_eq_true, if_false, Int.mul_neg]; push_cast; rw [Int.add_mul]; omega) (by omega) (by simp [zof]; omega)
      rw [e1, e2]; exact h

/-- Four cells of a rational's variable. -/
structure Four (W : World) (g : Nat) (a b c d : Value) : Prop where
  c0 : W.cell? ⟨g, 0, none⟩ = some a
  c1 : W.cell? ⟨g, 1, none⟩ = some b
  c2 : W.cell? ⟨g, 2, none⟩ = some c
  c3 : W.cell? ⟨g, 3, none⟩ = some d
  f0 : W.frozen? ⟨g, 0, none⟩ = false
  f1 : W.frozen? ⟨g, 1, none⟩ = false
  f2 : W.frozen? ⟨g, 2, none⟩ = false
  f3 : W.frozen? ⟨g, 3, none⟩ = false
  lt : g < W.heap.size

theorem Four.toB {W V : World} {g B : Nat} {a b c d : Value} (h : Four W g a b c d) (hb : Below B W V) (hg : g < B) : Four V g a b c d :=
  ⟨(hb.cell (p := ⟨g, 0, none⟩) hg).trans h.c0, (hb.cell (p := ⟨g, 1, none⟩) hg).trans h.c1, (hb.cell (p := ⟨g, 2, none⟩) hg).trans h.c2, (hb.cell (p := ⟨g, 3, none⟩) hg).trans h.c3,
   (hb.frozen (p := ⟨g, 0, none⟩) hg).trans h.f0, (hb.frozen (p := ⟨g, 1, none⟩) hg).trans h.f1, (hb.frozen (p := ⟨g, 2, none⟩) hg).trans h.f2, (hb.frozen (p := ⟨g, 3, none⟩) hg).trans h.f3, Nat.lt_of_lt_of_le h.lt hb.size⟩
theorem Four.to {W V : World} {g : Nat} {a b c d : Value} (h : Four W g a b c d) (hb : Below W.heap.size W V) : Four V g a b c d := h.toB hb h.lt

theorem Four.of {W : World} {g : Nat} {a b c d : Value} {t : TypeId} (h : W.heap[g]? = some (.cells #[a, b, c, d] t (0, 0))) : Four W g a b c d :=
  ⟨by simp [World.cell?, h], by simp [World.cell?, h], by simp [World.cell?, h], by simp [World.cell?, h], by simp [World.frozen?, h], by simp [World.frozen?, h], by simp [World.frozen?, h], by simp [World.frozen?, h], (Array.getElem?_eq_some_iff.1 h).1⟩
theorem Four.new (W : World) (a b c d : Value) (t : TypeId) : Four (W.alloc (.cells #[a, b, c, d] t)) W.heap.size a b c d := Four.of (World.alloc_heap_new W _)
theorem Four.alloc {W : World} {g : Nat} {a b c d : Value} (h : Four W g a b c d) (o : Obj) : Four (W.alloc o) g a b c d := h.to ((Below.refl _ _).alloc (Nat.le_refl _) _)

/-- The world behind a store of four cells. -/
def put4 (W : World) (g : Nat) (a b c d : Value) : World := (((W.setCell ⟨g, 0, none⟩ a).setCell ⟨g, 1, none⟩ b).setCell ⟨g, 2, none⟩ c).setCell ⟨g, 3, none⟩ d

/-- Four cells that are the rational r in canonical form. -/
def Qc (W : World) (a b c d : Value) (r : Rat) : Prop := Zc W a b r.num ∧ Zc W c d (if r.den = 1 then 0 else (r.den : Int))

theorem Zc.zero (W : World) : Zc W (.bool false) (.slice none 0 0) 0 := ⟨none, 0, rfl, rfl, Rd.nil, Nat.le_refl _, by decide⟩
theorem Qc.to {W V : World} {a b c d : Value} {r : Rat} (h : Qc W a b c d r) (hb : Below W.heap.size W V) : Qc V a b c d r := ⟨h.1.to hb, h.2.to hb⟩

/-- A call hands back the rational r, in canonical form. -/
def QR (w : World) (r : Rat) (e : Ending) (w' : World) : Prop := ∃ a b c d, e = .returned (.agg #[a, b, c, d]) ∧ Qc w' a b c d r ∧ Below w.heap.size w w'
end Go.Proofs.Ytbpeekhbmabibaa

namespace Go.Proofs.Ytbpeekhbmabibaa
open Go.RowKit Go.Shelf

theorem inI_one : inI 1 = true ∧ i64v 1 = 1 := inI_t (by decide) (by decide)

set_option maxHeartbeats 2000000 in
theorem isOne_z {w : World} {x y : Value} {a : Int} (ha : Zi w x y a) : Calls Try.prog 31 #[.agg #[x, y]] w fun e w' => e = .returned (.bool (decide (a = 1))) ∧ Below w.heap.size w w' := by
  have hb := Lib.hid ((Below.refl w.heap.size w).alloc (Nat.le_refl _) (.cells #[x, y] 24))
  have HI := Lib.hid (int64_z (ha.to hb.out))
  have hone : a = 1 → inI a = true ∧ i64v a = 1 := by rintro rfl; exact inI_one
  have hne : a ≠ 1 → inI a = true → i64v a ≠ 1 := fun h h1 h2 => by unfold i64v at h2; rw [h1] at h2; exact h h2
  obtain ⟨i, ei⟩ : ∃ i, i64v a = i := ⟨_, rfl⟩
  obtain ⟨so, es⟩ : ∃ s, inI a = s := ⟨_, rfl⟩
  rw [ei, es] at HI hone hne
  have HR : Hid ((so = true ∧ i = 1 ∧ decide (a = 1) = true) ∨ (so = true ∧ i ≠ 1 ∧ decide (a = 1) = false) ∨ (so = false ∧ decide (a = 1) = false)) := by
    by_cases h : a = 1
    · exact .inl ⟨(hone h).1, (hone h).2, decide_eq_true h⟩
    · cases so
      · exact .inr (.inr ⟨rfl, decide_eq_false h⟩)
      · exact .inr (.inl ⟨rfl, hne h rfl, decide_eq_false h⟩)
  clear hone hne ei es ha
  rcases HR.out with ⟨rfl, rfl, hr⟩ | ⟨rfl, hi, hr⟩ | ⟨rfl, hr⟩
  · rw [hr]
    clear hr HR
    go_enter Try.func31, Try.ntmps31
    go_wp2_with fail
    refine HI.out.mono ?_
    rintro e w' ⟨rfl, b⟩
    have HB := Lib.hid (hb.out.trans (b.mono hb.out.size))
    clear b HI
    go_wp2
    go_ret
    exact ⟨rfl, HB.out⟩
  · rw [hr]
    have hi2 : (i == 1) = false := by simpa using hi
    clear hr HR hi
    go_enter Try.func31, Try.ntmps31
    go_wp2_with fail
    refine HI.out.mono ?_
    rintro e w' ⟨rfl, b⟩
    have HB := Lib.hid (hb.out.trans (b.mono hb.out.size))
    clear b HI
    go_wp2
    go_ret
    exact ⟨rfl, HB.out⟩
  · rw [hr]
    clear hr HR
    go_enter Try.func31, Try.ntmps31
    go_wp2_with fail
    refine HI.out.mono ?_
    rintro e w' ⟨rfl, b⟩
    have HB := Lib.hid (hb.out.trans (b.mono hb.out.size))
    clear b HI
    go_wp2
    go_ret
    exact ⟨rfl, HB.out⟩

/-- Behind a store into a rational's variable. -/
structure Kept4 (g : Nat) (w V : World) : Prop where
  two : ∀ g' u v, g' ≠ g → Two w g' u v → Two V g' u v
  four : ∀ g' a b c d, g' ≠ g → Four w g' a b c d → Four V g' a b c d
  zc : ∀ x y z, Zc w x y z → Zc V x y z
  zi : ∀ x y z, Zi w x y z → Zi V x y z
  bel : ∀ B w0, Below B w0 w → B ≤ g → Below B w0 V
  size : V.heap.size = w.heap.size

theorem cell_put4 {W : World} {g : Nat} {a b c d : Value} {p : Addr} (hp : p.block ≠ g) (a' b' c' d' : Value) : (put4 W g a' b' c' d').cell? p = W.cell? p := by
  unfold put4
  rw [World.cell?_setCell_other _ _ _ _ (by intro e; exact hp (by rw [← e])), World.cell?_setCell_other _ _ _ _ (by intro e; exact hp (by rw [← e])), World.cell?_setCell_other _ _ _ _ (by intro e; exact hp (by rw [← e])), World.cell?_setCell_other _ _ _ _ (by intro e; exact hp (by rw [← e]))]
theorem frozen_put4 {W : World} {g : Nat} {p : Addr} (a' b' c' d' : Value) : (put4 W g a' b' c' d').frozen? p = W.frozen? p := by
  unfold put4
  rw [World.frozen?_setCell, World.frozen?_setCell, World.frozen?_setCell, World.frozen?_setCell]
theorem size_put4 {W : World} {g : Nat} (a' b' c' d' : Value) : (put4 W g a' b' c' d').heap.size = W.heap.size := by unfold put4; simp [World.setCell]

/-- Behind it the variable holds what was stored. -/
theorem Four.set {W : World} {g : Nat} {a b c d : Value} (h : Four W g a b c d) (a' b' c' d' : Value) : Four (put4 W g a' b' c' d') g a' b' c' d' := by
  have n01 : (⟨g, 0, none⟩ : Addr) ≠ ⟨g, 1, none⟩ := by simp
  have h0 : ((W.setCell ⟨g, 0, none⟩ a')).cell? ⟨g, 0, none⟩ = some a' := World.cell?_setCell_same' _ _ _ (by rw [h.c0]; rfl)
  have h1 : ((W.setCell ⟨g, 0, none⟩ a').setCell ⟨g, 1, none⟩ b').cell? ⟨g, 1, none⟩ = some b' := World.cell?_setCell_same' _ _ _ (by rw [World.cell?_setCell_other _ _ _ _ (by simp), h.c1]; rfl)
  have h2 : (((W.setCell ⟨g, 0, none⟩ a').setCell ⟨g, 1, none⟩ b').setCell ⟨g, 2, none⟩ c').cell? ⟨g, 2, none⟩ = some c' := World.cell?_setCell_same' _ _ _ (by rw [World.cell?_setCell_other _ _ _ _ (by simp), World.cell?_setCell_other _ _ _ _ (by simp), h.c2]; rfl)
  have h3 : (put4 W g a' b' c' d').cell? ⟨g, 3, none⟩ = some d' := World.cell?_setCell_same' _ _ _ (by rw [World.cell?_setCell_other _ _ _ _ (by simp), World.cell?_setCell_other _ _ _ _ (by simp), World.cell?_setCell_other _ _ _ _ (by simp), h.c3]; rfl)
  refine ⟨?_, ?_, ?_, h3, by rw [frozen_put4]; exact h.f0, by rw [frozen_put4]; exact h.f1, by rw [frozen_put4]; exact h.f2, by rw [frozen_put4]; exact h.f3, by rw [size_put4]; exact h.lt⟩
  · unfold put4
    rw [World.cell?_setCell_other _ _ _ _ (by simp), World.cell?_setCell_other _ _ _ _ (by simp), World.cell?_setCell_other _ _ _ _ (by simp)]; exact h0
  · unfold put4
    rw [World.cell?_setCell_other _ _ _ _ (by simp), World.cell?_setCell_other _ _ _ _ (by simp)]; exact h1
  · unfold put4
    rw [World.cell?_setCell_other _ _ _ _ (by simp)]; exact h2

theorem Rd.put4 {kd : IntKind} {w : World} {B g : Nat} {A : Option Addr} {xs : List Nat} {a b c d : Value} (t : Four w g a b c d) (h1 : ∀ n : Int, a ≠ .int kd n) (h2 : ∀ n : Int, b ≠ .int kd n) (h3 : ∀ n : Int, c ≠ .int kd n) (h4 : ∀ n : Int, d ≠ .int kd n) (h : Rd kd w B A xs) (a' b' c' d' : Value) : Rd kd (put4 w g a' b' c' d') B A xs := by
  intro k hk
  obtain ⟨b0, o, rfl, hb, hc⟩ := h k hk
  refine ⟨b0, o, rfl, hb, ?_⟩
  have hne : ∀ (j : Nat) (u : Value), w.cell? ⟨g, j, none⟩ = some u → (∀ n : Int, u ≠ .int kd n) → (⟨g, j, none⟩ : Addr) ≠ ⟨b0, o + k, none⟩ := fun j u hu hn e => by
    rw [e, hc] at hu
    injection hu with hu
    exact hn _ hu.symm
  unfold Go.Proofs.Ytbpeekhbmabibaa.put4
  rw [World.cell?_setCell_other _ _ _ _ (hne 3 d t.c3 h4), World.cell?_setCell_other _ _ _ _ (hne 2 c t.c2 h3), World.cell?_setCell_other _ _ _ _ (hne 1 b t.c1 h2), World.cell?_setCell_other _ _ _ _ (hne 0 a t.c0 h1)]
  exact hc

/-- A rational's cells: flags and slices. -/
def Fq (a b c d : Value) : Prop := Fs a b ∧ Fs c d
theorem Fs.nint {kd : IntKind} {x y : Value} (h : Fs x y) : (∀ n : Int, x ≠ .int kd n) ∧ (∀ n : Int, y ≠ .int kd n) := by
  obtain ⟨n, A, k, c, rfl, rfl⟩ := h
  exact ⟨(fun n e => by cases e), (fun n e => by cases e)⟩

theorem Kept4.of {w : World} {g : Nat} {a b c d : Value} (t : Four w g a b c d) (f : Fq a b c d) (a' b' c' d' : Value) : Kept4 g w (put4 w g a' b' c' d') := by
  have hr : ∀ A xs, Rd .u32 w w.heap.size A xs → Rd .u32 (put4 w g a' b' c' d') (put4 w g a' b' c' d').heap.size A xs := fun A xs h => by
    rw [size_put4]
    exact Rd.put4 t f.1.nint.1 f.1.nint.2 f.2.nint.1 f.2.nint.2 h _ _ _ _
  refine ⟨fun g' u v hne t' => ?_, fun g' p q r s hne t' => ?_, ?_, ?_, fun B w0 h hg => ?_, size_put4 _ _ _ _⟩
  · exact ⟨(cell_put4 (a := a) (b := b) (c := c) (d := d) hne _ _ _ _).trans t'.c0, (cell_put4 (a := a) (b := b) (c := c) (d := d) hne _ _ _ _).trans t'.c1, (frozen_put4 _ _ _ _).trans t'.f0, (frozen_put4 _ _ _ _).trans t'.f1, by rw [size_put4]; exact t'.lt⟩
  · exact ⟨(cell_put4 (a := a) (b := b) (c := c) (d := d) hne _ _ _ _).trans t'.c0, (cell_put4 (a := a) (b := b) (c := c) (d := d) hne _ _ _ _).trans t'.c1, (cell_put4 (a := a) (b := b) (c := c) (d := d) hne _ _ _ _).trans t'.c2, (cell_put4 (a := a) (b := b) (c := c) (d := d) hne _ _ _ _).trans t'.c3,
      (frozen_put4 _ _ _ _).trans t'.f0, (frozen_put4 _ _ _ _).trans t'.f1, (frozen_put4 _ _ _ _).trans t'.f2, (frozen_put4 _ _ _ _).trans t'.f3, by rw [size_put4]; exact t'.lt⟩
  · rintro x y z ⟨A, c, h1, h2, h3, h4, h5⟩
    exact ⟨A, c, h1, h2, hr _ _ h3, h4, h5⟩
  · rintro x y z ⟨n, A, c, xs, h1, h2, ⟨r1, r2, r3, r4, r5⟩, h4⟩
    exact ⟨n, A, c, xs, h1, h2, ⟨hr _ _ r1, r2, r3, r4, r5⟩, h4⟩
  · exact (((h.setCell (p := ⟨g, 0, none⟩) hg _).setCell (p := ⟨g, 1, none⟩) hg _).setCell (p := ⟨g, 2, none⟩) hg _).setCell (p := ⟨g, 3, none⟩) hg _

section
variable {ac : Act} {w : World} {K : Act → World → Prop} {Q : Exit → Act → World → Prop} {d : Option Tmp} {ty : TypeId} {pos : String} {after : Array Edge} {guard : Option (Nat × Bool)}

theorem wp_alloc_four (h : ∀ (g : Nat) (V : World), Four V g (.bool false) (.slice none 0 0) (.bool false) (.slice none 0 0) → Below w.heap.size w V → w.heap.size ≤ g → K (ac.put d (.pointer (some ⟨g, 0, none⟩))) V) :
    Oper.wp Try.prog ⟨d, .alloc 26, ty, pos, after, guard⟩ ac w K Q := by
  have h1 := h _ _ (Four.new w (.bool false) (.slice none 0 0) (.bool false) (.slice none 0 0) 26) ((Below.refl _ _).alloc (Nat.le_refl _) _) (Nat.le_refl _)
  go_simp
  exact h1

theorem wp_store_four {g : Nat} {a b c e a0 b0 c0 e0 : Value} {p v : Operand} (hp : ac.eval p = .pointer (some ⟨g, 0, none⟩)) (hv : ac.eval v = .agg #[a, b, c, e]) (t : Four w g a0 b0 c0 e0) (f0 : Fq a0 b0 c0 e0) (f1 : Fq a b c e)
    (h : ∀ V : World, Four V g a b c e → Kept4 g w V → K (ac.put d undef) V) :
    Oper.wp Try.prog ⟨d, .store 26 p v, ty, pos, after, guard⟩ ac w K Q := by
  have h1 := h _ (t.set a b c e) (Kept4.of t f0 a b c e)
  obtain ⟨⟨n1, A1, k1, l1, rfl, rfl⟩, ⟨n2, A2, k2, l2, rfl, rfl⟩⟩ := f1
  have u0 := t.c0
  have u1 := t.c1
  have u2 := t.c2
  have u3 := t.c3
  have v0 := t.f0
  have v1 := t.f1
  have v2 := t.f2
  have v3 := t.f3
  clear h t
  unfold put4 at h1
  simp only [Oper.wp, execOp, hp, hv]
  go_simp
  exact h1
end
end Go.Proofs.Ytbpeekhbmabibaa

namespace Go.Proofs.Ytbpeekhbmabibaa
open Go.RowKit Go.Shelf

theorem Zi.zero (W : World) : Zi W (.bool false) (.slice none 0 0) 0 := ⟨false, none, 0, [], rfl, rfl, ⟨Rd.nil, Dg.nil, by simp, by decide, by simp⟩, rfl⟩

theorem Four.far {w : World} {g g' : Nat} {a b c d : Value} (t : Four w g' a b c d) (hne : g' ≠ g) (u v : Value) : Four ((w.setCell ⟨g, 0, none⟩ u).setCell ⟨g, 1, none⟩ v) g' a b c d := by
  refine ⟨?_, ?_, ?_, ?_, ?_, ?_, ?_, ?_, by simpa [World.setCell] using t.lt⟩
  all_goals first
    | (rw [World.frozen?_setCell, World.frozen?_setCell]; first | exact t.f0 | exact t.f1 | exact t.f2 | exact t.f3)
    | (rw [World.cell?_setCell_other _ _ _ _ (by simp [Ne.symm hne]), World.cell?_setCell_other _ _ _ _ (by simp [Ne.symm hne])]; first | exact t.c0 | exact t.c1 | exact t.c2 | exact t.c3)

theorem pack2 {V : World} {g : Nat} {x0 y0 : Value} (t : Two V g x0 y0) (f : Fs x0 y0) (a b : Value) : ∃ V', (V.setCell ⟨g, 0, none⟩ a).setCell ⟨g, 1, none⟩ b = V' ∧ Two V' g a b ∧ Kept g V V' ∧ ∀ g' p q r s, g' ≠ g → Four V g' p q r s → Four V' g' p q r s :=
  ⟨_, rfl, t.set a b, Kept.of t f.nint.1 f.nint.2 a b, fun _ _ _ _ _ hne h => h.far hne a b⟩

theorem pack4 {V : World} {g : Nat} {a0 b0 c0 d0 : Value} (t : Four V g a0 b0 c0 d0) (f : Fq a0 b0 c0 d0) (a b c d : Value) : ∃ V', (((V.setCell ⟨g, 0, none⟩ a).setCell ⟨g, 1, none⟩ b).setCell ⟨g, 2, none⟩ c).setCell ⟨g, 3, none⟩ d = V' ∧ Four V' g a b c d ∧ Kept4 g V V' :=
  ⟨_, rfl, t.set a b c d, Kept4.of t f a b c d⟩

theorem Fq.nil : Fq (.bool false) (.slice none 0 0) (.bool false) (.slice none 0 0) := ⟨Fs.nil, Fs.nil⟩

set_option maxRecDepth 100000 in
set_option maxHeartbeats 4000000 in
theorem fromInteger_z {w : World} {x y : Value} {a : Int} (ha : Zi w x y a) : Calls Try.prog 16 #[.agg #[x, y]] w (QR w (a : Rat)) := by
  obtain ⟨W0, hW0⟩ : ∃ W0, W0 = (w.alloc (.cells #[x, y] 24)).alloc (.cells #[.bool false, .slice none 0 0, .bool false, .slice none 0 0] 26) := ⟨_, rfl⟩
  have hb : Below w.heap.size w W0 := by rw [hW0]; exact ((Below.refl _ _).alloc (Nat.le_refl _) _).alloc (by simp) _
  have tX : Two W0 w.heap.size x y := by rw [hW0]; exact (Two.new w _ _ _).alloc _
  have tR : Four W0 (w.heap.size + 1) (.bool false) (.slice none 0 0) (.bool false) (.slice none 0 0) := by
    have h := Four.new (w.alloc (.cells #[x, y] 24)) (.bool false) (.slice none 0 0) (.bool false) (.slice none 0 0) 26
    rw [World.size_alloc] at h
    rw [hW0]; exact h
  have HW0 := Lib.hid hW0
  have HA := Lib.hid (add_z (ha.to hb) (Zi.zero W0))
  rw [Int.add_zero] at HA
  have HB0 := Lib.hid hb
  clear hW0 ha hb
  go_enter Try.func16, Try.ntmps16
  go_wp2_with fail
  rw [← HW0.out]
  have k0 := tX.c0
  have k1 := tX.c1
  go_wp2_with fail
  refine HA.out.mono ?_
  rintro e V ⟨xr, yr, rfl, rz, bb⟩
  have t4 := tR.to bb
  have HB := Lib.hid (HB0.out.trans (bb.mono HB0.out.size))
  have RZ := Lib.hid rz
  obtain ⟨A3, c3, rfl, rfl, -⟩ := rz
  obtain ⟨V2, eV, u, kp⟩ := pack4 t4 Fq.nil (.bool (decide (a < 0))) (.slice A3 (dig b32 a.natAbs).length c3) (.bool false) (.slice none 0 0)
  obtain ⟨v0, v1, v2, v3, v4, v5, v6, v7, _⟩ := t4
  have EV := Lib.hid eV
  have KP := Lib.hid kp
  have U := Lib.hid u
  clear k0 k1 eV kp u bb HA tX tR
  go_wp2
  rw [EV.out]
  refine bodyPost_ret (v := .agg #[.bool (decide (a < 0)), .slice A3 (dig b32 a.natAbs).length c3, .bool false, .slice none 0 0]) (by simp [results, Try.f16, go_sem, U.out.c0, U.out.c1, U.out.c2, U.out.c3]) rfl ?_
  exact ⟨_, _, _, _, rfl, ⟨KP.out.zc _ _ _ RZ.out, Zc.zero V2⟩, KP.out.bel _ _ HB.out (by omega)⟩
end Go.Proofs.Ytbpeekhbmabibaa

namespace Go.Proofs.Ytbpeekhbmabibaa
open Go.RowKit Go.Shelf

/-- The divisor that brings a/b into canonical form. -/
def cmn (a b : Int) : Int := if b < 0 then -(Int.gcd a b : Int) else (Int.gcd a b : Int)

theorem cmn_num (a b : Int) (hb : b ≠ 0) : a / cmn a b = (Rat.divInt a b).num := by
  rw [Rat.num_divInt]
  unfold cmn
  have hg : ((b.gcd a : Nat) : Int) ∣ a := Int.gcd_dvd_right ..
  split
  · rename_i h
    rw [Int.sign_eq_neg_one_of_neg h, Int.ediv_neg, Int.gcd_comm a b, Int.neg_mul, Int.one_mul, Int.neg_ediv_of_dvd hg]
  · rename_i h
    rw [Int.sign_eq_one_of_pos (by omega), Int.gcd_comm a b, Int.one_mul]
theorem cmn_den (a b : Int) (hb : b ≠ 0) : b / cmn a b = ((Rat.divInt a b).den : Int) := by
  rw [Rat.den_divInt, if_neg hb]
  unfold cmn
  have hg : ((b.gcd a : Nat) : Int) ∣ b := Int.gcd_dvd_left ..
  rw [Int.gcd_comm a b, Int.natCast_ediv]
  split
  · rename_i h
    rw [Int.ediv_neg, show ((b.natAbs : Nat) : Int) = -b from by omega, Int.neg_ediv_of_dvd hg]
  · rename_i h
    rw [show ((b.natAbs : Nat) : Int) = b from by omega]
theorem cmn_ne (a b : Int) (hb : b ≠ 0) : cmn a b ≠ 0 := by
  have h : Int.gcd a b ≠ 0 := fun h => hb (Int.gcd_eq_zero_iff.1 h).2
  unfold cmn
  split <;> omega

theorem divInt_one (a : Int) : Rat.divInt a 1 = (a : Rat) := by
  apply Rat.ext
  · rw [Rat.num_divInt]; simp
  · rw [Rat.den_divInt]; simp

theorem sign_v {w : World} {x y : Value} {a v : Int} (h : Zi w x y a) (hv : sgn a = v) : Calls Try.prog 29 #[.agg #[x, y]] w fun e w' => e = .returned (.int .i64 v) ∧ Below w.heap.size w w' := by
  subst hv; exact sign_z h
theorem isOne_v {w : World} {x y : Value} {a : Int} {v : Bool} (ha : Zi w x y a) (hv : decide (a = 1) = v) : Calls Try.prog 31 #[.agg #[x, y]] w fun e w' => e = .returned (.bool v) ∧ Below w.heap.size w w' := by
  subst hv; exact isOne_z ha
theorem Sg.sm {z : Int} (h : Sg z) : Sm 2 z := by
  unfold Sm
  rw [show b32 ^ 2 = 18446744073709551616 from by decide]
  exact h
theorem Zc.zs {W : World} {x y : Value} {z : Int} (h : Zc W x y z) (hs : Sg z) : Zi W x y z := h.zi hs.sm (by decide)

theorem Sg.num {a b : Int} (sa : Sg a) (hb : b ≠ 0) : Sg (Rat.divInt a b).num := by
  rw [← cmn_num a b hb]
  unfold Sg at *
  have h1 : (a / cmn a b).natAbs ≤ a.natAbs := Int.natAbs_ediv_le_natAbs _ _
  omega
theorem Sg.den {a b : Int} (sb : Sg b) (hb : b ≠ 0) : Sg ((Rat.divInt a b).den : Int) := by
  rw [← cmn_den a b hb]
  unfold Sg at *
  have h1 : (b / cmn a b).natAbs ≤ b.natAbs := Int.natAbs_ediv_le_natAbs _ _
  omega
end Go.Proofs.Ytbpeekhbmabibaa
