/- Package whole's operations, said of integers. -/
import Derived.Test.YtlnjnoingiohjaaMulOp
import Derived.Test.YtlnjnoingiohjaaCmp
import Derived.Test.YtlnjnoingiohjaaIsCan
import Derived.Test.YtlnjnoingiohjaaSame
namespace Go.Proofs.Ytlnjnoingiohjaa
open Go.RowKit Go.Shelf

/-- Two cells that are an integer, in whatever form. -/
def Zi (W : World) (x y : Value) (z : Int) : Prop := ∃ n A c xs, x = .bool n ∧ y = .slice A xs.length c ∧ Arg W A c xs ∧ zof n (val b32 xs) = z

/-- Two cells that are an integer in canonical form. -/
def Zc (W : World) (x y : Value) (z : Int) : Prop := ∃ A c, x = .bool (decide (z < 0)) ∧ y = .slice A (dig b32 z.natAbs).length c ∧ Rd .u32 W W.heap.size A (dig b32 z.natAbs) ∧ (dig b32 z.natAbs).length ≤ c ∧ c ≤ 9223372036854775807

/-- An integer of at most k words. -/
def Sm (k : Nat) (z : Int) : Prop := z.natAbs < b32 ^ k

theorem Zi.to {W V : World} {x y : Value} {z : Int} (h : Zi W x y z) (hb : Below W.heap.size W V) : Zi V x y z := by
  obtain ⟨n, A, c, xs, h1, h2, h3, h4⟩ := h
  exact ⟨n, A, c, xs, h1, h2, h3.to hb, h4⟩
theorem Zc.to {W V : World} {x y : Value} {z : Int} (h : Zc W x y z) (hb : Below W.heap.size W V) : Zc V x y z := by
  obtain ⟨A, c, h1, h2, h3, h4, h5⟩ := h
  exact ⟨A, c, h1, h2, h3.to hb, h4, h5⟩

theorem Sm.add {k : Nat} {a b : Int} (ha : Sm k a) (hb : Sm k b) : Sm (k + 1) (a + b) := by
  unfold Sm at *
  rw [Nat.pow_succ]
  have : b32 ^ k * 2 ≤ b32 ^ k * b32 := Nat.mul_le_mul_left _ (by decide)
  omega
theorem Sm.sub {k : Nat} {a b : Int} (ha : Sm k a) (hb : Sm k b) : Sm (k + 1) (a - b) := by
  unfold Sm at *
  rw [Nat.pow_succ]
  have : b32 ^ k * 2 ≤ b32 ^ k * b32 := Nat.mul_le_mul_left _ (by decide)
  omega
theorem Sm.mono {k l : Nat} {a : Int} (ha : Sm k a) (h : k ≤ l) : Sm l a := Nat.lt_of_lt_of_le ha (Nat.pow_le_pow_right (by decide) h)
theorem Sm.mul {k l : Nat} {a b : Int} (ha : Sm k a) (hb : Sm l b) : Sm (k + l) (a * b) := by
  unfold Sm at *
  rw [Int.natAbs_mul, Nat.pow_add]
  exact Nat.mul_lt_mul'' ha hb
theorem Sm.abs {k : Nat} {a : Int} (ha : Sm k a) : Sm k (a.natAbs : Int) := by unfold Sm at *; rwa [Int.natAbs_natCast]
theorem Sm.neg {k : Nat} {a : Int} (ha : Sm k a) : Sm k (-a) := by unfold Sm at *; rwa [Int.natAbs_neg]
theorem Sm.zof {k : Nat} {n : Bool} {xs : List Nat} (h : Dg b32 xs) (hl : xs.length ≤ k) : Sm k (zof n (val b32 xs)) := by
  unfold Sm
  rw [zof_abs]
  exact Nat.lt_of_lt_of_le (val_lt h) (Nat.pow_le_pow_right (by decide) hl)

theorem zof_dec (z : Int) : zof (decide (z < 0)) z.natAbs = z := by
  by_cases h : z < 0 <;> simp [h, Go.Proofs.Ytlnjnoingiohjaa.zof] <;> omega

theorem Zc.zi {W : World} {x y : Value} {z : Int} {k : Nat} (h : Zc W x y z) (hs : Sm k z) (hk : k ≤ 4294967295) : Zi W x y z := by
  obtain ⟨A, c, h1, h2, h3, h4, h5⟩ := h
  exact ⟨_, A, c, _, h1, h2, ⟨h3, Dg_dig b32_one _, h4, h5, Nat.le_trans (dig_length_le b32_one hs) hk⟩, by rw [val_dig b32_one]; exact zof_dec z⟩

/-- A call hands back z, in canonical form. -/
def ZR (w : World) (z : Int) (e : Ending) (w' : World) : Prop := ∃ x y, e = .returned (.agg #[x, y]) ∧ Zc w' x y z ∧ Below w.heap.size w w'

theorem ZRet.zr {w w' : World} {z : Int} {e : Ending} (h : ZRet w z e w') : ZR w z e w' := by
  obtain ⟨A, c, rfl, h1, h2, h3, h4⟩ := h
  exact ⟨_, _, rfl, ⟨A, c, rfl, rfl, h1, h2, h3⟩, h4⟩

variable {w : World} {x y x' y' : Value} {a b : Int}

theorem add_z (ha : Zi w x y a) (hb : Zi w x' y' b) : Calls Try.prog 19 #[.agg #[x, y], .agg #[x', y']] w (ZR w (a + b)) := by
  obtain ⟨n, A, c, xs, rfl, rfl, h3, rfl⟩ := ha
  obtain ⟨m, B, d, ys, rfl, rfl, k3, rfl⟩ := hb
  exact (add_any n m h3 k3).mono fun _ _ h => h.zr

theorem sub_z (ha : Zi w x y a) (hb : Zi w x' y' b) : Calls Try.prog 21 #[.agg #[x, y], .agg #[x', y']] w (ZR w (a - b)) := by
  obtain ⟨n, A, c, xs, rfl, rfl, h3, rfl⟩ := ha
  obtain ⟨m, B, d, ys, rfl, rfl, k3, rfl⟩ := hb
  exact (sub_any n m h3 k3).mono fun _ _ h => h.zr

theorem zof_mul (n m : Bool) (a b : Nat) : zof (!(n == m)) (a * b) = zof n a * zof m b := by
  cases n <;> cases m <;> simp [zof, Int.neg_mul, Int.mul_neg]

theorem mul_z (ha : Zi w x y a) (hb : Zi w x' y' b) : Calls Try.prog 23 #[.agg #[x, y], .agg #[x', y']] w (ZR w (a * b)) := by
  obtain ⟨n, A, c, xs, rfl, rfl, h3, rfl⟩ := ha
  obtain ⟨m, B, d, ys, rfl, rfl, k3, rfl⟩ := hb
  have h := mul_any n m h3 k3
  rw [zof_mul] at h
  exact h.mono fun _ _ h => h.zr

theorem neg_z (ha : Zi w x y a) : Calls Try.prog 25 #[.agg #[x, y]] w (ZR w (-a)) := by
  obtain ⟨n, A, c, xs, rfl, rfl, h3, rfl⟩ := ha
  have h := neg_any n h3
  rw [zof_not] at h
  exact h.mono fun _ _ h => h.zr

theorem abs_z (ha : Zi w x y a) : Calls Try.prog 27 #[.agg #[x, y]] w (ZR w (a.natAbs : Int)) := by
  obtain ⟨n, A, c, xs, rfl, rfl, h3, rfl⟩ := ha
  rw [zof_abs]
  exact (abs_any n h3).mono fun _ _ h => h.zr

theorem sign_z (ha : Zi w x y a) : Calls Try.prog 29 #[.agg #[x, y]] w fun e w' => e = .returned (.int .i64 (sgn a)) ∧ Below w.heap.size w w' := by
  obtain ⟨n, A, c, xs, rfl, rfl, h3, rfl⟩ := ha
  exact sign_any n h3

theorem cmp_z (ha : Zi w x y a) (hb : Zi w x' y' b) : Calls Try.prog 31 #[.agg #[x, y], .agg #[x', y']] w fun e w' => e = .returned (.int .i64 (cmpZ a b)) ∧ Below w.heap.size w w' := by
  obtain ⟨n, A, c, xs, rfl, rfl, h3, rfl⟩ := ha
  obtain ⟨m, B, d, ys, rfl, rfl, k3, rfl⟩ := hb
  exact cmp_any n m h3 k3

theorem dig_last {b n : Nat} (hb : 1 < b) (h : (dig b n).length ≠ 0) : (dig b n).getD ((dig b n).length - 1) 0 ≠ 0 := by
  have h1 := trimN_of_dig hb n
  intro h0
  obtain ⟨ys, d, hd⟩ : ∃ ys d, dig b n = ys ++ [d] := by
    rcases List.eq_nil_or_concat (dig b n) with h2 | ⟨ys, d, h2⟩
    · rw [h2] at h; exact absurd rfl h
    · exact ⟨ys, d, by simpa using h2⟩
  rw [hd] at h0 h1
  simp at h0
  subst h0
  rw [trimN_snoc_zero] at h1
  have := trimN_le ys
  simp at h1
  omega

theorem canon_dig (z : Int) : canon (decide (z < 0)) (dig b32 z.natAbs) = true := by
  unfold canon
  split
  · rename_i h
    have h1 : z.natAbs = 0 := (dig_nil b32_one).1 (List.eq_nil_of_length_eq_zero h)
    have h2 : z = 0 := by omega
    subst h2; rfl
  · rename_i h
    exact decide_eq_true (dig_last b32_one h)

theorem isCan_c {k : Nat} (ha : Zc w x y a) (hs : Sm k a) (hk : k ≤ 4294967295) : Calls Try.prog 17 #[.agg #[x, y]] w fun e w' => e = .returned (.bool true) ∧ Below w.heap.size w w' := by
  obtain ⟨A, c, rfl, rfl, h3, h4, h5⟩ := ha
  have h := isCanonical_any (decide (a < 0)) (⟨h3, Dg_dig b32_one _, h4, h5, Nat.le_trans (dig_length_le b32_one hs) hk⟩ : Arg w A c (dig b32 a.natAbs))
  rw [canon_dig] at h
  exact h

theorem zof_inj_dec {a b : Int} (h1 : decide (a < 0) = decide (b < 0)) (h2 : dig b32 a.natAbs = dig b32 b.natAbs) : a = b := by
  have h3 := dig_inj b32_one h2
  by_cases ha : a < 0 <;> by_cases hb : b < 0 <;> simp [ha, hb] at h1 <;> omega

theorem same_c (ha : Zc w x y a) (hb : Zc w x' y' b) : Calls Try.prog 14 #[.agg #[x, y], .agg #[x', y']] w fun e w' => e = .returned (.bool (decide (a = b))) ∧ Below w.heap.size w w' := by
  obtain ⟨A, c, rfl, rfl, h3, h4, h5⟩ := ha
  obtain ⟨A', c', rfl, rfl, k3, k4, k5⟩ := hb
  have h := same_any (decide (a < 0)) (decide (b < 0)) h3 k3 h4 h5 k4 k5
  rw [show decide (decide (a < 0) = decide (b < 0) ∧ dig b32 a.natAbs = dig b32 b.natAbs) = decide (a = b) from by
    rw [decide_eq_decide]
    exact ⟨fun h => zof_inj_dec h.1 h.2, fun h => by rw [h]; exact ⟨rfl, rfl⟩⟩] at h
  exact h

theorem same_t (ha : Zc w x y a) (hb : Zc w x' y' b) (h : a = b) : Calls Try.prog 14 #[.agg #[x, y], .agg #[x', y']] w fun e w' => e = .returned (.bool true) ∧ Below w.heap.size w w' := by
  have h1 := same_c ha hb
  rw [decide_eq_true h] at h1
  exact h1

/-- A load of an integer's two cells. -/
theorem load_two {W : World} {g t : Nat} {u v : Value} {ac : Act} {d : Option Tmp} {ty : TypeId} {pos : String} {after : Array Edge} {guard : Option (Nat × Bool)} (ht : ac.eval (.tmp t) = .pointer (some ⟨g, 0, none⟩)) (h : Two W g u v) :
    (execOp ac.eval ⟨d, .load 24 (.tmp t), ty, pos, after, guard⟩).run Try.prog W = .ok (.value (.agg #[u, v])) W := by
  have h0 := h.c0
  have h1 := h.c1
  simp only [execOp, ht]
  go_simp
end Go.Proofs.Ytlnjnoingiohjaa
