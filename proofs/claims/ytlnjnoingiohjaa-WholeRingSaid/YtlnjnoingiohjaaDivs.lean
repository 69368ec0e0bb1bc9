/- Division of a row of words by one word, from the highest word on: plain mathematics. -/
import Derived.Test.YtlnjnoingiohjaaSum
namespace Go.Proofs.Ytlnjnoingiohjaa

/-- Quotient words and remainder. -/
def divs (d : Nat) : List Nat → List Nat × Nat
  | [] => ([], 0)
  | x :: r => (((divs d r).2 * 4294967296 + x) / d :: (divs d r).1, ((divs d r).2 * 4294967296 + x) % d)

theorem divs_length (d : Nat) : ∀ xs, (divs d xs).1.length = xs.length
  | [] => rfl
  | x :: r => by simp [divs, divs_length d r]

theorem divs_lt {d : Nat} (hd : 0 < d) : ∀ xs, (divs d xs).2 < d
  | [] => hd
  | x :: r => Nat.mod_lt _ hd

theorem divs_dg {d : Nat} (hd : 0 < d) : ∀ {xs}, Dg b32 xs → Dg b32 (divs d xs).1
  | [], _ => Dg.nil
  | x :: r, h => by
    have h1 := h x (by simp)
    have h2 := divs_lt hd r
    refine Dg.cons ?_ (divs_dg hd fun e he => h e (List.mem_cons_of_mem _ he))
    unfold b32 at h1 ⊢
    rw [Nat.div_lt_iff_lt_mul hd]
    have h3 : ((divs d r).2 + 1) * 4294967296 ≤ d * 4294967296 := Nat.mul_le_mul_right _ h2
    rw [Nat.mul_comm 4294967296 d]
    omega

theorem divs_val {d : Nat} : ∀ xs, val b32 xs = val b32 (divs d xs).1 * d + (divs d xs).2
  | [] => by simp [divs, val]
  | x :: r => by
    have ih := divs_val (d := d) r
    have h := Nat.div_add_mod ((divs d r).2 * 4294967296 + x) d
    simp only [divs, val]
    rw [ih, Nat.add_mul, Nat.mul_assoc b32, Nat.mul_add]
    generalize val b32 (divs d r).1 * d = a
    rw [Nat.mul_comm d] at h
    generalize ((divs d r).2 * 4294967296 + x) / d * d = b at h ⊢
    generalize ((divs d r).2 * 4294967296 + x) % d = e at h ⊢
    have h2 : b32 * (divs d r).2 = (divs d r).2 * 4294967296 := Nat.mul_comm _ _
    rw [h2]
    omega

theorem divs_quot {d : Nat} (hd : 0 < d) (xs : List Nat) : val b32 (divs d xs).1 = val b32 xs / d ∧ (divs d xs).2 = val b32 xs % d := by
  have h1 := divs_val (d := d) xs
  have h2 := divs_lt hd xs
  rw [h1]
  constructor
  · rw [Nat.add_comm, Nat.add_mul_div_right _ _ hd, Nat.div_eq_of_lt h2]; omega
  · rw [Nat.add_comm, Nat.add_mul_mod_self_right, Nat.mod_eq_of_lt h2]

/-- The row when the words from place m on have been divided. -/
def divRow (d : Nat) (xs : List Nat) (m : Nat) : List Nat := xs.take m ++ (divs d (xs.drop m)).1

theorem divRow_length (d : Nat) (xs : List Nat) (m : Nat) (h : m ≤ xs.length) : (divRow d xs m).length = xs.length := by
  simp [divRow, divs_length]; omega
theorem divRow_full (d : Nat) (xs : List Nat) : divRow d xs xs.length = xs := by simp [divRow, divs]
theorem divRow_zero (d : Nat) (xs : List Nat) : divRow d xs 0 = (divs d xs).1 := by simp [divRow]
theorem divRow_low (d : Nat) (xs : List Nat) (m j : Nat) (hm : m ≤ xs.length) (h : j < m) : (divRow d xs m)[j]? = xs[j]? := by
  unfold divRow
  rw [List.getElem?_append_left (by simp; omega), List.getElem?_take, if_pos h]

theorem divs_step (d : Nat) (xs : List Nat) (m : Nat) (h : m < xs.length) : divs d (xs.drop m) =
    (((divs d (xs.drop (m + 1))).2 * 4294967296 + xs[m]) / d :: (divs d (xs.drop (m + 1))).1, ((divs d (xs.drop (m + 1))).2 * 4294967296 + xs[m]) % d) := by
  rw [List.drop_eq_getElem_cons h]; rfl

theorem divRow_step (d : Nat) (xs : List Nat) (m : Nat) (h : m < xs.length) : divRow d xs m = (divRow d xs (m + 1)).set m (((divs d (xs.drop (m + 1))).2 * 4294967296 + xs[m]) / d) := by
  unfold divRow
  rw [divs_step d xs m h, take_snoc xs m h, List.append_assoc, List.set_append_right _ _ (List.length_take_le _ _)]
  have hl : (xs.take m).length = m := by simp; omega
  rw [hl, Nat.sub_self]
  rfl
end Go.Proofs.Ytlnjnoingiohjaa
