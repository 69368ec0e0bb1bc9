/- The low decimal digits of a number, one after the other: plain mathematics. -/
import Derived.Test.YtlnjnoingiohjaaMath
namespace Go.Proofs.Ytlnjnoingiohjaa

/-- The n lowest digits of v, the lowest first. -/
def low (v : Nat) : Nat → List Nat
  | 0 => []
  | n + 1 => low v n ++ [v / 10 ^ n % 10]

theorem low_length (v : Nat) : ∀ n, (low v n).length = n
  | 0 => rfl
  | n + 1 => by simp [low, low_length v n]

theorem low_dg (v : Nat) : ∀ n, Dg 10 (low v n)
  | 0 => Dg.nil
  | n + 1 => by
    intro d hd
    rcases List.mem_append.1 hd with h | h
    · exact low_dg v n d h
    · obtain rfl : d = v / 10 ^ n % 10 := by simpa using h
      exact Nat.mod_lt _ (by decide)

theorem low_val (v : Nat) : ∀ n, val 10 (low v n) = v % 10 ^ n
  | 0 => by simp [low, val, Nat.mod_one]
  | n + 1 => by
    rw [low, val_append, low_val v n, low_length]
    simp only [val, Nat.mul_zero, Nat.add_zero]
    rw [Nat.pow_succ, Nat.mod_mul]

theorem low_dig {v j : Nat} (h : v < 10 ^ j) (h2 : 10 ^ (j - 1) ≤ v) (hj : 0 < j) : low v j = dig 10 v := by
  have h3 := trimL_dig (b := 10) (by decide) (low_dg v j)
  rw [low_val, Nat.mod_eq_of_lt h] at h3
  have h4 : (trimL (low v j)).length = j := by
    have h5 := trimL_le (low v j)
    rw [low_length] at h5
    by_cases h6 : (trimL (low v j)).length = j
    · exact h6
    · exfalso
      have h7 := val_lt (b := 10) (xs := trimL (low v j)) (by rw [h3]; exact Dg_dig (by decide) v)
      rw [val_trimL, low_val, Nat.mod_eq_of_lt h] at h7
      have h8 : 10 ^ (trimL (low v j)).length ≤ 10 ^ (j - 1) := Nat.pow_le_pow_right (by decide) (by omega)
      omega
  rw [trimL_length] at h4
  rw [← h3, trimL, h4]
  exact (List.take_of_length_le (by rw [low_length]; exact Nat.le_refl _)).symm

theorem low_take (v : Nat) {n : Nat} : ∀ {m : Nat}, n ≤ m → (low v m).take n = low v n
  | 0, h => by obtain rfl : n = 0 := by omega
               rfl
  | m + 1, h => by
    by_cases h2 : n = m + 1
    · subst h2; exact List.take_of_length_le (by rw [low_length]; omega)
    · rw [low, List.take_append_of_le_length (by rw [low_length]; omega)]
      exact low_take v (by omega)

/-- The low digits of what is left once n of them are gone. -/
theorem low_shift (v n i : Nat) : v / 10 ^ n % 10 ^ 9 / 10 ^ i % 10 = if i < 9 then v / 10 ^ (n + i) % 10 else 0 := by
  by_cases h : i < 9
  · rw [if_pos h, Nat.pow_add, ← Nat.div_div_eq_div_mul]
    have e : (10 : Nat) ^ 9 = 10 ^ i * (10 * 10 ^ (8 - i)) := by
      rw [← Nat.mul_assoc, ← Nat.pow_succ, ← Nat.pow_add]
      congr 1
      omega
    generalize v / 10 ^ n = a
    rw [e, Nat.mod_mul_right_div_self, Nat.mod_mul_right_mod]
  · rw [if_neg h, Nat.div_eq_of_lt (Nat.lt_of_lt_of_le (Nat.mod_lt _ (by decide)) (Nat.pow_le_pow_right (by decide) (by omega)))]

/-- The bytes of the decimal representation, the last one first. -/
def revB (neg : Bool) (ds : List Nat) : List Nat := ds.map (48 + ·) ++ (if neg then [45] else [])
end Go.Proofs.Ytlnjnoingiohjaa
