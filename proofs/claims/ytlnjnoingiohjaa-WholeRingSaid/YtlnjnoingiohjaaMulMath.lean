/- Multiplication word by word: plain mathematics. -/
import Derived.Test.YtlnjnoingiohjaaSum
namespace Go.Proofs.Ytlnjnoingiohjaa

theorem val_set {b : Nat} : ∀ (P : List Nat) (j v : Nat), j < P.length → val b (P.set j v) + b ^ j * P.getD j 0 = val b P + b ^ j * v
  | [], j, v, h => by simp at h
  | x :: r, 0, v, _ => by simp [val]; omega
  | x :: r, j + 1, v, h => by
    have ih := val_set (b := b) r j v (by simpa using h)
    have h1 := congrArg (b * ·) ih
    simp only [Nat.mul_add] at h1
    simp only [List.set_cons_succ, val, List.getD_cons_succ, Nat.pow_succ']
    rw [Nat.mul_assoc, Nat.mul_assoc]
    omega

theorem getD_set_other (P : List Nat) {j i : Nat} (v : Nat) (h : j ≠ i) : (P.set j v).getD i 0 = P.getD i 0 := by
  simp [List.getD, h]

theorem Dg.set {b : Nat} {P : List Nat} (h : Dg b P) (j : Nat) {v : Nat} (hv : v < b) : Dg b (P.set j v) := by
  intro d hd
  rcases List.mem_or_eq_of_mem_set hd with h1 | h1
  · exact h d h1
  · rw [h1]; exact hv

/-- One round of the inner loop. -/
theorem mul_step {b i k f u v r S T : Nat} {P : List Nat} (hP : i + k < P.length) (hv : P.getD (i + k) 0 = v) (h : val b P + b ^ (i + k) * r = S + b ^ i * (f * T)) :
    val b (P.set (i + k) ((f * u + v + r) % b)) + b ^ (i + (k + 1)) * ((f * u + v + r) / b) = S + b ^ i * (f * (T + b ^ k * u)) := by
  have h1 := val_set (b := b) P (i + k) ((f * u + v + r) % b) hP
  rw [hv] at h1
  have h2 := Nat.div_add_mod (f * u + v + r) b
  have h3 : b ^ (i + (k + 1)) * ((f * u + v + r) / b) = b ^ (i + k) * (b * ((f * u + v + r) / b)) := by
    rw [← Nat.add_assoc, Nat.pow_succ, Nat.mul_assoc]
  have h4 : b ^ i * (f * (T + b ^ k * u)) = b ^ i * (f * T) + b ^ (i + k) * (f * u) := by
    rw [Nat.mul_add, Nat.mul_add, Nat.pow_add, Nat.mul_assoc (b ^ i) (b ^ k), ← Nat.mul_assoc f (b ^ k) u, Nat.mul_comm f (b ^ k), Nat.mul_assoc (b ^ k) f u]
  have h5 : b ^ (i + k) * (b * ((f * u + v + r) / b)) + b ^ (i + k) * ((f * u + v + r) % b) = b ^ (i + k) * (f * u) + b ^ (i + k) * v + b ^ (i + k) * r := by
    rw [← Nat.mul_add, h2, Nat.mul_add, Nat.mul_add]
  rw [h3, h4]
  omega

/-- The word behind the inner loop. -/
theorem mul_last {b i m f r S T : Nat} {P : List Nat} (hP : i + m < P.length) (hv : P.getD (i + m) 0 = 0) (h : val b P + b ^ (i + m) * r = S + b ^ i * (f * T)) :
    val b (P.set (i + m) r) = S + b ^ i * (f * T) := by
  have h1 := val_set (b := b) P (i + m) r hP
  rw [hv] at h1
  omega

theorem carry_lt {b f u v r : Nat} (hf : f < b) (hu : u < b) (hv : v < b) (hr : r < b) : f * u + v + r < b * b := by
  have h1 : f * u ≤ (b - 1) * (b - 1) := Nat.mul_le_mul (by omega) (by omega)
  have h2 : (b - 1) * (b - 1) + 2 * (b - 1) + 1 = b * b := by
    obtain ⟨c, rfl⟩ : ∃ c, b = c + 1 := ⟨b - 1, by omega⟩
    simp only [Nat.add_sub_cancel]
    rw [Nat.add_mul, Nat.mul_add]
    omega
  omega
end Go.Proofs.Ytlnjnoingiohjaa
