/- Sums and differences of rows of words, word by word: plain mathematics. -/
import Derived.Test.YtlnjnoingiohjaaMath
namespace Go.Proofs.Ytlnjnoingiohjaa

/-- What is carried into place k of xs + q ys. -/
def crr (q : Int) (xs ys : List Nat) : Nat → Int
  | 0 => 0
  | k + 1 => ((xs.getD k 0 : Nat) + q * (ys.getD k 0 : Nat) + crr q xs ys k) / 4294967296

/-- The word at place k. -/
def outD (q : Int) (xs ys : List Nat) (k : Nat) : Nat := (((xs.getD k 0 : Nat) + q * (ys.getD k 0 : Nat) + crr q xs ys k) % 4294967296).toNat

def outs (q : Int) (xs ys : List Nat) : Nat → List Nat
  | 0 => []
  | k + 1 => outs q xs ys k ++ [outD q xs ys k]

theorem outs_length (q : Int) (xs ys : List Nat) : ∀ k, (outs q xs ys k).length = k
  | 0 => rfl
  | k + 1 => by simp [outs, outs_length q xs ys k]

theorem outD_lt (q : Int) (xs ys : List Nat) (k : Nat) : outD q xs ys k < b32 := by
  unfold outD b32
  omega

theorem outD_cast (q : Int) (xs ys : List Nat) (k : Nat) : ((outD q xs ys k : Nat) : Int) = ((xs.getD k 0 : Nat) + q * (ys.getD k 0 : Nat) + crr q xs ys k) % 4294967296 := by
  unfold outD
  omega

theorem outs_dg (q : Int) (xs ys : List Nat) : ∀ k, Dg b32 (outs q xs ys k)
  | 0 => Dg.nil
  | k + 1 => (outs_dg q xs ys k).app (Dg.one (outD_lt q xs ys k))

theorem val_take_succ {b : Nat} (xs : List Nat) (k : Nat) : val b (xs.take (k + 1)) = val b (xs.take k) + b ^ k * xs.getD k 0 := by
  by_cases h : k < xs.length
  · rw [take_snoc xs k h, val_append, getD_at h]
    have : (xs.take k).length = k := by simp; omega
    rw [this]
    simp [val]
  · rw [getD_over (by omega), List.take_of_length_le (by omega), List.take_of_length_le (by omega)]
    simp

theorem getD_dg {b : Nat} (hb : 0 < b) {xs : List Nat} (h : Dg b xs) (k : Nat) : xs.getD k 0 < b := by
  by_cases hk : k < xs.length
  · rw [getD_at hk]; exact h.at_ hk
  · rw [getD_over (by omega)]; exact hb

theorem outs_val (q : Int) (xs ys : List Nat) : ∀ k, ((val b32 (outs q xs ys k) : Nat) : Int) + (b32 ^ k : Nat) * crr q xs ys k = (val b32 (xs.take k) : Nat) + q * (val b32 (ys.take k) : Nat)
  | 0 => by simp [outs, val, crr]
  | k + 1 => by
    have ih := outs_val q xs ys k
    rw [outs, val_append, outs_length, val_take_succ xs k, val_take_succ ys k, crr]
    simp only [val, Nat.mul_zero, Nat.add_zero]
    have h1 := outD_cast q xs ys k
    have h2 := Int.emod_add_mul_ediv ((xs.getD k 0 : Nat) + q * (ys.getD k 0 : Nat) + crr q xs ys k) 4294967296
    rw [← h1] at h2
    generalize ((xs.getD k 0 : Nat) + q * (ys.getD k 0 : Nat) + crr q xs ys k : Int) / 4294967296 = c at h2 ⊢
    generalize outD q xs ys k = d at h1 h2 ⊢
    clear h1
    have h3 : ((b32 ^ (k + 1) : Nat) : Int) = (b32 ^ k : Nat) * 4294967296 := by rw [Nat.pow_succ]; simp [b32]
    rw [h3]
    simp only [Int.natCast_add, Int.natCast_mul]
    have h4 : ((b32 ^ k : Nat) : Int) * ((d : Int) + 4294967296 * c) = (b32 ^ k : Nat) * ((xs.getD k 0 : Nat) + q * (ys.getD k 0 : Nat) + crr q xs ys k) := by rw [h2]
    simp only [Int.mul_add] at h4 ⊢
    have h5 : q * (((b32 ^ k : Nat) : Int) * ((ys.getD k 0 : Nat) : Int)) = (b32 ^ k : Nat) * (q * (ys.getD k 0 : Nat)) := by rw [Int.mul_left_comm]
    rw [h5, Int.mul_assoc]
    omega

theorem crr_bounds {q : Int} (hq : q = 1 ∨ q = -1) {xs ys : List Nat} (hx : Dg b32 xs) (hy : Dg b32 ys) : ∀ k, -1 ≤ crr q xs ys k ∧ crr q xs ys k ≤ 1
  | 0 => by simp [crr]
  | k + 1 => by
    obtain ⟨h1, h2⟩ := crr_bounds hq hx hy k
    have h3 := getD_dg (by decide) hx k
    have h4 := getD_dg (by decide) hy k
    unfold b32 at h3 h4
    rw [crr]
    rcases hq with rfl | rfl <;> omega

/-- The last word is what is carried out at the end. -/
theorem outs_all {q : Int} (hq : q = 1 ∨ q = -1) {xs ys : List Nat} (hx : Dg b32 xs) (hy : Dg b32 ys) (h0 : 0 ≤ ((val b32 xs : Nat) : Int) + q * (val b32 ys : Nat)) {N : Nat} (hN : xs.length ≤ N) (hN' : ys.length ≤ N) :
    ((val b32 (outs q xs ys (N + 1)) : Nat) : Int) = (val b32 xs : Nat) + q * (val b32 ys : Nat) := by
  have h1 := outs_val q xs ys N
  rw [List.take_of_length_le hN, List.take_of_length_le hN'] at h1
  have h2 := val_lt (outs_dg q xs ys N)
  rw [outs_length] at h2
  obtain ⟨h3, h4⟩ := crr_bounds hq hx hy N
  have h5 : 0 ≤ crr q xs ys N := by
    rcases Int.lt_or_le (crr q xs ys N) 0 with h | h
    · have : crr q xs ys N = -1 := by omega
      rw [this] at h1
      omega
    · exact h
  rw [outs, val_append, outs_length]
  simp only [val, Nat.mul_zero, Nat.add_zero]
  have h6 : outD q xs ys N = (crr q xs ys N).toNat := by
    unfold outD
    rw [getD_over hN, getD_over hN']
    simp
    omega
  rw [h6]
  have h7 : (((crr q xs ys N).toNat : Nat) : Int) = crr q xs ys N := by omega
  rw [Int.natCast_add, Int.natCast_mul, h7]
  exact h1
end Go.Proofs.Ytlnjnoingiohjaa
