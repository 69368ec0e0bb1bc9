/- Numbers in a base, least digit first: values, digits, what is left without zeros at the end. No program is named here. -/
import Derived.Test.YtlnjnoingiohjaaBase
namespace Go.Proofs.Ytlnjnoingiohjaa

/-- The number that the digits xs stand for in base b. -/
def val (b : Nat) : List Nat → Nat
  | [] => 0
  | d :: r => d + b * val b r

def digF (b : Nat) : Nat → Nat → List Nat
  | 0, _ => []
  | f + 1, n => if n = 0 then [] else n % b :: digF b f (n / b)

/-- The digits of n in base b, no zero at the end. -/
def dig (b n : Nat) : List Nat := digF b n n

section
variable {b : Nat}

theorem val_append (xs ys : List Nat) : val b (xs ++ ys) = val b xs + b ^ xs.length * val b ys := by
  induction xs with
  | nil => simp [val]
  | cons d r ih => simp only [List.cons_append, val, ih, List.length_cons, Nat.mul_add, Nat.pow_succ]; rw [Nat.mul_comm (b ^ r.length) b, Nat.mul_assoc]; omega

theorem val_zeros (k : Nat) : val b (List.replicate k 0) = 0 := by
  induction k with
  | zero => rfl
  | succ k ih => simp [List.replicate_succ, val, ih]

theorem val_lt {xs : List Nat} (h : Dg b xs) : val b xs < b ^ xs.length := by
  induction xs with
  | nil => simp [val]
  | cons d r ih =>
    have h1 := ih fun e he => h e (List.mem_cons_of_mem _ he)
    have h2 := h d (by simp)
    simp only [val, List.length_cons, Nat.pow_succ]
    have h3 : b * (val b r + 1) ≤ b * b ^ r.length := Nat.mul_le_mul_left _ h1
    rw [Nat.mul_comm (b ^ r.length) b]
    rw [Nat.mul_add] at h3
    omega

theorem trimL_cons (d : Nat) (r : List Nat) : trimL (d :: r) = if trimN r = 0 ∧ d = 0 then [] else d :: trimL r := by
  unfold trimL
  simp only [trimN]
  by_cases h : trimN r = 0
  · by_cases hd : d = 0 <;> simp [h, hd]
  · simp [h]

theorem val_trimL (xs : List Nat) : val b (trimL xs) = val b xs := by
  induction xs with
  | nil => simp [trimL, trimN, val]
  | cons d r ih =>
    rw [trimL_cons]
    split
    · rename_i h
      have h0 : trimL r = [] := by simp [trimL, h.1]
      rw [h0] at ih
      simp [val, h.2, ← ih]
    · simp [val, ih]

theorem digF_zero (f : Nat) : digF b f 0 = [] := by cases f <;> simp [digF]

theorem digF_eq (hb : 1 < b) : ∀ (f g n : Nat), n ≤ f → n ≤ g → digF b f n = digF b g n
  | 0, g, n, h, _ => by obtain rfl : n = 0 := by omega
                        rw [digF_zero, digF_zero]
  | f + 1, 0, n, _, h => by obtain rfl : n = 0 := by omega
                            rw [digF_zero, digF_zero]
  | f + 1, g + 1, n, h, h' => by
    simp only [digF]
    split
    · rfl
    · have h1 : n / b < n := Nat.div_lt_self (by omega) hb
      rw [digF_eq hb f g (n / b) (by omega) (by omega)]

theorem dig_zero : dig b 0 = [] := rfl

theorem dig_pos (hb : 1 < b) {n : Nat} (hn : n ≠ 0) : dig b n = n % b :: dig b (n / b) := by
  unfold dig
  obtain ⟨m, rfl⟩ : ∃ m, n = m + 1 := ⟨n - 1, by omega⟩
  simp only [digF, if_neg hn]
  have h1 : (m + 1) / b < m + 1 := Nat.div_lt_self (by omega) hb
  rw [digF_eq hb m ((m + 1) / b) _ (by omega) (Nat.le_refl _)]

theorem dig_cons (hb : 1 < b) {d n : Nat} (hd : d < b) (h : d ≠ 0 ∨ n ≠ 0) : dig b (d + b * n) = d :: dig b n := by
  have hne : d + b * n ≠ 0 := by
    rcases h with h | h
    · omega
    · have : 0 < b * n := Nat.mul_pos (by omega) (by omega)
      omega
  rw [dig_pos hb hne]
  have h1 : (d + b * n) % b = d := by rw [Nat.add_mul_mod_self_left]; exact Nat.mod_eq_of_lt hd
  have h2 : (d + b * n) / b = n := by rw [Nat.add_mul_div_left _ _ (by omega), Nat.div_eq_of_lt hd]; omega
  rw [h1, h2]

theorem trimN_zero {xs : List Nat} : trimN xs = 0 ↔ val 2 xs = 0 := by
  induction xs with
  | nil => simp [trimN, val]
  | cons d r ih =>
    simp only [trimN, val]
    by_cases h : trimN r = 0
    · have := ih.1 h
      by_cases hd : d = 0 <;> simp [h, hd, this]
    · have : val 2 r ≠ 0 := fun e => h (ih.2 e)
      simp [h]; omega

theorem trimN_zero' (hb : 0 < b) {xs : List Nat} : trimN xs = 0 ↔ val b xs = 0 := by
  induction xs with
  | nil => simp [trimN, val]
  | cons d r ih =>
    simp only [trimN, val]
    by_cases h : trimN r = 0
    · have := ih.1 h
      by_cases hd : d = 0 <;> simp [h, hd, this]
    · have : val b r ≠ 0 := fun e => h (ih.2 e)
      have : 0 < b * val b r := Nat.mul_pos hb (by omega)
      simp [h]; omega

/-- THE KEY: without the zeros at the end, digits are the digits of their number. -/
theorem trimL_dig (hb : 1 < b) {xs : List Nat} (h : Dg b xs) : trimL xs = dig b (val b xs) := by
  induction xs with
  | nil => simp [trimL, val, dig_zero]
  | cons d r ih =>
    have h1 := ih fun e he => h e (List.mem_cons_of_mem _ he)
    have h2 := h d (by simp)
    rw [trimL_cons]
    split
    · rename_i hz
      have := (trimN_zero' (b := b) (by omega)).1 hz.1
      simp [val, this, hz.2, dig_zero]
    · rename_i hz
      rw [val, dig_cons hb h2, h1]
      by_cases hd : d = 0
      · right
        intro hv
        exact hz ⟨(trimN_zero' (b := b) (by omega)).2 hv, hd⟩
      · exact .inl hd

theorem val_dig (hb : 1 < b) (n : Nat) : val b (dig b n) = n := by
  induction n using Nat.strongRecOn with
  | _ n ih =>
    by_cases h : n = 0
    · subst h; rfl
    · rw [dig_pos hb h, val, ih _ (Nat.div_lt_self (by omega) hb)]
      exact Nat.mod_add_div n b

theorem Dg_dig (hb : 1 < b) (n : Nat) : Dg b (dig b n) := by
  induction n using Nat.strongRecOn with
  | _ n ih =>
    by_cases h : n = 0
    · subst h; exact fun d hd => by cases hd
    · rw [dig_pos hb h]
      exact Dg.cons (Nat.mod_lt _ (by omega)) (ih _ (Nat.div_lt_self (by omega) hb))

theorem trimL_of_dig (hb : 1 < b) (n : Nat) : trimL (dig b n) = dig b n := by
  rw [trimL_dig hb (Dg_dig hb n), val_dig hb]

theorem trimN_of_dig (hb : 1 < b) (n : Nat) : trimN (dig b n) = (dig b n).length := by
  rw [← trimL_length, trimL_of_dig hb]

theorem dig_length_le (hb : 1 < b) {n k : Nat} (h : n < b ^ k) : (dig b n).length ≤ k := by
  induction k generalizing n with
  | zero => obtain rfl : n = 0 := by simpa using h
            simp [dig_zero]
  | succ k ih =>
    by_cases hn : n = 0
    · subst hn; simp [dig_zero]
    · rw [dig_pos hb hn, List.length_cons]
      have : n / b < b ^ k := by rw [Nat.div_lt_iff_lt_mul (by omega)]; rw [Nat.pow_succ] at h; exact h
      have := ih this
      omega

theorem dig_nil (hb : 1 < b) {n : Nat} : dig b n = [] ↔ n = 0 := by
  constructor
  · intro h
    rw [← val_dig hb n, h]; rfl
  · rintro rfl; rfl

theorem dig_inj (hb : 1 < b) {m n : Nat} (h : dig b m = dig b n) : m = n := by
  rw [← val_dig hb m, h, val_dig hb n]

theorem trimL_le (xs : List Nat) : (trimL xs).length ≤ xs.length := by rw [trimL_length]; exact trimN_le xs
end

/-- -1, 0 or 1, as a is less than, equal to or greater than b. -/
def cmpN (a b : Nat) : Int := if a < b then -1 else if b < a then 1 else 0

theorem cmpN_refl (a : Nat) : cmpN a a = 0 := by simp [cmpN]
theorem cmpN_lt {a b : Nat} (h : a < b) : cmpN a b = -1 := by simp [cmpN, h]
theorem cmpN_gt {a b : Nat} (h : b < a) : cmpN a b = 1 := by simp [cmpN, h]; omega

theorem val_lt_at {b P X Y d e T : Nat} (hX : X < P) (h : d < e) : X + P * (d + b * T) < Y + P * (e + b * T) := by
  have h1 : P * (d + b * T + 1) ≤ P * (e + b * T) := Nat.mul_le_mul_left _ (by omega)
  rw [Nat.mul_add, Nat.mul_one] at h1
  omega

/-- Two rows of one length that agree from some place on are ordered as the digits before that place are. -/
theorem cmpN_at {b : Nat} (xs ys r : List Nat) (d e : Nat) (hx : Dg b xs) (hy : Dg b ys) (hl : xs.length = ys.length) (hne : d ≠ e) :
    cmpN (val b (xs ++ d :: r)) (val b (ys ++ e :: r)) = cmpN d e := by
  rw [val_append, val_append, val, val]
  have h1 := val_lt hx
  have h2 := val_lt hy
  rw [hl] at h1 ⊢
  rcases Nat.lt_or_gt_of_ne hne with h | h
  · rw [cmpN_lt h, cmpN_lt (val_lt_at h1 h)]
  · rw [cmpN_gt h, cmpN_gt (val_lt_at h2 h)]

theorem getD_over {xs : List Nat} {i : Nat} (h : xs.length ≤ i) : xs.getD i 0 = 0 := by simp [h]

theorem getD_at {xs : List Nat} {i : Nat} (h : i < xs.length) : xs.getD i 0 = xs[i] := by simp [h]

/-- .. said of two rows and a place. -/
theorem cmpN_of {b : Nat} {xs ys : List Nat} {m : Nat} (hx : Dg b xs) (hy : Dg b ys) (hl : xs.length = ys.length) (hm : m < xs.length)
    (hs : ∀ j, m < j → j < xs.length → xs.getD j 0 = ys.getD j 0) (hne : xs.getD m 0 ≠ ys.getD m 0) : cmpN (val b xs) (val b ys) = cmpN (xs.getD m 0) (ys.getD m 0) := by
  have hm' : m < ys.length := by omega
  have e1 : xs = xs.take m ++ xs.getD m 0 :: xs.drop (m + 1) := by
    rw [getD_at hm, ← List.drop_eq_getElem_cons hm, List.take_append_drop]
  have e2 : ys = ys.take m ++ ys.getD m 0 :: xs.drop (m + 1) := by
    have : xs.drop (m + 1) = ys.drop (m + 1) := by
      apply List.ext_getElem
      · simp [hl]
      · intro i h1 h2
        simp only [List.length_drop] at h1 h2
        have := hs (m + 1 + i) (by omega) (by omega)
        rw [getD_at (by omega), getD_at (by omega)] at this
        simpa using this
    rw [this, getD_at hm', ← List.drop_eq_getElem_cons hm', List.take_append_drop]
  rw [congrArg (val b) e1, congrArg (val b) e2, cmpN_at _ _ _ _ _ (hx.take m) (hy.take m) (by simp; omega) hne]

theorem eq_of_getD {xs ys : List Nat} (hl : xs.length = ys.length) (hs : ∀ j, j < xs.length → xs.getD j 0 = ys.getD j 0) : xs = ys := by
  apply List.ext_getElem hl
  intro i h1 h2
  have := hs i h1
  rwa [getD_at h1, getD_at h2] at this

/-- Trimmed rows of different lengths are ordered as their lengths are. -/
theorem cmpN_len {b : Nat} (hb : 0 < b) {xs ys : List Nat} (hx : Dg b xs) (hy : Dg b ys) (tx : trimN xs = xs.length) (ty : trimN ys = ys.length) (hl : xs.length ≠ ys.length) :
    cmpN (val b xs) (val b ys) = cmpN xs.length ys.length := by
  have low : ∀ {zs : List Nat}, trimN zs = zs.length → zs ≠ [] → b ^ (zs.length - 1) ≤ val b zs := by
    intro zs
    induction zs with
    | nil => intro _ h; exact absurd rfl h
    | cons d r ih =>
      intro ht _
      simp only [trimN, List.length_cons] at ht
      by_cases h0 : trimN r = 0
      · rw [if_pos h0] at ht
        by_cases hd : d = 0
        · rw [if_pos hd] at ht; omega
        · rw [if_neg hd] at ht
          have : r.length = 0 := by omega
          simp [this, val]; omega
      · rw [if_neg h0] at ht
        have hr : r ≠ [] := by rintro rfl; simp [trimN] at h0
        have h1 := ih (by omega) hr
        have h2 : 0 < r.length := List.length_pos_iff.2 hr
        simp only [val, List.length_cons, Nat.add_sub_cancel]
        have h3 : b ^ r.length = b * b ^ (r.length - 1) := by
          rw [Nat.mul_comm, ← Nat.pow_succ]; congr 1; omega
        have h4 := Nat.mul_le_mul_left b h1
        omega
  have less : ∀ {us vs : List Nat}, Dg b us → trimN vs = vs.length → us.length < vs.length → val b us < val b vs := by
    intro us vs hu tv h
    have h1 := val_lt hu
    have h2 := low tv (by rintro rfl; simp at h)
    have h3 : b ^ us.length ≤ b ^ (vs.length - 1) := Nat.pow_le_pow_right hb (by omega)
    omega
  rcases Nat.lt_or_gt_of_ne hl with h | h
  · rw [cmpN_lt h, cmpN_lt (less hx ty h)]
  · rw [cmpN_gt h, cmpN_gt (less hy tx h)]

/-- The base of the program's words. -/
def b32 : Nat := 4294967296
theorem b32_one : 1 < b32 := by decide

end Go.Proofs.Ytlnjnoingiohjaa
