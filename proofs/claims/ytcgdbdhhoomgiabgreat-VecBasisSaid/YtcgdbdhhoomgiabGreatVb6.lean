/- Parts: 6. -/
import Derived.Test.YtcgdbdhhoomgiabGreatVb1
import Derived.Test.YtcgdbdhhoomgiabGreatVb3
import Derived.Test.YtcgdbdhhoomgiabGreatVb4
import Derived.Test.YtcgdbdhhoomgiabGreatVb5
set_option linter.unusedVariables false
set_option linter.unusedSimpArgs false
set_option maxRecDepth 100000
set_option maxHeartbeats 40000000

namespace Go.Proofs.YtcgdbdhhoomgiabGreat

/-- A guess that is at least the quotient of the leading words is at least the quotient. -/
theorem guess_hi {U D U3 V2 B q : Nat} (hD : V2 * B <= D) (hU : U < (U3 + 1) * B) (hq : q * D <= U) : q * V2 <= U3 := by
  have h1 : q * (V2 * B) <= q * D := Nat.mul_le_mul_left _ hD
  have h2 : q * V2 * B < (U3 + 1) * B := by rw [Nat.mul_assoc]; omega
  have := Nat.lt_of_mul_lt_mul_right h2
  omega

theorem guess_lo {U D U3 V2 B k : Nat} (hD : D <= (V2 + 1) * B) (hU : U3 * B <= U) (hg : (k + 1) * V2 <= U3) (hk : k <= V2) : k * D <= U := by
  have h1 : k * D <= k * ((V2 + 1) * B) := Nat.mul_le_mul_left _ hD
  have h2 : k * ((V2 + 1) * B) = (k * V2 + k) * B := by grind
  have h4 : k * V2 + k <= U3 := by rw [Nat.add_mul, Nat.one_mul] at hg; omega
  have h3 : (k * V2 + k) * B <= U3 * B := Nat.mul_le_mul_right _ h4
  omega

/-- The first guess. -/
theorem guess_first {top high second low b q : Nat} (h : q * (high * b + second) <= top * b + low) (hl : low < b) (hb : 0 < b) (hh : 0 < high) : q <= top / high := by
  rw [Nat.le_div_iff_mul_le hh]
  have h1 : q * high * b <= q * (high * b + second) := by rw [Nat.mul_assoc]; exact Nat.mul_le_mul_left _ (Nat.le_add_right _ _)
  have h2 : q * high * b < (top + 1) * b := by rw [Nat.add_mul, Nat.one_mul]; omega
  have := Nat.lt_of_mul_lt_mul_right h2
  omega

/-- A guess that is too great. -/
theorem guess_less {top high second low b q g rest : Nat} (ht : rest + g * high = top) (hg : rest * b + low < g * second) (h : q * (high * b + second) <= top * b + low) : q < g := by
  rcases Nat.lt_or_ge q g with h1 | h1
  · exact h1
  · have h2 : g * (high * b + second) <= q * (high * b + second) := Nat.mul_le_mul_right _ h1
    have h3 : g * (high * b + second) = g * high * b + g * second := by grind
    have h4 : top * b = rest * b + g * high * b := by rw [<- ht, Nat.add_mul]
    omega

/-- A guess that stands. -/
theorem guess_done {top high second low b g rest : Nat} (ht : rest + g * high = top) (hg : b <= rest ∨ g * second <= rest * b + low) (hgb : g < b) (hs : second < b) : g * (high * b + second) <= top * b + low := by
  have h3 : g * (high * b + second) = g * high * b + g * second := by grind
  have h4 : top * b = rest * b + g * high * b := by rw [<- ht, Nat.add_mul]
  rcases hg with h | h
  · have h5 : g * second <= b * b := Nat.mul_le_mul (by omega) (by omega)
    have h6 : b * b <= rest * b := Nat.mul_le_mul_right _ h
    omega
  · omega

/-- One word of a multiple subtracted. -/
theorem sub_step {b o k f u r c : Nat} {S T w : Nat} {Q : List Nat} (hb : 0 < b) (hP : o + k < Q.length) (hv : Q.getD (o + k) 0 = w) (hw : w < b) (hc : c <= 1) (h : S + b ^ (o + k) * (r + c) = val b Q + b ^ o * (f * T)) :
    ∃ d c' : Nat, d < b /\ c' <= 1 /\ (w : Int) - ((f * u + r) % b : Nat) - c = d - b * c' /\
      S + b ^ (o + (k + 1)) * ((f * u + r) / b + c') = val b (Q.set (o + k) d) + b ^ o * (f * (T + b ^ k * u)) := by
  have hm := Nat.mod_lt (f * u + r) hb
  have h2 := Nat.div_add_mod (f * u + r) b
  obtain ⟨p, hp⟩ : ∃ p, (f * u + r) % b = p := ⟨_, rfl⟩
  obtain ⟨t, ht⟩ : ∃ t, (f * u + r) / b = t := ⟨_, rfl⟩
  rw [hp] at hm h2
  rw [ht] at h2
  rw [hp, ht]
  have key : ∀ d c' : Nat, w + b * c' = d + p + c -> S + b ^ (o + (k + 1)) * (t + c') = val b (Q.set (o + k) d) + b ^ o * (f * (T + b ^ k * u)) := by
    intro d c' he
    have h1 := val_set (b := b) Q (o + k) d hP
    rw [hv] at h1
    have h3 : b ^ (o + (k + 1)) * (t + c') = b ^ (o + k) * (b * t) + b ^ (o + k) * (b * c') := by rw [<- Nat.add_assoc, Nat.pow_succ]; grind
    have h4 : b ^ o * (f * (T + b ^ k * u)) = b ^ o * (f * T) + b ^ (o + k) * (f * u) := by rw [Nat.pow_add]; grind
    have h5 : b ^ (o + k) * (b * t + b * c' + w) = b ^ (o + k) * (d + f * u + (r + c)) := by rw [show b * t + b * c' + w = d + f * u + (r + c) from by omega]
    simp only [Nat.mul_add] at h5 h3 h4 h ⊢
    omega
  rcases Nat.lt_or_ge w (p + c) with hl | hl
  · refine ⟨w + b - p - c, 1, by omega, by omega, by omega, key _ _ (by omega)⟩
  · refine ⟨w - p - c, 0, by omega, by omega, by omega, key _ _ (by omega)⟩

/-- One word added back. -/
theorem back_step {b o k u c : Nat} {S T w : Nat} {Q : List Nat} (hb : 0 < b) (hP : o + k < Q.length) (hv : Q.getD (o + k) 0 = w) (h : val b Q + b ^ (o + k) * c = S + b ^ o * T) :
    val b (Q.set (o + k) ((w + u + c) % b)) + b ^ (o + (k + 1)) * ((w + u + c) / b) = S + b ^ o * (T + b ^ k * u) := by
  have h1 := val_set (b := b) Q (o + k) ((w + u + c) % b) hP
  rw [hv] at h1
  have h2 := Nat.div_add_mod (w + u + c) b
  have h3 : b ^ (o + (k + 1)) * ((w + u + c) / b) = b ^ (o + k) * (b * ((w + u + c) / b)) := by rw [<- Nat.add_assoc, Nat.pow_succ, Nat.mul_assoc]
  have h4 : b ^ o * (T + b ^ k * u) = b ^ o * T + b ^ (o + k) * u := by rw [Nat.pow_add]; grind
  have h5 : b ^ (o + k) * (b * ((w + u + c) / b)) + b ^ (o + k) * ((w + u + c) % b) = b ^ (o + k) * w + b ^ (o + k) * u + b ^ (o + k) * c := by
    rw [<- Nat.mul_add, h2, Nat.mul_add, Nat.mul_add]
  rw [h3, h4]
  omega

theorem val_split (b : Nat) (xs : List Nat) (k : Nat) (h : k <= xs.length) : val b xs = val b (xs.take k) + b ^ k * val b (xs.drop k) := by
  have h1 := val_append (b := b) (xs.take k) (xs.drop k)
  rw [List.take_append_drop, List.length_take, Nat.min_eq_left h] at h1
  exact h1

theorem val_drop_step (b : Nat) (xs : List Nat) (k : Nat) (h : k < xs.length) : val b (xs.drop k) = xs.getD k 0 + b * val b (xs.drop (k + 1)) := by
  rw [List.drop_eq_getElem_cons h, val, getD_at h]

/-- One round of the long division, in numbers: the words from o on were H; the guess g was taken off, and where that wrapped around, the divisor was added back. -/
theorem round_sub {b H D g q L H1 c n1 : Nat} (hq : q = H / D) (hD : 0 < D) (hg1 : q <= g) (hH1 : H1 < n1) (hle : c <= 1) (h : H1 + g * D = H + n1 * c) (hg2 : g <= q + 1) (hL : L = n1) :
    (c = 0 -> g = q /\ H1 = H % D) /\ (c = 1 -> g = q + 1 /\ H1 + D = H % D + n1) := by
  subst hL
  have h1 := Nat.div_add_mod H D
  rw [<- hq] at h1
  have h2 := Nat.mod_lt H hD
  have h3 : q * D = D * q := Nat.mul_comm _ _
  constructor
  · rintro rfl
    rw [Nat.mul_zero, Nat.add_zero] at h
    rcases Nat.lt_or_ge q g with h4 | h4
    · have h5 : (q + 1) * D <= g * D := Nat.mul_le_mul_right _ h4
      rw [Nat.add_mul, Nat.one_mul] at h5
      omega
    · obtain rfl : g = q := by omega
      exact ⟨rfl, by omega⟩
  · rintro rfl
    rw [Nat.mul_one] at h
    rcases Nat.lt_or_ge q g with h4 | h4
    · obtain rfl : g = q + 1 := by omega
      rw [Nat.add_mul, Nat.one_mul] at h
      exact ⟨rfl, by omega⟩
    · obtain rfl : g = q := by omega
      omega

theorem shl_word {x s : Nat} (hx : x < 4294967296) (hs : s < 32) : x * 2 ^ s < 18446744073709551616 := by
  have h1 : 2 ^ s <= 2 ^ 31 := Nat.pow_le_pow_right (by decide) (by omega)
  have h2 : x * 2 ^ s <= 4294967296 * 2 ^ 31 := Nat.mul_le_mul (by omega) h1
  have h3 : 4294967296 * 2 ^ 31 < 18446744073709551616 := by decide
  omega

/-- A carry below 2^s and a word shifted left by s have no bit in common. -/
theorem or_low {c y s : Nat} (hc : c < 2 ^ s) : c ||| (y * 2 ^ s) = c + y * 2 ^ s := by
  have h := Nat.shiftLeft_add_eq_or_of_lt (i := s) (b := c) hc y
  rw [Nat.shiftLeft_eq] at h
  rw [Nat.or_comm, <- h, Nat.add_comm]

theorem pow_split {s : Nat} (hs : s < 32) : (4294967296 : Nat) = 2 ^ s * 2 ^ (32 - s) := by
  rw [<- Nat.pow_add, show s + (32 - s) = 32 from by omega]

/-- The low word of a word shifted left. -/
theorem shl_low {x s : Nat} (hs : s < 32) : (x * 2 ^ s) % 4294967296 = (x % 2 ^ (32 - s)) * 2 ^ s := by
  rw [pow_split hs, Nat.mul_comm x, Nat.mul_mod_mul_left, Nat.mul_comm]
theorem shl_high {x s : Nat} (hs : s < 32) (hx : x < 4294967296) : x * 2 ^ s / 4294967296 < 2 ^ s := by
  rw [Nat.div_lt_iff_lt_mul (by decide), Nat.mul_comm]
  exact Nat.mul_lt_mul_of_pos_left hx (Nat.pow_pos (by decide))

/-- One word of a row shifted right. -/
theorem shr_step {d V s : Nat} (hs : s < 32) (hd : d < 4294967296) : (d + 4294967296 * V) / 2 ^ s = ((V % 4294967296 * 4294967296 + d) / 2 ^ s) % 4294967296 + 4294967296 * (V / 2 ^ s) := by
  have hp := pow_split hs
  have h2 : 0 < 2 ^ s := Nat.pow_pos (by decide)
  obtain ⟨P, eP⟩ : ∃ P, 2 ^ s = P := ⟨_, rfl⟩
  obtain ⟨R, eR⟩ : ∃ R, 2 ^ (32 - s) = R := ⟨_, rfl⟩
  rw [eP] at hp h2 ⊢
  rw [eR] at hp
  have hR : 0 < R := by rw [<- eR]; exact Nat.pow_pos (by decide)
  have e1 : (d + 4294967296 * V) / P = d / P + R * V := by
    rw [show d + 4294967296 * V = d + P * (R * V) from by rw [<- Nat.mul_assoc, <- hp], Nat.add_mul_div_left _ _ h2]
  have e2 : (V % 4294967296 * 4294967296 + d) / P = d / P + R * (V % 4294967296) := by
    rw [show V % 4294967296 * 4294967296 + d = d + P * (R * (V % 4294967296)) from by rw [<- Nat.mul_assoc, <- hp, Nat.mul_comm, Nat.add_comm], Nat.add_mul_div_left _ _ h2]
  rw [e1, e2]
  have hdP : d / P < R := by rw [Nat.div_lt_iff_lt_mul h2, Nat.mul_comm, <- hp]; exact hd
  have e3 : V = V % P + P * (V / P) := by have := Nat.mod_add_div V P; omega
  have e4 : V % 4294967296 % P = V % P := by rw [hp]; exact Nat.mod_mul_right_mod V P R
  have e5 : (d / P + R * (V % 4294967296)) % 4294967296 = d / P + R * (V % P) := by
    have h3 := Nat.mod_lt V h2
    have h5 : R * (V % P) + R <= R * P := by
      have := Nat.mul_le_mul_left R h3
      rw [Nat.succ_eq_add_one, Nat.mul_add, Nat.mul_one] at this
      exact this
    have h7 : R * P = 4294967296 := by rw [hp, Nat.mul_comm]
    have h6 : V % 4294967296 = V % P + P * (V % 4294967296 / P) := by have := Nat.mod_add_div (V % 4294967296) P; rw [e4] at this; omega
    have h8 : R * (V % 4294967296) = R * (V % P) + 4294967296 * (V % 4294967296 / P) := by
      rw [congrArg (R * ·) h6, Nat.mul_add, <- Nat.mul_assoc, h7]
    rw [h8, <- Nat.add_assoc, Nat.add_mul_mod_self_left]
    exact Nat.mod_eq_of_lt (by omega)
  rw [e5]
  have h9 : R * V = R * (V % P) + 4294967296 * (V / P) := by
    rw [congrArg (R * ·) e3, Nat.mul_add, <- Nat.mul_assoc, show R * P = 4294967296 from by rw [hp, Nat.mul_comm]]
  omega

/-- The words from place m on shifted right by s bits. -/
def shrRow (s : Nat) : List Nat -> List Nat
  | [] => []
  | d :: r => ((r.getD 0 0 * 4294967296 + d) / 2 ^ s) % 4294967296 :: shrRow s r
theorem shrRow_length (s : Nat) (xs : List Nat) : (shrRow s xs).length = xs.length := by
  induction xs with
  | nil => rfl
  | cons d r ih => simp [shrRow, ih]
theorem val_mod_head (xs : List Nat) (h : Dg b32 xs) : val b32 xs % 4294967296 = xs.getD 0 0 := by
  cases xs with
  | nil => rfl
  | cons d r =>
    have := h d (by simp)
    show (d + b32 * val b32 r) % 4294967296 = d
    unfold b32 at *
    rw [Nat.add_mul_mod_self_left]
    exact Nat.mod_eq_of_lt this
theorem val_shrRow {s : Nat} (hs : s < 32) : ∀ {xs : List Nat}, Dg b32 xs -> val b32 (shrRow s xs) = val b32 xs / 2 ^ s
  | [], _ => by simp [shrRow, val]
  | d :: r, h => by
    have hr : Dg b32 r := fun e he => h e (List.mem_cons_of_mem _ he)
    have ih := val_shrRow hs hr
    show _ + b32 * val b32 (shrRow s r) = (d + b32 * val b32 r) / 2 ^ s
    rw [ih, show b32 = 4294967296 from rfl, shr_step hs (h d (by simp)), <- val_mod_head r hr]
    rfl
theorem Dg_shrRow (s : Nat) (xs : List Nat) : Dg b32 (shrRow s xs) := by
  induction xs with
  | nil => exact Dg.nil
  | cons d r ih => exact Dg.cons (Nat.mod_lt _ (by decide)) ih
/-- One word of a row shifted left. -/
theorem shl_round {i x s c T : Nat} {Q : List Nat} (hs : s < 32) (hP : i + 1 < Q.length) (hv : Q.getD i 0 = c) (hv2 : Q.getD (i + 1) 0 = 0) (h : val b32 Q = T * 2 ^ s) :
    val b32 ((Q.set i (c + x * 2 ^ s % 4294967296)).set (i + 1) (x * 2 ^ s / 4294967296)) = (T + b32 ^ i * x) * 2 ^ s := by
  have h1 := val_set (b := b32) Q i (c + x * 2 ^ s % 4294967296) (by omega)
  have h2 := val_set (b := b32) (Q.set i (c + x * 2 ^ s % 4294967296)) (i + 1) (x * 2 ^ s / 4294967296) (by rw [List.length_set]; exact hP)
  rw [getD_set_other Q _ (by omega), hv2] at h2
  rw [hv] at h1
  have h3 := Nat.div_add_mod (x * 2 ^ s) 4294967296
  obtain ⟨W, eW⟩ : ∃ W, x * 2 ^ s = W := ⟨_, rfl⟩
  rw [eW] at h1 h2 h3 ⊢
  have h4 : b32 ^ (i + 1) * (W / 4294967296) = b32 ^ i * (4294967296 * (W / 4294967296)) := by rw [Nat.pow_succ, Nat.mul_assoc]; rfl
  have h5 : b32 ^ i * (4294967296 * (W / 4294967296)) + b32 ^ i * (W % 4294967296) = b32 ^ i * W := by rw [<- Nat.mul_add, h3]
  have h6 : (T + b32 ^ i * x) * 2 ^ s = T * 2 ^ s + b32 ^ i * W := by rw [Nat.add_mul, Nat.mul_assoc, eW]
  rw [Nat.mul_add] at h1
  omega
end Go.Proofs.YtcgdbdhhoomgiabGreat

namespace Go.Proofs.YtcgdbdhhoomgiabGreat

section
variable {b i n : Nat} {R R1 R2 : List Nat}

theorem take_out (h : ∀ j, j < i ∨ i + n < j -> R1.getD j 0 = R.getD j 0) (hl : R1.length = R.length) : R1.take i = R.take i := by
  apply List.ext_getElem
  · simp [hl]
  · intro j h1 h2
    simp only [List.length_take] at h1 h2
    have := h j (.inl (by omega))
    rw [getD_at (by omega), getD_at (by omega)] at this
    simpa using this
theorem drop_out (h : ∀ j, j < i ∨ i + n < j -> R1.getD j 0 = R.getD j 0) (hl : R1.length = R.length) : R1.drop (i + (n + 1)) = R.drop (i + (n + 1)) := by
  apply List.ext_getElem
  · simp [hl]
  · intro j h1 h2
    simp only [List.length_drop] at h1 h2
    have := h (i + (n + 1) + j) (.inr (by omega))
    rw [getD_at (by omega), getD_at (by omega)] at this
    simpa using this

/-- The words above the part are zero. -/
theorem above_zero {D : Nat} (hb : 0 < b) (hi : i + n < R.length) (hD : D < b ^ n) (h : val b (R.drop (i + 1)) < D) : val b (R.drop (i + (n + 1))) = 0 := by
  have h1 := val_split b (R.drop (i + 1)) n (by simp; omega)
  rw [List.drop_drop, show i + 1 + n = i + (n + 1) from by omega] at h1
  rcases Nat.eq_zero_or_pos (val b (R.drop (i + (n + 1)))) with h2 | h2
  · exact h2
  · have h3 : b ^ n * 1 <= b ^ n * val b (R.drop (i + (n + 1))) := Nat.mul_le_mul_left _ h2
    omega

theorem part_lt (hd : Dg b R) (hi : i + n < R.length) (h0 : val b (R.drop (i + (n + 1))) = 0) : val b (R.drop i) < b ^ (n + 1) := by
  have h1 := val_split b (R.drop i) (n + 1) (by simp; omega)
  rw [List.drop_drop, h0, Nat.mul_zero, Nat.add_zero] at h1
  have h2 : Dg b ((R.drop i).take (n + 1)) := fun d hd' => hd d (List.mem_of_mem_drop (List.mem_of_mem_take hd'))
  have h3 := val_lt h2
  rw [List.length_take, List.length_drop, Nat.min_eq_left (by omega)] at h3
  omega
theorem part_val (hi : i + n < R.length) (h0 : val b (R.drop (i + (n + 1))) = 0) : val b ((R.drop i).take (n + 1)) = val b (R.drop i) := by
  have h1 := val_split b (R.drop i) (n + 1) (by simp; omega)
  rw [List.drop_drop, h0, Nat.mul_zero, Nat.add_zero] at h1
  exact h1.symm

theorem round_one {D g c : Nat} (hb : 0 < b) (hi : i + n < R.length) (hR1 : Dg b R1) (hl : R1.length = R.length) (hout : ∀ j, j < i ∨ i + n < j -> R1.getD j 0 = R.getD j 0) (hD : D < b ^ n) (hD0 : 0 < D)
    (hpre : val b (R.drop (i + 1)) < D) (hsub : val b R + b ^ (i + (n + 1)) * c = val b R1 + b ^ i * (g * D)) (hc : c <= 1) (hg1 : val b (R.drop i) / D <= g) (hg2 : g <= val b (R.drop i) / D + 1) :
    (c = 0 -> g = val b (R.drop i) / D /\ val b (R1.drop i) = val b (R.drop i) % D) /\ (c = 1 -> g = val b (R.drop i) / D + 1 /\ val b (R1.drop i) + D = val b (R.drop i) % D + b ^ (n + 1)) := by
  have e1 := val_split b R i (by omega)
  have e2 := val_split b R1 i (by omega)
  rw [take_out hout hl] at e2
  have h0 := above_zero hb hi hD hpre
  have h1 : val b (R1.drop (i + (n + 1))) = 0 := by rw [drop_out hout hl]; exact h0
  have h2 := part_lt hR1 (by omega) h1
  have h3 : b ^ i * (val b (R.drop i) + b ^ (n + 1) * c) = b ^ i * (val b (R1.drop i) + g * D) := by
    rw [Nat.mul_add, Nat.mul_add, <- Nat.mul_assoc, <- Nat.pow_add]
    omega
  have h4 := Nat.eq_of_mul_eq_mul_left (Nat.pow_pos hb) h3
  exact round_sub (b := b) rfl hD0 hg1 h2 hc h4.symm hg2 rfl

theorem round_two {D c r : Nat} (hb : 0 < b) (hi : i + n < R1.length) (hR2 : Dg b R2) (hl : R2.length = R1.length) (hout : ∀ j, j < i ∨ i + n < j -> R2.getD j 0 = R1.getD j 0) (h0 : val b (R1.drop (i + (n + 1))) = 0)
    (hadd : val b R2 + b ^ (i + (n + 1)) * c = val b R1 + b ^ i * D) (hc : c <= 1) (h : val b (R1.drop i) + D = r + b ^ (n + 1)) : val b (R2.drop i) = r := by
  have e1 := val_split b R1 i (by omega)
  have e2 := val_split b R2 i (by omega)
  rw [take_out hout hl] at e2
  have h1 : val b (R2.drop (i + (n + 1))) = 0 := by rw [drop_out hout hl]; exact h0
  have h2 := part_lt hR2 (by omega) h1
  have h3 : b ^ i * (val b (R2.drop i) + b ^ (n + 1) * c) = b ^ i * (val b (R1.drop i) + D) := by
    rw [Nat.mul_add, Nat.mul_add, <- Nat.mul_assoc, <- Nat.pow_add]
    omega
  have h4 := Nat.eq_of_mul_eq_mul_left (Nat.pow_pos hb) h3
  rw [h] at h4
  rcases Nat.le_one_iff_eq_zero_or_eq_one.1 hc with rfl | rfl
  · omega
  · omega

theorem round_end {D X0 Vq : Nat} (hi : i <= R.length) (hi2 : i <= R2.length) (ht : R2.take i = R.take i) (hX : X0 = val b R + b ^ (i + 1) * (D * Vq)) (hr : val b (R2.drop i) = val b (R.drop i) % D) :
    X0 = val b R2 + b ^ i * (D * (val b (R.drop i) / D + b * Vq)) := by
  have e1 := val_split b R i hi
  have e2 := val_split b R2 i hi2
  rw [ht, hr] at e2
  have h1 := Nat.div_add_mod (val b (R.drop i)) D
  have h2 : b ^ i * val b (R.drop i) = b ^ i * (D * (val b (R.drop i) / D)) + b ^ i * (val b (R.drop i) % D) := by rw [<- Nat.mul_add, h1]
  have h3 : b ^ i * (D * (val b (R.drop i) / D + b * Vq)) = b ^ i * (D * (val b (R.drop i) / D)) + b ^ (i + 1) * (D * Vq) := by
    rw [Nat.pow_succ]; grind
  omega
end

theorem top_two (b : Nat) (xs : List Nat) (m : Nat) (h : xs.length = m + 2) : val b xs = val b (xs.take m) + b ^ m * (xs.getD m 0 + b * xs.getD (m + 1) 0) := by
  rw [val_split b xs m (by omega), val_drop_step b xs m (by omega), val_drop_step b xs (m + 1) (by omega), List.drop_of_length_le (by omega)]
  simp [val]
theorem top_three (b : Nat) (xs : List Nat) (m : Nat) (h : xs.length = m + 3) : val b xs = val b (xs.take m) + b ^ m * (xs.getD m 0 + b * (xs.getD (m + 1) 0 + b * xs.getD (m + 2) 0)) := by
  rw [val_split b xs m (by omega), val_drop_step b xs m (by omega), val_drop_step b xs (m + 1) (by omega), val_drop_step b xs (m + 2) (by omega), List.drop_of_length_le (by omega)]
  simp [val]

/-- What a guess by the leading words is worth. -/
theorem guess_both {b m g : Nat} {ps ds : List Nat} (hb : 0 < b) (dp : Dg b ps) (dd : Dg b ds) (lp : ps.length = m + 3) (ld : ds.length = m + 2) (hh : 0 < ds.getD (m + 1) 0) (hU : val b ps < b * val b ds) (hgb : g < b)
    (hg : g * (ds.getD (m + 1) 0 * b + ds.getD m 0) <= (ps.getD (m + 2) 0 * b + ps.getD (m + 1) 0) * b + ps.getD m 0)
    (hall : ∀ q, q < b -> q * (ds.getD (m + 1) 0 * b + ds.getD m 0) <= (ps.getD (m + 2) 0 * b + ps.getD (m + 1) 0) * b + ps.getD m 0 -> q <= g) :
    val b ps / val b ds <= g /\ g <= val b ps / val b ds + 1 := by
  have e1 := top_two b ds m ld
  have e2 := top_three b ps m lp
  have l1 : val b (ds.take m) < b ^ m := by
    have := val_lt (dd.take m)
    rwa [List.length_take, Nat.min_eq_left (by omega)] at this
  have l2 : val b (ps.take m) < b ^ m := by
    have := val_lt (dp.take m)
    rwa [List.length_take, Nat.min_eq_left (by omega)] at this
  obtain ⟨V2, eV⟩ : ∃ V2, ds.getD (m + 1) 0 * b + ds.getD m 0 = V2 := ⟨_, rfl⟩
  obtain ⟨U3, eU⟩ : ∃ U3, (ps.getD (m + 2) 0 * b + ps.getD (m + 1) 0) * b + ps.getD m 0 = U3 := ⟨_, rfl⟩
  rw [eV, eU] at hg
  simp only [eV, eU] at hall
  have f1 : ds.getD m 0 + b * ds.getD (m + 1) 0 = V2 := by rw [<- eV, Nat.mul_comm]; omega
  have f2 : ps.getD m 0 + b * (ps.getD (m + 1) 0 + b * ps.getD (m + 2) 0) = U3 := by rw [<- eU]; grind
  rw [f1] at e1
  rw [f2] at e2
  have hV : b <= V2 := by
    have := Nat.le_mul_of_pos_left b hh
    omega
  have hD : V2 * b ^ m <= val b ds := by rw [e1, Nat.mul_comm V2]; exact Nat.le_add_left _ _
  have hD2 : val b ds <= (V2 + 1) * b ^ m := by rw [e1, Nat.add_mul, Nat.one_mul, Nat.mul_comm V2]; omega
  have hU1 : val b ps < (U3 + 1) * b ^ m := by rw [e2, Nat.add_mul, Nat.one_mul, Nat.mul_comm U3]; omega
  have hU2 : U3 * b ^ m <= val b ps := by rw [e2, Nat.mul_comm U3]; exact Nat.le_add_left _ _
  have hD0 : 0 < val b ds := by
    have : 0 < V2 * b ^ m := Nat.mul_pos (by omega) (Nat.pow_pos hb)
    omega
  constructor
  · refine hall _ ?_ (guess_hi hD hU1 (Nat.div_mul_le_self _ _))
    rw [Nat.div_lt_iff_lt_mul hD0]; exact hU
  · rcases Nat.eq_zero_or_pos g with h | h
    · rw [h]; exact Nat.zero_le _
    · obtain ⟨k, rfl⟩ : ∃ k, g = k + 1 := ⟨g - 1, by omega⟩
      have := guess_lo hD2 hU2 hg (by omega)
      have := (Nat.le_div_iff_mul_le hD0).2 this
      omega

/-- The numbers at the end: what was shifted is shifted back. -/
theorem long_end {x y s r q : Nat} (h : x * 2 ^ s = r + y * 2 ^ s * q) (hr : r < y * 2 ^ s) : q = x / y /\ r / 2 ^ s = x % y := by
  have hp : 0 < 2 ^ s := Nat.pow_pos (by decide)
  obtain ⟨P, eP⟩ : ∃ P, 2 ^ s = P := ⟨_, rfl⟩
  rw [eP] at h hr hp ⊢
  have hy : 0 < y := by
    rcases Nat.eq_zero_or_pos y with h0 | h0
    · subst h0; rw [Nat.zero_mul] at hr; omega
    · exact h0
  have e1 : y * P * q = (y * q) * P := by grind
  have h1 : y * q <= x := by
    rcases Nat.lt_or_ge x (y * q) with h2 | h2
    · have := Nat.mul_le_mul_right P h2
      rw [Nat.succ_eq_add_one, Nat.add_mul] at this
      omega
    · exact h2
  obtain ⟨t, rfl⟩ : ∃ t, x = y * q + t := ⟨x - y * q, by omega⟩
  rw [Nat.add_mul, e1] at h
  have h2 : r = t * P := by omega
  subst h2
  have h3 : t < y := Nat.lt_of_mul_lt_mul_right hr
  refine ⟨?_, ?_⟩
  · rw [Nat.mul_add_div hy, Nat.div_eq_of_lt h3, Nat.add_zero]
  · rw [Nat.mul_div_cancel _ hp, Nat.mul_add_mod, Nat.mod_eq_of_lt h3]
theorem top_one (b : Nat) (xs : List Nat) (m : Nat) (h : xs.length = m + 1) : val b xs = val b (xs.take m) + b ^ m * xs.getD m 0 := by
  rw [val_split b xs m (by omega), val_drop_step b xs m (by omega), List.drop_of_length_le (by omega)]
  simp [val]

/-- The divisor with its highest bit set. -/
theorem shifted_top {ys : List Nat} {s n2 t v : Nat} (hs : s < 32) (hn : ys.length = n2 + 2) (dy : Dg b32 ys) (ht : ys.getD (n2 + 1) 0 = t) (h1 : 2147483648 <= t * 2 ^ s) (h2 : t * 2 ^ s < 4294967296) (hv : v = val b32 ys * 2 ^ s) :
    b32 ^ (n2 + 1) * 2147483648 <= v /\ v < b32 ^ (n2 + 2) := by
  have e1 := top_one b32 ys (n2 + 1) hn
  rw [ht] at e1
  have l1 : val b32 (ys.take (n2 + 1)) < b32 ^ (n2 + 1) := by
    have := val_lt (dy.take (n2 + 1))
    rwa [List.length_take, Nat.min_eq_left (by omega)] at this
  have hp : 0 < 2 ^ s := Nat.pow_pos (by decide)
  have hps := pow_split hs
  have ht2 : (t + 1) * 2 ^ s <= 4294967296 := by
    have h3 : t < 2 ^ (32 - s) := by
      rw [hps, Nat.mul_comm (2 ^ s)] at h2
      exact Nat.lt_of_mul_lt_mul_right h2
    have h4 := Nat.mul_le_mul_right (2 ^ s) h3
    rw [Nat.succ_eq_add_one, Nat.mul_comm (2 ^ (32 - s)), <- hps] at h4
    exact h4
  subst hv
  constructor
  · have h3 : b32 ^ (n2 + 1) * (t * 2 ^ s) <= val b32 ys * 2 ^ s := by
      rw [<- Nat.mul_assoc]
      exact Nat.mul_le_mul_right _ (by omega)
    have h4 := Nat.mul_le_mul_left (b32 ^ (n2 + 1)) h1
    omega
  · have h3 : val b32 ys < b32 ^ (n2 + 1) * (t + 1) := by rw [Nat.mul_add, Nat.mul_one]; omega
    have h4 := Nat.mul_lt_mul_of_pos_right h3 hp
    rw [Nat.mul_assoc] at h4
    have h5 := Nat.mul_le_mul_left (b32 ^ (n2 + 1)) ht2
    have h6 : b32 ^ (n2 + 2) = b32 ^ (n2 + 1) * 4294967296 := by rw [show n2 + 2 = (n2 + 1) + 1 from rfl, Nat.pow_succ]; rfl
    omega

theorem dig_len_eq {b v n : Nat} (hb : 1 < b) (h1 : b ^ n <= v) (h2 : v < b ^ (n + 1)) : (dig b v).length = n + 1 := by
  have h3 := dig_length_le hb h2
  have h4 := val_lt (Dg_dig hb v)
  rw [val_dig hb] at h4
  rcases Nat.lt_or_ge (dig b v).length (n + 1) with h5 | h5
  · have := Nat.pow_le_pow_right (n := b) (by omega) (show (dig b v).length <= n by omega)
    omega
  · omega

/-- The leading words of the dividend are less than the divisor. -/
theorem start_lt {b n m k V D P : Nat} {R : List Nat} (hb : 0 < b) (hk : k <= R.length) (hR : val b R = V * P) (hV : V < b ^ (k + n)) (hD : b ^ n * P <= D) (hP : 0 < P) : val b (R.drop k) < D := by
  have e1 := val_split b R k hk
  have h1 : V * P < b ^ k * (b ^ n * P) := by
    rw [<- Nat.mul_assoc, <- Nat.pow_add]
    exact Nat.mul_lt_mul_of_pos_right hV hP
  have h2 : b ^ k * val b (R.drop k) < b ^ k * (b ^ n * P) := by omega
  exact Nat.lt_of_lt_of_le (Nat.lt_of_mul_lt_mul_left h2) hD
end Go.Proofs.YtcgdbdhhoomgiabGreat

namespace Go.Proofs.YtcgdbdhhoomgiabGreat

/-- Quotient words and remainder. -/
def divs (d : Nat) : List Nat -> List Nat × Nat
  | [] => ([], 0)
  | x :: r => (((divs d r).2 * 4294967296 + x) / d :: (divs d r).1, ((divs d r).2 * 4294967296 + x) % d)

theorem divs_length (d : Nat) : ∀ xs, (divs d xs).1.length = xs.length
  | [] => rfl
  | x :: r => by simp [divs, divs_length d r]

theorem divs_lt {d : Nat} (hd : 0 < d) : ∀ xs, (divs d xs).2 < d
  | [] => hd
  | x :: r => Nat.mod_lt _ hd

theorem divs_dg {d : Nat} (hd : 0 < d) : ∀ {xs}, Dg b32 xs -> Dg b32 (divs d xs).1
  | [], _ => Dg.nil
  | x :: r, h => by
    have h1 := h x (by simp)
    have h2 := divs_lt hd r
    refine Dg.cons ?_ (divs_dg hd fun e he => h e (List.mem_cons_of_mem _ he))
    unfold b32 at h1 ⊢
    rw [Nat.div_lt_iff_lt_mul hd]
    have h3 : ((divs d r).2 + 1) * 4294967296 <= d * 4294967296 := Nat.mul_le_mul_right _ h2
    rw [Nat.mul_comm 4294967296 d]
    omega

theorem divs_val {d : Nat} : ∀ xs, val b32 xs = val b32 (divs d xs).1 * d + (divs d xs).2
  | [] => by simp [divs, val]
  | x :: r => by
    have ih := divs_val (d := d) r
    have h := Nat.div_add_mod ((divs d r).2 * 4294967296 + x) d
    simp only [divs, val]
    rw [ih, Nat.add_mul, Nat.mul_assoc b32, Nat.mul_add]
    generalize val b32 (divs d r).1 * d = a
    rw [Nat.mul_comm d] at h
    generalize ((divs d r).2 * 4294967296 + x) / d * d = b at h ⊢
    generalize ((divs d r).2 * 4294967296 + x) % d = e at h ⊢
    have h2 : b32 * (divs d r).2 = (divs d r).2 * 4294967296 := Nat.mul_comm _ _
    rw [h2]
    omega

theorem divs_quot {d : Nat} (hd : 0 < d) (xs : List Nat) : val b32 (divs d xs).1 = val b32 xs / d /\ (divs d xs).2 = val b32 xs % d := by
  have h1 := divs_val (d := d) xs
  have h2 := divs_lt hd xs
  rw [h1]
  constructor
  · rw [Nat.add_comm, Nat.add_mul_div_right _ _ hd, Nat.div_eq_of_lt h2]; omega
  · rw [Nat.add_comm, Nat.add_mul_mod_self_right, Nat.mod_eq_of_lt h2]

/-- The row when the words from place m on have been divided. -/
def divRow (d : Nat) (xs : List Nat) (m : Nat) : List Nat := xs.take m ++ (divs d (xs.drop m)).1

theorem divRow_length (d : Nat) (xs : List Nat) (m : Nat) (h : m <= xs.length) : (divRow d xs m).length = xs.length := by
  simp [divRow, divs_length]; omega
theorem divRow_full (d : Nat) (xs : List Nat) : divRow d xs xs.length = xs := by simp [divRow, divs]
theorem divRow_zero (d : Nat) (xs : List Nat) : divRow d xs 0 = (divs d xs).1 := by simp [divRow]
theorem divs_step (d : Nat) (xs : List Nat) (m : Nat) (h : m < xs.length) : divs d (xs.drop m) =
    (((divs d (xs.drop (m + 1))).2 * 4294967296 + xs[m]) / d :: (divs d (xs.drop (m + 1))).1, ((divs d (xs.drop (m + 1))).2 * 4294967296 + xs[m]) % d) := by
  rw [List.drop_eq_getElem_cons h]; rfl

theorem divRow_step (d : Nat) (xs : List Nat) (m : Nat) (h : m < xs.length) : divRow d xs m = (divRow d xs (m + 1)).set m (((divs d (xs.drop (m + 1))).2 * 4294967296 + xs[m]) / d) := by
  unfold divRow
  rw [divs_step d xs m h, take_snoc xs m h, List.append_assoc, List.set_append_right _ _ (List.length_take_le _ _)]
  have hl : (xs.take m).length = m := by simp; omega
  rw [hl, Nat.sub_self]
  rfl
end Go.Proofs.YtcgdbdhhoomgiabGreat

namespace Go.Proofs.YtcgdbdhhoomgiabGreat
open Go.RowKit Go.Shelf
attribute [local go_sem] Oper.semAt_some

theorem or_shift (r x : Nat) (hr : r < 4294967296) (hx : x < 4294967296) : (r * 4294967296) ||| x = r * 4294967296 + x := by
  have h := Nat.two_pow_add_eq_or_of_lt (i := 32) (b := x) (by simpa using hx) r
  rw [Nat.mul_comm] at h
  simpa using h.symm

theorem divWord_any (g sz c d : Nat) (xs : List Nat) (w : World) (hb : Buf .u32 75 g sz xs w) (dx : Dg b32 xs) (hd : 0 < d) (hd2 : d < 4294967296) (hxc : xs.length <= c) (hc : c <= 9223372036854775807) :
    CallsIn Fence.wide 3 Tryz.prog 57 #[.slice (some ⟨g, 0, none⟩) xs.length c, .int .u32 (d : Nat)] w fun e w' => e = .returned (.int .u32 ((divs d xs).2 : Nat)) /\ Buf .u32 75 g sz (divs d xs).1 w' /\ w.grownBy w' (some g) := by
  have hg := hb.lt
  refine callsIn_of_wp_marks Tryz.func57 rfl trivial ?_ rfl
  simp only [Tryz.ntmps57, List.size_toArray, List.length_cons, List.length_nil, Nat.reduceAdd, Nat.reduceSub, Array.replicate_succ, Array.replicate_zero, List.push_toArray, List.append_toArray, List.nil_append, List.cons_append]
  gi_wp2_with (refine ⟨trivial, ?_⟩; gi_at_call 84; refine (callsIn_wide.2 (backward_any _ _ _ _)).mono ?_; rintro e w' ⟨rfl, rfl⟩)
  obtain ⟨W0, hW0⟩ : ∃ W0, W0 = (((w.alloc (.cells #[.slice (some ⟨g, 0, none⟩) xs.length c] 27)).alloc (.cells #[.int .u32 (d : Nat)] 75)).alloc (.cells #[.int .u64 0] 73)).alloc (.cells #[.slice (some ⟨g, 0, none⟩) xs.length c] 27) := ⟨_, rfl⟩
  rw [<- hW0]
  have bX : Boxed W0 w.heap.size 27 (.slice (some ⟨g, 0, none⟩) xs.length c) := by rw [hW0]; exact (((Boxed.new w _ _).alloc _).alloc _).alloc _
  have bD : Boxed W0 (w.heap.size + 1) 75 (.int .u32 (d : Nat)) := by
    have h := Boxed.new (w.alloc (.cells #[.slice (some ⟨g, 0, none⟩) xs.length c] 27)) 75 (.int .u32 (d : Nat))
    rw [World.size_alloc] at h
    rw [hW0]; exact (h.alloc _).alloc _
  have bR : Boxed W0 (w.heap.size + 1 + 1) 73 (.int .u64 0) := by
    have h := Boxed.new ((w.alloc (.cells #[.slice (some ⟨g, 0, none⟩) xs.length c] 27)).alloc (.cells #[.int .u32 (d : Nat)] 75)) 73 (.int .u64 0)
    rw [World.size_alloc, World.size_alloc] at h
    rw [hW0]; exact h.alloc _
  have bB : Boxed W0 (w.heap.size + 1 + 1 + 1) 27 (.slice (some ⟨g, 0, none⟩) xs.length c) := by
    have h := Boxed.new (((w.alloc (.cells #[.slice (some ⟨g, 0, none⟩) xs.length c] 27)).alloc (.cells #[.int .u32 (d : Nat)] 75)).alloc (.cells #[.int .u64 0] 73)) 27 (.slice (some ⟨g, 0, none⟩) xs.length c)
    rw [World.size_alloc, World.size_alloc, World.size_alloc] at h
    rw [hW0]; exact h
  have hg0 : w.grownBy W0 (some g) := by
    rw [hW0]
    exact Grown.trans (Grown.trans (Grown.trans (World.grownBy_alloc _ _ _) (World.grownBy_alloc _ _ _)) (World.grownBy_alloc _ _ _)) (World.grownBy_alloc _ _ _)
  have hbuf0 : Buf .u32 75 g sz xs W0 := by
    rw [hW0]
    exact (((hb.kept (World.grownBy_alloc _ _ none) (by simp)).kept (World.grownBy_alloc _ _ none) (by simp)).kept (World.grownBy_alloc _ _ none) (by simp)).kept (World.grownBy_alloc _ _ none) (by simp)
  have hs0 : W0.heap.size = w.heap.size + 4 := by rw [hW0]; simp
  clear hW0
  refine wp_rounds (gf := 101) (lb := #[.pointer (some ⟨w.heap.size + 1 + 1 + 1, 0, none⟩)]) ?hg (enters_of Tryz.func101 (by kernel_rfl) rfl)
    (N := xs.length) (enc := backE xs) (Keep := fun k => KeepAt (backS (w.heap.size + 1 + 1 + 1) (some ⟨g, 0, none⟩) (xs.length - 1 - k)))
    (fun W hW => backward_gives (w.heap.size + 1 + 1 + 1) w.heap.size c (some ⟨g, 0, none⟩) xs hxc hc W ((hW.cell (p := ⟨w.heap.size + 1 + 1 + 1, 0, none⟩) (by show w.heap.size + 1 + 1 + 1 < _; omega)).trans bB.cell) ((hbuf0.rd hg).below (hW.mono (by omega))))
    (fun k A₁ B₁ o o' _ h => keepAt_round (backS_lt (hbuf0.rd hg) (by omega) (by omega) (by omega)) o o' h)
    ?hps
    (fun k W => Buf .u32 75 g sz (divRow d xs (xs.length - k)) W /\ Boxed W w.heap.size 27 (.slice (some ⟨g, 0, none⟩) xs.length c) /\ Boxed W (w.heap.size + 1) 75 (.int .u32 (d : Nat)) /\
      Boxed W (w.heap.size + 1 + 1) 73 (.int .u64 ((divs d (xs.drop (xs.length - k))).2 : Nat)) /\ Boxed W (w.heap.size + 1 + 1 + 1) 27 (.slice (some ⟨g, 0, none⟩) xs.length c) /\ w.grownBy W (some g))
    (fun _ _ _ => False)
    ?hI ?hIx ⟨by rw [Nat.sub_zero, divRow_full]; exact hbuf0, bX, bD, by rw [Nat.sub_zero, List.drop_length]; exact bR, bB, hg0⟩
    (fun k => { tmps := #[.slice (some ⟨g, 0, none⟩) xs.length c, .int .u32 (d : Nat), .pointer (some ⟨w.heap.size, 0, none⟩), .pointer (some ⟨w.heap.size + 1, 0, none⟩), .int .u32 0, .pointer (some ⟨w.heap.size + 1 + 1, 0, none⟩), .int .i64 ((xs.length - 1 - k : Nat) : Int), .int .u32 ((xs.getD (xs.length - 1 - k) 0 : Nat) : Int), undef,
      .slice (some ⟨g, 0, none⟩) xs.length c, .func (.func 101) #[] #[.pointer (some ⟨w.heap.size + 1 + 1 + 1, 0, none⟩)], .int .i64 ((xs.length - 1 - k : Nat) : Int), .int .u32 ((xs.getD (xs.length - 1 - k) 0 : Nat) : Int),
      undef, undef, undef, undef, undef, undef, undef, undef, undef, undef, undef, undef, undef, undef, undef, undef, undef, undef, undef], defers := [] }) ?assign ?body ?done ?stop
  case hg => rfl
  case hps => exact fun _ => rfl
  case hI =>
    exact OwnFrom.and (Own.from (buf_own _ _ _ _ _) _) (OwnFrom.and (Own.from (boxed_own _ _ _) _) (OwnFrom.and (Own.from (boxed_own _ _ _) _) (OwnFrom.and (Own.from (boxed_own _ _ _) _) (OwnFrom.and (Own.from (boxed_own _ _ _) _) (ownFrom_grown (by omega))))))
  case hIx => exact fun _ _ _ _ _ h _ _ => h
  case assign =>
    intro l k W K hK
    unfold backE
    gi_wp2
    exact hK
  case body =>
    rintro l k W hlt ⟨hbf, cX, cD, cR, cB, hgr⟩ hk
    obtain ⟨m, hm⟩ : ∃ m, xs.length - 1 - k = m := ⟨_, rfl⟩
    have hm1 : xs.length - k = m + 1 := by omega
    have hm2 : xs.length - (k + 1) = m := by omega
    simp only [hm, hm1, hm2] at hbf cR ⊢
    have hmx : m < xs.length := by omega
    have hx : xs.getD m 0 < 4294967296 := by rw [getD_at hmx]; exact dx.at_ hmx
    have hr := divs_lt hd (xs.drop (m + 1))
    have HST := Lib.hid (divs_step d xs m hmx)
    have HRW := Lib.hid (divRow_step d xs m hmx)
    rw [<- getD_at hmx] at HST HRW
    have hml : m < (divRow d xs (m + 1)).length := by rw [divRow_length d xs _ (by omega)]; exact hmx
    have cM := hbf.cell hml
    have fM := hbf.frozen m
    obtain ⟨x, HX⟩ : ∃ x, Hid (xs.getD m 0 = x) := ⟨_, rfl⟩
    obtain ⟨r, HR⟩ : ∃ r, Hid ((divs d (xs.drop (m + 1))).2 = r) := ⟨_, rfl⟩
    rw [HX.out] at hx HST HRW ⊢
    rw [HR.out] at hr HST HRW cR
    obtain ⟨o, HO⟩ : ∃ o, (divRow d xs (m + 1))[m] = o := ⟨_, rfl⟩
    rw [HO] at cM
    have eX := cX.cell
    have eD := cD.cell
    have eR := cR.cell
    have fR := cR.frozen
    obtain ⟨t, ht⟩ : ∃ t, r * 4294967296 + x = t := ⟨_, rfl⟩
    have HT : Hid (bits .or .u64 ((r : Int) * 4294967296) (x : Int) = (t : Int)) := by
      show _ = _
      have h := bits_or_u64_nat (r * 4294967296) x (by omega) (by omega)
      rw [or_shift r x (by omega) hx, ht] at h
      simpa using h
    have hrm : (r + 1) * 4294967296 <= d * 4294967296 := Nat.mul_le_mul_right _ hr
    have htd : t < d * 4294967296 := by omega
    have htl : t < 18446744073709551616 := by omega
    rw [ht] at HST HRW
    obtain ⟨q, hq⟩ : ∃ q, t / d = q := ⟨_, rfl⟩
    obtain ⟨e, he⟩ : ∃ e, t % d = e := ⟨_, rfl⟩
    have hql : q < 4294967296 := by rw [<- hq]; rw [Nat.div_lt_iff_lt_mul hd, Nat.mul_comm]; exact htd
    have hel : e < d := by rw [<- he]; exact Nat.mod_lt _ hd
    have TQ : Int.tdiv (t : Int) (d : Int) = (q : Int) := by rw [<- hq]; rfl
    have TM : Int.tmod (t : Int) (d : Int) = (e : Int) := by rw [<- he]; rfl
    have hd0 : ((d : Int) == 0) = false := by simp; omega
    have hd1 : ¬ d = 0 := by omega
    have WD : IntKind.u64.wrap (d : Int) = (d : Int) := by rw [IntKind.wrap_u64]; omega
    have WQ : IntKind.u64.wrap (q : Int) = (q : Int) := by rw [IntKind.wrap_u64]; omega
    have WQ2 : IntKind.u32.wrap (q : Int) = (q : Int) := IntWalk.u32_in _ (by omega)
    have WE : IntKind.u64.wrap (e : Int) = (e : Int) := by rw [IntKind.wrap_u64]; omega
    rw [hq, he] at HST
    rw [hq] at HRW
    have FIN : leftBy W0.heap.size (KeepAt (backS (w.heap.size + 1 + 1 + 1) (some ⟨g, 0, none⟩) m)) (fun V => Buf .u32 75 g sz (divRow d xs m) V /\ Boxed V w.heap.size 27 (.slice (some ⟨g, 0, none⟩) xs.length c) /\ Boxed V (w.heap.size + 1) 75 (.int .u32 (d : Nat)) /\
        Boxed V (w.heap.size + 1 + 1) 73 (.int .u64 ((divs d (xs.drop m)).2 : Nat)) /\ Boxed V (w.heap.size + 1 + 1 + 1) 27 (.slice (some ⟨g, 0, none⟩) xs.length c) /\ w.grownBy V (some g)) (fun _ _ => False) W .normal { tmps := #[], defers := [] } ((W.drew.setCell ⟨g, m, none⟩ (.int .u32 (q : Nat))).setCell ⟨w.heap.size + 1 + 1, 0, none⟩ (.int .u64 (e : Nat))) := by
      have g1 : W.grownBy (W.drew.setCell ⟨g, m, none⟩ (.int .u32 (q : Nat))) (some g) := Grown.trans (Grown.drew (World.grownBy.refl W _)) (grownBy_at _ _ _ _)
      have g2 := grownBy_at (W.drew.setCell ⟨g, m, none⟩ (.int .u32 (q : Nat))) (w.heap.size + 1 + 1) 0 (.int .u64 (e : Nat))
      have n1 : some w.heap.size ≠ some g := by simp; omega
      have n2 : some (w.heap.size + 1) ≠ some g := by simp; omega
      have n3 : some (w.heap.size + 1 + 1) ≠ some g := by simp; omega
      have n4 : some (w.heap.size + 1 + 1 + 1) ≠ some g := by simp; omega
      have dB := (cB.kept g1 n4).kept g2 (by simp)
      refine ⟨(((KeepsOthers.drew W).trans (KeepsOthers.setCell _ _ _)).trans (KeepsOthers.setCell _ _ _)).from _, ?_, ?_, (cX.kept g1 n1).kept g2 (by simp; omega), (cD.kept g1 n2).kept g2 (by simp), ?_, dB, ?_⟩
      · rintro p (rfl | ⟨b, o, j, e1, hj, rfl⟩)
        · rw [dB.cell, cB.cell]
        · simp only [Option.some.injEq, Addr.mk.injEq] at e1
          obtain ⟨rfl, rfl, _⟩ := e1
          have hbf2 : Buf .u32 75 g sz ((divRow d xs (m + 1)).set m q) ((W.drew.setCell ⟨g, m, none⟩ (.int .u32 (q : Nat))).setCell ⟨w.heap.size + 1 + 1, 0, none⟩ (.int .u64 (e : Nat))) := ((hbf.kept (w' := W.drew) (Grown.drew (World.grownBy.refl W none)) (by simp)).set m q).kept g2 (by simp; omega)
          have hj2 : j < (divRow d xs (m + 1)).length := by omega
          rw [Nat.zero_add, hbf.cell hj2, hbf2.cell (by simpa using hj2)]
          simp [Nat.ne_of_gt hj]
      · rw [HRW.out]
        exact ((hbf.kept (w' := W.drew) (Grown.drew (World.grownBy.refl W none)) (by simp)).set m q).kept g2 (by simp; omega)
      · rw [HST.out]
        exact (cR.kept g1 n3).set _
      · exact Grown.later (Grown.trans hgr g1) g2 (by simp; omega)
    have FINH := Lib.hid FIN
    clear FIN HST HRW HX HR HO hbf cX cD cR cB hgr bX bD bR bB hg0 hbuf0 dx hq he ht
    gi_wp2_with fail
    rw [HT.out]
    refine region_round follows (by kernel_rfl) ?_
    refine wpAnyIn_take (i := 1) (v := .int .i64 (m : Nat)) rfl rfl (by kernel_rfl) (by kernel_rfl) (by kernel_rfl) (fun _ _ _ h => h) ⟨Or.inl ⟨by rfl, fun _ => by go_simp⟩, fun _ => rfl⟩ ?_
    refine wpAnyIn_take (i := 2) (v := .int .u64 (t : Nat)) rfl rfl (by kernel_rfl) (by kernel_rfl) (by kernel_rfl) (fun _ _ _ h => h) ⟨Or.inl ⟨by rfl, fun _ => by go_simp⟩, fun _ => rfl⟩ ?_
    refine wpAnyIn_ready (rs := [0, 3]) (by kernel_rfl) (by simp) (AllReadyIn.cons rfl (fun K hK => ?_) (AllReadyIn.cons rfl (fun K hK => ?_) AllReadyIn.nil))
    · go_simp; refine hK _ _ ?_; clear hK K
      refine wpAnyIn_ready (rs := [3]) (by kernel_rfl) (by simp) (AllReadyIn.cons rfl (fun K hK => ?_) AllReadyIn.nil)
      go_simp; refine hK _ _ ?_; clear hK K
      refine wpAnyIn_take (i := 4) (v := .int .u64 (d : Nat)) rfl rfl (by kernel_rfl) (by kernel_rfl) (by kernel_rfl) (fun _ _ _ h => h) ⟨Or.inl ⟨by rfl, fun _ => by go_simp⟩, fun _ => rfl⟩ ?_
      refine wpAnyIn_take (i := 5) (v := .int .u64 (q : Nat)) rfl rfl (by kernel_rfl) (by kernel_rfl) (by kernel_rfl) (fun _ _ _ h => h) ⟨Or.inl ⟨by rfl, fun _ => by go_simp⟩, fun _ => rfl⟩ ?_
      refine wpAnyIn_take (i := 6) (v := .int .u32 (q : Nat)) rfl rfl (by kernel_rfl) (by kernel_rfl) (by kernel_rfl) (fun _ _ _ h => h) ⟨Or.inl ⟨by rfl, fun _ => by go_simp⟩, fun _ => rfl⟩ ?_
      refine wpAnyIn_ready (rs := [7]) (by kernel_rfl) (by simp) (AllReadyIn.cons rfl (fun K hK => ?_) AllReadyIn.nil)
      go_simp; refine hK _ _ ?_; clear hK K
      refine wpAnyIn_ready (rs := [8]) (by kernel_rfl) (by simp) (AllReadyIn.cons rfl (fun K hK => ?_) AllReadyIn.nil)
      go_simp; refine hK _ _ ?_; clear hK K
      refine wpAnyIn_done (by kernel_rfl) ?_ _
      gi_wp2_with fail
      exact FINH.out
    · go_simp; refine hK _ _ ?_; clear hK K
      refine wpAnyIn_take (i := 4) (v := .int .u64 (d : Nat)) rfl rfl (by kernel_rfl) (by kernel_rfl) (by kernel_rfl) (fun _ _ _ h => h) ⟨Or.inl ⟨by rfl, fun _ => by go_simp⟩, fun _ => rfl⟩ ?_
      refine wpAnyIn_take (i := 5) (v := .int .u64 (q : Nat)) rfl rfl (by kernel_rfl) (by kernel_rfl) (by kernel_rfl) (fun _ _ _ h => h) ⟨Or.inl ⟨by rfl, fun _ => by go_simp⟩, fun _ => rfl⟩ ?_
      refine wpAnyIn_take (i := 6) (v := .int .u32 (q : Nat)) rfl rfl (by kernel_rfl) (by kernel_rfl) (by kernel_rfl) (fun _ _ _ h => h) ⟨Or.inl ⟨by rfl, fun _ => by go_simp⟩, fun _ => rfl⟩ ?_
      refine wpAnyIn_ready (rs := [0]) (by kernel_rfl) (by simp) (AllReadyIn.cons rfl (fun K hK => ?_) AllReadyIn.nil)
      go_simp; refine hK _ _ ?_; clear hK K
      refine wpAnyIn_ready (rs := [7]) (by kernel_rfl) (by simp) (AllReadyIn.cons rfl (fun K hK => ?_) AllReadyIn.nil)
      go_simp; refine hK _ _ ?_; clear hK K
      refine wpAnyIn_ready (rs := [8]) (by kernel_rfl) (by simp) (AllReadyIn.cons rfl (fun K hK => ?_) AllReadyIn.nil)
      go_simp; refine hK _ _ ?_; clear hK K
      refine wpAnyIn_done (by kernel_rfl) ?_ _
      gi_wp2_with fail
      exact FINH.out
  case done =>
    rintro W ⟨hbf, cX, cD, cR, cB, hgr⟩ hK
    rw [Nat.sub_self] at hbf cR
    rw [divRow_zero] at hbf
    rw [List.drop_zero] at cR
    have hr := divs_lt hd xs
    obtain ⟨r, HR⟩ : ∃ r, Hid ((divs d xs).2 = r) := ⟨_, rfl⟩
    rw [HR.out] at hr cR
    have WR : IntKind.u32.wrap (r : Int) = (r : Int) := IntWalk.u32_in _ (by omega)
    have eR := cR.cell
    have HEND : Hid (Buf .u32 75 g sz (divs d xs).1 W /\ w.grownBy W (some g) /\ W.heap[W0.heap.size]? = some (.deferred (some []))) := ⟨hbf, hgr, hK⟩
    clear hbf cX cD cR cB hgr bX bD bR bB hg0 hbuf0 dx hK
    gi_wp2
    obtain ⟨e1, e2, e3⟩ := HEND.out
    refine ⟨by simp, .inl ⟨_, _, rfl, run_takeDeferred e3, ?_⟩⟩
    exact ⟨_, results_tmp rfl _ _ _, by rw [HR.out]; rfl, e1.kept (grownBy_putObj' _ _ _) (by simp; omega), Grown.later e2 (grownBy_putObj' _ _ _) (by simp; omega)⟩
  case stop => exact fun _ _ _ _ h _ => h.elim
end Go.Proofs.YtcgdbdhhoomgiabGreat

namespace Go.Proofs.YtcgdbdhhoomgiabGreat
open Go.RowKit Go.Shelf

theorem guessWord_any {A A' : Option Addr} {c c' m : Nat} {ps ds : List Nat} {w : World} (hx : Rd .u32 w w.heap.size A ps) (hy : Rd .u32 w w.heap.size A' ds) (dx : Dg b32 ps) (dy : Dg b32 ds) (lx : ps.length = m + 3) (ly : ds.length = m + 2) (hm : m < 4294967296) (hh : 0 < ds.getD (m + 1) 0) :
    Calls Tryz.prog 115 #[.slice A ps.length c, .slice A' ds.length c'] w fun e w' => ∃ g : Nat, e = .returned (.int .u32 (g : Nat)) /\ g < b32 /\ g * (ds.getD (m + 1) 0 * b32 + ds.getD m 0) <= (ps.getD (m + 2) 0 * b32 + ps.getD (m + 1) 0) * b32 + ps.getD m 0 /\
      (∀ q, q < b32 -> q * (ds.getD (m + 1) 0 * b32 + ds.getD m 0) <= (ps.getD (m + 2) 0 * b32 + ps.getD (m + 1) 0) * b32 + ps.getD m 0 -> q <= g) /\ Below w.heap.size w w' := by
  obtain ⟨b1, o1, rfl, _, hc1⟩ := hx.at_ (k := 0) (by omega)
  obtain ⟨b2, o2, rfl, _, hc2⟩ := hy.at_ (k := 0) (by omega)
  have x2 := hc1 (m + 2) (by omega)
  have x1 := hc1 (m + 1) (by omega)
  have x0 := hc1 m (by omega)
  have y1 := hc2 (m + 1) (by omega)
  have y0 := hc2 m (by omega)
  rw [<- getD_at (by omega)] at x2 x1 x0 y1 y0
  have u2 := getD_dg (by decide) dx (m + 2)
  have u1 := getD_dg (by decide) dx (m + 1)
  have u0 := getD_dg (by decide) dx m
  have v1 := getD_dg (by decide) dy (m + 1)
  have v0 := getD_dg (by decide) dy m
  rw [lx, ly]
  generalize ps.getD (m + 2) 0 = p2 at *
  generalize ps.getD (m + 1) 0 = p1 at *
  generalize ps.getD m 0 = p0 at *
  generalize ds.getD (m + 1) 0 = d1 at *
  generalize ds.getD m 0 = d0 at *
  clear hc1 hc2 hx hy dx dy lx ly
  have e2 : ((m + 2 : Nat) : Int) - 1 = ((m + 1 : Nat) : Int) := by omega
  have e3 : ((m + 2 : Nat) : Int) - 2 = ((m : Nat) : Int) := by omega
  obtain ⟨top, htop⟩ : ∃ top, p2 * 4294967296 + p1 = top := ⟨_, rfl⟩
  have u2' : p2 < 4294967296 := u2
  have u1' : p1 < 4294967296 := u1
  have T1 : bits .or .u64 ((p2 : Int) * 4294967296) (p1 : Int) = (top : Int) := by
    have h := bits_or_u64_nat (p2 * 4294967296) p1 (by omega) (by omega)
    rw [or_shift p2 p1 u2' u1', htop] at h
    simpa using h
  have wd1 : IntKind.u64.wrap (d1 : Int) = (d1 : Int) := by rw [IntKind.wrap_u64]; unfold b32 at v1; omega
  have wd0 : IntKind.u64.wrap (d0 : Int) = (d0 : Int) := by rw [IntKind.wrap_u64]; unfold b32 at v0; omega
  have wp0 : IntKind.u64.wrap (p0 : Int) = (p0 : Int) := by rw [IntKind.wrap_u64]; unfold b32 at u0; omega
  have hd1 : ¬ d1 = 0 := by omega
  have hd2 : ((d1 : Int) == 0) = false := by simp; omega
  have U0 : p0 < 4294967296 := u0
  have V1 : d1 < 4294967296 := v1
  have V0 : d0 < 4294967296 := v0
  obtain ⟨Q, eQ⟩ : ∃ Q, top / d1 = Q := ⟨_, rfl⟩
  have htop64 : top < 18446744073709551616 := by omega
  have hQ64 : Q < 18446744073709551616 := by rw [<- eQ]; exact Nat.lt_of_le_of_lt (Nat.div_le_self _ _) htop64
  have TQ : (top : Int) / (d1 : Int) = (Q : Int) := by rw [<- eQ]; rfl
  have TQ2 : Int.tdiv (top : Int) (d1 : Int) = (Q : Int) := by rw [<- eQ]; rfl
  have wQ : IntKind.u64.wrap (Q : Int) = (Q : Int) := by rw [IntKind.wrap_u64]; omega
  have hQd : Q * d1 <= top := by rw [<- eQ]; exact Nat.div_mul_le_self top d1
  have hTop : Hid ((p2 * b32 + p1) * b32 + p0 = top * b32 + p0) := by show _ = _; rw [<- htop]; rfl
  have FIRST : Hid (∀ q, q < b32 -> q * (d1 * b32 + d0) <= top * b32 + p0 -> q <= Q) := fun q _ h => by rw [<- eQ]; exact guess_first h u0 (by decide) hh
  rw [hTop.out]
  clear u1 u2 htop eQ hTop u0 v1 v0
  rcases Nat.lt_or_ge 4294967295 Q with hq | hq
  rotate_left
  · have hqi : ¬ ((4294967295 : Int) < (Q : Int)) := by omega
    have hr0 : Q * d1 <= top := by exact hQd
    obtain ⟨P0, eP0⟩ : ∃ P, Q * d1 = P := ⟨_, rfl⟩
    have cP0 : (Q : Int) * (d1 : Int) = (P0 : Int) := by rw [<- eP0]; simp
    rw [eP0] at hr0
    obtain ⟨R0, eR0⟩ : ∃ R0, top = R0 + P0 := ⟨top - P0, by omega⟩
    have wP0 : IntKind.u64.wrap (P0 : Int) = (P0 : Int) := by rw [IntKind.wrap_u64]; omega
    have wR0 : IntKind.u64.wrap ((top : Int) - (P0 : Int)) = (R0 : Int) := by rw [IntKind.wrap_u64]; omega
    have INIT := Lib.hid (show R0 + Q * d1 = top by rw [eP0]; exact eR0.symm)
    have hR64 : R0 < 18446744073709551616 := by omega
    have hQ : Q < 4294967296 := by omega
    have FIRST2 := FIRST
    clear hQd eP0 eR0
    go_enter Tryz.func115, Tryz.ntmps115
    go_wp2_with fail
    go_quiet (fail)
    go_wp2_with fail
    go_quiet (fail)
    go_wp2_with fail
    clear TQ TQ2 wQ T1 x2 x1 y1 cP0 wP0 wR0 wd1 wd0 e2
    go_loopw [9, 10] (fun u s wr => ∃ (g r k : Nat), u = .int .u64 (g : Nat) /\ s = .int .u64 (r : Nat) /\ Hid (r + g * d1 = top) /\ g < 4294967296 /\ r < 18446744073709551616 /\ Hid (∀ q, q < b32 -> q * (d1 * b32 + d0) <= top * b32 + p0 -> q <= g) /\ wr = w.drewN k) (fun u _ _ => (intOf u).toNat)
    case atStart => exact ⟨Q, R0, _, rfl, rfl, INIT, hQ, hR64, FIRST2, rfl⟩
    case round =>
      obtain ⟨g, r, k, rfl, rfl, hr, hg, hr64, hall, rfl⟩ := hrel
      have wp0 : IntKind.u64.wrap (p0 : Int) = (p0 : Int) := by rw [IntKind.wrap_u64]; omega
      have wd0 : IntKind.u64.wrap (d0 : Int) = (d0 : Int) := by rw [IntKind.wrap_u64]; omega
      have wg : IntKind.u32.wrap (g : Int) = (g : Int) := IntWalk.u32_in _ (by omega)
      have hb : Below w.heap.size w (w.drewN k) := bel_drewN (Below.refl _ _) k
      rcases Nat.lt_or_ge r 4294967296 with hr32 | hr32
      · have hrl : (r : Int) < 4294967296 := by omega
        obtain ⟨P, eP⟩ : ∃ P, g * d0 = P := ⟨_, rfl⟩
        have hP : P < 18446744073709551616 := by
          have h1 : g * d0 <= 4294967295 * 4294967295 := Nat.mul_le_mul (by omega) (by omega)
          omega
        have cP : (g : Int) * (d0 : Int) = (P : Int) := by rw [<- eP]; simp
        have wP : IntKind.u64.wrap (P : Int) = (P : Int) := by rw [IntKind.wrap_u64]; omega
        have TB : bits .or .u64 ((r : Int) * 4294967296) (p0 : Int) = ((r * 4294967296 + p0 : Nat) : Int) := by
          have h := bits_or_u64_nat (r * 4294967296) p0 (by omega) (by omega)
          rw [or_shift r p0 hr32 U0] at h
          simpa using h
        obtain ⟨T, eT⟩ : ∃ T, r * 4294967296 + p0 = T := ⟨_, rfl⟩
        rw [eT] at TB
        rcases Nat.lt_or_ge T P with hTP | hTP
        · have hgt : (T : Int) < (P : Int) := by omega
          have hg1 : 1 <= g := by
            rcases Nat.eq_zero_or_pos g with h | h
            · subst h; rw [Nat.zero_mul] at eP; omega
            · exact h
          obtain ⟨j, ej⟩ : ∃ j, g = j + 1 := ⟨g - 1, by omega⟩
          obtain ⟨r2, er2⟩ : ∃ r2, r + d1 = r2 := ⟨_, rfl⟩
          have wg1 : IntKind.u64.wrap ((g : Int) - 1) = (j : Int) := by rw [IntKind.wrap_u64]; omega
          have wr1 : IntKind.u64.wrap ((r : Int) + (d1 : Int)) = (r2 : Int) := by rw [IntKind.wrap_u64]; omega
          have HR2 : Hid (r2 + j * d1 = top) := by
            have h := hr.out
            rw [ej, Nat.add_mul, Nat.one_mul] at h
            show _ = _
            omega
          have HALL2 : Hid (∀ q, q < b32 -> q * (d1 * b32 + d0) <= top * b32 + p0 -> q <= j) := fun q hq h => by
            have := guess_less hr.out (show r * b32 + p0 < g * d0 by rw [eP]; unfold b32; omega) h
            omega
          have hj : j < 4294967296 := by omega
          have hr2 : r2 < 18446744073709551616 := by omega
          have HJ := Lib.hid ej
          clear hr hall FIRST FIRST2 INIT eP eT er2 ej
          go_wp2
          go_roundw
          case rel => exact ⟨j, r2, _, rfl, rfl, HR2, hj, hr2, HALL2, by first | rfl | rw [World.drewN_drewN]⟩
          case measure => have := HJ.out; simp [intOf]; omega
        · have hgt : ¬ ((T : Int) < (P : Int)) := by omega
          have DONE : Hid (g * (d1 * b32 + d0) <= top * b32 + p0) := guess_done hr.out (.inr (by rw [eP]; unfold b32; omega)) (by unfold b32; omega) (by unfold b32; omega)
          clear hr FIRST FIRST2 INIT eP eT
          go_wp2
          go_ret
          exact ⟨g, rfl, by unfold b32; omega, DONE.out, hall.out, bel_drewN (Below.refl _ _) _⟩
      · have hrl : ¬ ((r : Int) < 4294967296) := by omega
        have DONE : Hid (g * (d1 * b32 + d0) <= top * b32 + p0) := guess_done hr.out (.inl (by unfold b32; omega)) (by unfold b32; omega) (by unfold b32; omega)
        clear hr FIRST FIRST2 INIT
        go_wp2
        go_ret
        exact ⟨g, rfl, by unfold b32; omega, DONE.out, hall.out, bel_drewN (Below.refl _ _) _⟩
  · have hqi : (4294967295 : Int) < (Q : Int) := by omega
    have hr0 : 4294967295 * d1 <= top := by exact Nat.le_trans (Nat.mul_le_mul_right _ (Nat.le_of_lt hq)) hQd
    obtain ⟨P0, eP0⟩ : ∃ P, 4294967295 * d1 = P := ⟨_, rfl⟩
    have cP0 : 4294967295 * (d1 : Int) = (P0 : Int) := by omega
    rw [eP0] at hr0
    obtain ⟨R0, eR0⟩ : ∃ R0, top = R0 + P0 := ⟨top - P0, by omega⟩
    have wP0 : IntKind.u64.wrap (P0 : Int) = (P0 : Int) := by rw [IntKind.wrap_u64]; omega
    have wR0 : IntKind.u64.wrap ((top : Int) - (P0 : Int)) = (R0 : Int) := by rw [IntKind.wrap_u64]; omega
    have INIT := Lib.hid (show R0 + 4294967295 * d1 = top by rw [eP0]; exact eR0.symm)
    have hR64 : R0 < 18446744073709551616 := by omega
    have h4294967295 : 4294967295 < 4294967296 := by omega
    have FIRST2 : Hid (∀ q, q < b32 -> q * (d1 * b32 + d0) <= top * b32 + p0 -> q <= 4294967295) := fun q h _ => by unfold b32 at h; omega
    clear hQd eP0 eR0
    go_enter Tryz.func115, Tryz.ntmps115
    go_wp2_with fail
    go_quiet (fail)
    go_wp2_with fail
    go_quiet (fail)
    go_wp2_with fail
    clear TQ TQ2 wQ T1 x2 x1 y1 cP0 wP0 wR0 wd1 wd0 e2
    go_loopw [9, 10] (fun u s wr => ∃ (g r k : Nat), u = .int .u64 (g : Nat) /\ s = .int .u64 (r : Nat) /\ Hid (r + g * d1 = top) /\ g < 4294967296 /\ r < 18446744073709551616 /\ Hid (∀ q, q < b32 -> q * (d1 * b32 + d0) <= top * b32 + p0 -> q <= g) /\ wr = w.drewN k) (fun u _ _ => (intOf u).toNat)
    case atStart => exact ⟨4294967295, R0, _, rfl, rfl, INIT, h4294967295, hR64, FIRST2, rfl⟩
    case round =>
      obtain ⟨g, r, k, rfl, rfl, hr, hg, hr64, hall, rfl⟩ := hrel
      have wp0 : IntKind.u64.wrap (p0 : Int) = (p0 : Int) := by rw [IntKind.wrap_u64]; omega
      have wd0 : IntKind.u64.wrap (d0 : Int) = (d0 : Int) := by rw [IntKind.wrap_u64]; omega
      have wg : IntKind.u32.wrap (g : Int) = (g : Int) := IntWalk.u32_in _ (by omega)
      have hb : Below w.heap.size w (w.drewN k) := bel_drewN (Below.refl _ _) k
      rcases Nat.lt_or_ge r 4294967296 with hr32 | hr32
      · have hrl : (r : Int) < 4294967296 := by omega
        obtain ⟨P, eP⟩ : ∃ P, g * d0 = P := ⟨_, rfl⟩
        have hP : P < 18446744073709551616 := by
          have h1 : g * d0 <= 4294967295 * 4294967295 := Nat.mul_le_mul (by omega) (by omega)
          omega
        have cP : (g : Int) * (d0 : Int) = (P : Int) := by rw [<- eP]; simp
        have wP : IntKind.u64.wrap (P : Int) = (P : Int) := by rw [IntKind.wrap_u64]; omega
        have TB : bits .or .u64 ((r : Int) * 4294967296) (p0 : Int) = ((r * 4294967296 + p0 : Nat) : Int) := by
          have h := bits_or_u64_nat (r * 4294967296) p0 (by omega) (by omega)
          rw [or_shift r p0 hr32 U0] at h
          simpa using h
        obtain ⟨T, eT⟩ : ∃ T, r * 4294967296 + p0 = T := ⟨_, rfl⟩
        rw [eT] at TB
        rcases Nat.lt_or_ge T P with hTP | hTP
        · have hgt : (T : Int) < (P : Int) := by omega
          have hg1 : 1 <= g := by
            rcases Nat.eq_zero_or_pos g with h | h
            · subst h; rw [Nat.zero_mul] at eP; omega
            · exact h
          obtain ⟨j, ej⟩ : ∃ j, g = j + 1 := ⟨g - 1, by omega⟩
          obtain ⟨r2, er2⟩ : ∃ r2, r + d1 = r2 := ⟨_, rfl⟩
          have wg1 : IntKind.u64.wrap ((g : Int) - 1) = (j : Int) := by rw [IntKind.wrap_u64]; omega
          have wr1 : IntKind.u64.wrap ((r : Int) + (d1 : Int)) = (r2 : Int) := by rw [IntKind.wrap_u64]; omega
          have HR2 : Hid (r2 + j * d1 = top) := by
            have h := hr.out
            rw [ej, Nat.add_mul, Nat.one_mul] at h
            show _ = _
            omega
          have HALL2 : Hid (∀ q, q < b32 -> q * (d1 * b32 + d0) <= top * b32 + p0 -> q <= j) := fun q hq h => by
            have := guess_less hr.out (show r * b32 + p0 < g * d0 by rw [eP]; unfold b32; omega) h
            omega
          have hj : j < 4294967296 := by omega
          have hr2 : r2 < 18446744073709551616 := by omega
          have HJ := Lib.hid ej
          clear hr hall FIRST FIRST2 INIT eP eT er2 ej
          go_wp2
          go_roundw
          case rel => exact ⟨j, r2, _, rfl, rfl, HR2, hj, hr2, HALL2, by first | rfl | rw [World.drewN_drewN]⟩
          case measure => have := HJ.out; simp [intOf]; omega
        · have hgt : ¬ ((T : Int) < (P : Int)) := by omega
          have DONE : Hid (g * (d1 * b32 + d0) <= top * b32 + p0) := guess_done hr.out (.inr (by rw [eP]; unfold b32; omega)) (by unfold b32; omega) (by unfold b32; omega)
          clear hr FIRST FIRST2 INIT eP eT
          go_wp2
          go_ret
          exact ⟨g, rfl, by unfold b32; omega, DONE.out, hall.out, bel_drewN (Below.refl _ _) _⟩
      · have hrl : ¬ ((r : Int) < 4294967296) := by omega
        have DONE : Hid (g * (d1 * b32 + d0) <= top * b32 + p0) := guess_done hr.out (.inl (by unfold b32; omega)) (by unfold b32; omega) (by unfold b32; omega)
        clear hr FIRST FIRST2 INIT
        go_wp2
        go_ret
        exact ⟨g, rfl, by unfold b32; omega, DONE.out, hall.out, bel_drewN (Below.refl _ _) _⟩
end Go.Proofs.YtcgdbdhhoomgiabGreat

namespace Go.Proofs.YtcgdbdhhoomgiabGreat
open Go.RowKit Go.Shelf

theorem bits_or_u32_nat (a b : Nat) (ha : a < 4294967296) (hb : b < 4294967296) : bits .or .u32 (a : Int) (b : Int) = ((a ||| b : Nat) : Int) := by
  have hx : a ||| b < 2 ^ 32 := Nat.or_lt_two_pow (by omega) (by omega)
  have h1 : (BitVec.ofInt 32 (a : Int)).toNat = a := by
    rw [BitVec.ofInt_natCast, BitVec.toNat_ofNat]; exact Nat.mod_eq_of_lt (by omega)
  have h2 : (BitVec.ofInt 32 (b : Int)).toNat = b := by
    rw [BitVec.ofInt_natCast, BitVec.toNat_ofNat]; exact Nat.mod_eq_of_lt (by omega)
  show IntKind.u32.wrap ((BitVec.ofInt 32 (a : Int) ||| BitVec.ofInt 32 (b : Int)).toNat : Int) = _
  rw [BitVec.toNat_or, h1, h2, IntWalk.u32_in _ (by omega)]

theorem shiftLeft_any {A : Option Addr} {c s : Nat} {xs : List Nat} {w : World} (hx : Arg w A c xs) (hs : s < 32) :
    Calls Tryz.prog 114 #[.slice A xs.length c, .int .i64 (s : Nat)] w fun e w' => ∃ zs, e = .returned (.slice (some ⟨w.heap.size, 0, none⟩) zs.length zs.length) /\ Buf .u32 75 w.heap.size zs.length zs w' /\ zs.length = xs.length + 1 /\ Dg b32 zs /\ val b32 zs = val b32 xs * 2 ^ s /\ Below w.heap.size w w' := by
  obtain ⟨i0, hi', hz0, hz1, hz2⟩ := info_parts infoWord
  have HX := Lib.hid hx
  have hxl := hx.small
  clear hx
  obtain ⟨N, hN⟩ : ∃ N, xs.length + 1 = N := ⟨_, rfl⟩
  have HN := Lib.hid hN
  go_enter Tryz.func114, Tryz.ntmps114
  go_wp2_with (at_make; refine wpList_make_full _ rfl _ _ 27 rfl w.heap.size 75 i0 (.int .u32 0) 1 Tryz.underlying27 hi' hz0 hz1 .i64 .i64 _ _ N rfl rfl (by omega) (by omega) (by rw [hz2]; omega) (by unfold maxLen; omega) (Nat.le_refl _) ?_; intro w4 hown4 hgrow4)
  have hb4 : Below w.heap.size w w4 := (Below.refl _ _).grown hgrow4 (Nat.le_refl _) (fun k e => by cases e)
  have hbuf4 : Buf .u32 75 w.heap.size N (List.replicate N 0) w4 := by
    refine Buf.from_own (base := w.heap.size) (xs := List.replicate N 0) (List.length_replicate ..) ?_
    have h := hown4
    rw [Nat.mul_one, show (Value.int .u32 0).cells = #[.int .u32 0] from rfl, toList_madeCells_one] at h
    simpa [ints] using h
  clear hown4 hgrow4
  go_loopw [15] (fun iv wr => ∃ (i : Nat) (Q : List Nat), iv = .int .i64 i /\ i <= xs.length /\ Q.length = N /\ Dg b32 Q /\ Hid (Zf Q (i + 1)) /\ Q.getD i 0 < 2 ^ s /\ Hid (val b32 Q = val b32 (xs.take i) * 2 ^ s) /\ Buf .u32 75 w.heap.size N Q wr /\ Below w.heap.size w wr)
    (fun iv _ => xs.length - (intOf iv).toNat)
  case atStart =>
    have hz : ∀ j, (List.replicate N 0).getD j 0 = 0 := by
      intro j
      simp [List.getD, List.getElem?_replicate]
      split <;> rfl
    refine ⟨0, List.replicate N 0, rfl, Nat.zero_le _, by simp, ?_, fun j _ => hz j, by rw [hz]; exact Nat.pow_pos (by decide), ?_, hbuf4, hb4⟩
    · intro d hd
      rw [List.eq_of_mem_replicate hd]; decide
    · show _ = _
      rw [val_zeros]; simp [val]
  case round =>
    obtain ⟨i, Q, rfl, hi, hQl, hQd, HZ, hlow, HV, hbf, hb⟩ := hrel
    by_cases hlt : i < xs.length
    · obtain ⟨bx, ox, rfl, _, hcx⟩ := (HX.out.to hb).rd.at_ hlt
      have ex := hcx i hlt
      rw [<- getD_at hlt] at ex
      have hf := getD_dg (by decide) HX.out.dg i
      have HTK := Lib.hid (val_take_succ (b := b32) xs i)
      obtain ⟨x, ef⟩ : ∃ f, Hid (xs.getD i 0 = f) := ⟨_, rfl⟩
      rw [ef.out] at ex hf HTK
      have hi1 : i + 1 < Q.length := by omega
      have hi0 : i < Q.length := by omega
      have ev := hbf.cell hi0
      rw [<- getD_at hi0] at ev
      have fv := hbf.frozen i
      obtain ⟨v, hvv⟩ : ∃ v, Hid (Q.getD i 0 = v) := ⟨_, rfl⟩
      rw [hvv.out] at ev hlow
      have hz1 : Q.getD (i + 1) 0 = 0 := HZ.out _ (Nat.le_refl _)
      have HR := Lib.hid (shl_round (x := x) hs hi1 hvv.out hz1 HV.out)
      have hx32 : x < 4294967296 := hf
      have hW64 := shl_word (s := s) hx32 hs
      have hlow2 := shl_low (x := x) hs
      have hhigh := shl_high hs hx32
      obtain ⟨X, eX⟩ : ∃ X, x * 2 ^ s = X := ⟨_, rfl⟩
      rw [eX] at HR hW64 hlow2 hhigh
      have cX : (x : Int) * 2 ^ s = (X : Int) := by rw [<- eX]; push_cast; rfl
      have wX : IntKind.u64.wrap (X : Int) = (X : Int) := by rw [IntKind.wrap_u64]; omega
      obtain ⟨L, eL⟩ : ∃ L, X % 4294967296 = L := ⟨_, rfl⟩
      obtain ⟨H, eH⟩ : ∃ H, X / 4294967296 = H := ⟨_, rfl⟩
      rw [eL] at HR hlow2
      rw [eH] at HR hhigh
      have h2s : 2 ^ s <= 2147483648 := Nat.pow_le_pow_right (n := 2) (by decide) (show s <= 31 by omega)
      have hL : L < 4294967296 := by rw [<- eL]; exact Nat.mod_lt _ (by decide)
      have hH : H < 4294967296 := by omega
      have hor : v ||| L = v + L := by rw [hlow2]; exact or_low hlow
      have hvL : v + L < 4294967296 := by
        rw [<- hor]; exact Nat.or_lt_two_pow (n := 32) (by omega) (by omega)
      have T1 : bits .or .u32 (v : Int) (L : Int) = ((v + L : Nat) : Int) := by
        have h := bits_or_u32_nat v L (by omega) (by omega)
        rw [hor] at h
        exact h
      obtain ⟨S, eS⟩ : ∃ S, v + L = S := ⟨_, rfl⟩
      rw [eS] at HR T1 hvL
      have cL : (X : Int) % 4294967296 = (L : Int) := by omega
      have cH : (X : Int) / 4294967296 = (H : Int) := by omega
      have cH2 : (H : Int) % 4294967296 = (H : Int) := by omega
      have d1 := hbf.set i S
      have d1l : i + 1 < (Q.set i S).length := by rw [List.length_set]; exact hi1
      have ev2 := d1.cell d1l
      have fv2 := d1.frozen (i + 1)
      obtain ⟨o, HO⟩ : ∃ o, (Q.set i S)[i + 1] = o := ⟨_, rfl⟩
      rw [HO] at ev2
      have hs0 := hb.size
      have FIN : Buf .u32 75 w.heap.size N ((Q.set i S).set (i + 1) H) ((wr.setCell ⟨w.heap.size, i, none⟩ (.int .u32 (S : Nat))).setCell ⟨w.heap.size, i + 1, none⟩ (.int .u32 (H : Nat))) /\
          Below w.heap.size w ((wr.setCell ⟨w.heap.size, i, none⟩ (.int .u32 (S : Nat))).setCell ⟨w.heap.size, i + 1, none⟩ (.int .u32 (H : Nat))) :=
        ⟨d1.set _ _, (hb.setCell (p := ⟨w.heap.size, i, none⟩) (Nat.le_refl _) _).setCell (p := ⟨w.heap.size, i + 1, none⟩) (Nat.le_refl _) _⟩
      have FINH := Lib.hid FIN
      have HZ2 : Hid (Zf ((Q.set i S).set (i + 1) H) (i + 1 + 1)) := fun j hj => by rw [getD_set_other _ H (by omega), getD_set_other Q S (by omega)]; exact HZ.out j (by omega)
      have HLOW : Hid (((Q.set i S).set (i + 1) H).getD (i + 1) 0 < 2 ^ s) := by
        show _ < _
        rw [getD_at (by rw [List.length_set]; exact d1l), List.getElem_set_self]
        exact hhigh
      have HVN : Hid (val b32 ((Q.set i S).set (i + 1) H) = val b32 (xs.take (i + 1)) * 2 ^ s) := by
        show _ = _
        rw [HR.out, HTK.out]
      have hiN : (i : Int) + 1 < (N : Int) := by omega
      have hiN0 : (i : Int) < (N : Int) := by omega
      have hQd2 : Hid (Dg b32 ((Q.set i S).set (i + 1) H)) := (hQd.set _ hvL).set _ hH
      clear hcx hz1 HV FIN d1 d1l HO hbf hb eX eL eH hlow2 hhigh hor eS hs0 hlow
      go_wp2
      go_roundw
      case rel => exact ⟨i + 1, (Q.set i S).set (i + 1) H, by simp, by omega, by rw [List.length_set, List.length_set]; exact hQl, hQd2.out, HZ2, HLOW.out, HVN, FINH.out.1, FINH.out.2⟩
      case measure => simp [intOf]; omega
    · obtain rfl : i = xs.length := by omega
      rw [List.take_of_length_le (Nat.le_refl _)] at HV
      have HB := Lib.hid hb
      have hN2 := HN.out
      have hbf2 := hbf
      rw [<- hQl] at hbf2 ⊢
      have HBF := Lib.hid hbf2
      clear hbf hb hbf2
      go_wp2
      go_ret
      exact ⟨Q, rfl, HBF.out, by omega, hQd, HV.out, HB.out⟩
end Go.Proofs.YtcgdbdhhoomgiabGreat
