/- whole.combine as a sum of numbers; whole.integer: the canonical integer with a sign and a magnitude. -/
import Derived.Test.YtlnjnoingiohjaaSumWalkY
namespace Go.Proofs.Ytlnjnoingiohjaa
open Go.RowKit Go.Shelf

theorem Sl.of_own {kd : IntKind} {w : World} {base : Nat} {e : TypeId} {v : Value} {n : Nat} {xs : List Nat} (h : w.ownsRow base e 1 v n (ints kd xs)) : Sl kd w w.heap.size v xs := by
  have hn : xs.length = n := by have := h.1; simp [ints] at this; omega
  have h' := h
  rcases h'.2 with ⟨rfl, h0⟩ | ⟨g, cap, cur, rfl, _, _, hc, hm, _⟩
  · have : xs = [] := List.eq_nil_of_length_eq_zero (by omega)
    subst this
    exact ⟨none, 0, rfl, Rd.nil, by simp, by omega⟩
  · subst hn
    exact ⟨_, cap, rfl, Rd.of_own h (Nat.le_refl _), hc, by simpa [maxLen] using hm⟩

/-- x + q y, for q = 1 or -1, where that is not negative. -/
theorem combine_any (q : Int) (hq : q = 1 ∨ q = -1) (A A' : Option Addr) (c c' : Nat) (xs ys : List Nat) (w : World) (hx : Rd .u32 w w.heap.size A xs) (hy : Rd .u32 w w.heap.size A' ys)
    (dx : Dg b32 xs) (dy : Dg b32 ys) (hxl : xs.length ≤ 4294967296) (hyl : ys.length ≤ 4294967296) (h0 : 0 ≤ ((val b32 xs : Nat) : Int) + q * (val b32 ys : Nat)) :
    Calls Try.prog 60 #[.slice A xs.length c, .slice A' ys.length c', .int .i64 1, .int .i64 q] w fun e w' => ∃ v zs, e = .returned v ∧
      Sl .u32 w' w'.heap.size v zs ∧ Dg b32 zs ∧ zs.length ≤ max xs.length ys.length + 1 ∧ ((val b32 zs : Nat) : Int) = (val b32 xs : Nat) + q * (val b32 ys : Nat) ∧ Below w.heap.size w w' := by
  rcases Nat.lt_or_ge xs.length ys.length with hle | hle
  · refine (callsIn_wide.1 (combine_y q hq A A' c c' xs ys w hx hy dx dy hxl hyl hle)).mono ?_
    rintro e w' ⟨v, rfl, hown, hb⟩
    exact ⟨v, _, rfl, Sl.of_own hown, outs_dg q xs ys _, by rw [outs_length]; omega, outs_all hq dx dy h0 (Nat.le_of_lt hle) (Nat.le_refl _), hb⟩
  · refine (callsIn_wide.1 (combine_x q hq A A' c c' xs ys w hx hy dx dy hxl hyl hle)).mono ?_
    rintro e w' ⟨v, rfl, hown, hb⟩
    exact ⟨v, _, rfl, Sl.of_own hown, outs_dg q xs ys _, by rw [outs_length]; omega, outs_all hq dx dy h0 (Nat.le_refl _) hle, hb⟩

/-- The integer with a sign and a magnitude. -/
def zof (neg : Bool) (n : Nat) : Int := if neg then -(n : Int) else n

/-- v reads as the integer z in w, in canonical form, below block B. -/
def Zs (w : World) (B : Nat) (v : Value) (z : Int) : Prop := ∃ sv, v = .agg #[.bool (decide (z < 0)), sv] ∧ Sl .u32 w B sv (dig b32 z.natAbs)

theorem Zs.to {w w' : World} {v : Value} {z : Int} (h : Zs w w.heap.size v z) (hb : Below w.heap.size w w') : Zs w' w'.heap.size v z := by
  obtain ⟨sv, rfl, hs⟩ := h
  exact ⟨sv, rfl, hs.to hb⟩

theorem zof_abs (neg : Bool) (n : Nat) : (zof neg n).natAbs = n := by cases neg <;> simp [zof]
theorem zof_neg (neg : Bool) {n : Nat} (h : n ≠ 0) : decide (zof neg n < 0) = neg := by cases neg <;> simp [zof] <;> omega
theorem zof_zero (neg : Bool) : zof neg 0 = 0 := by cases neg <;> rfl

set_option maxHeartbeats 400000 in
theorem integer_any (neg : Bool) (A : Option Addr) (c : Nat) (xs : List Nat) (w : World) (hx : Rd .u32 w w.heap.size A xs) (dx : Dg b32 xs) (hc : xs.length ≤ c) (hc' : c ≤ 9223372036854775807) :
    Calls Try.prog 47 #[.bool neg, .slice A xs.length c] w fun e w' => ∃ v, e = .returned v ∧ Zs w' w'.heap.size v (zof neg (val b32 xs)) ∧ Below w.heap.size w w' := by
  have hsl := Sl.trim b32_one hx dx hc hc'
  have hn := trimN_zero' (b := b32) (by decide) (xs := xs)
  have HSL := Lib.hid hsl
  have HX := Lib.hid hx
  have HT := Lib.hid hn
  clear hsl hn hx
  by_cases h0 : trimN xs = 0
  · have hz : val b32 xs = 0 := HT.out.1 h0
    rw [hz, zof_zero]
    have HZ := Lib.hid hz
    have H0 := Lib.hid h0
    clear hz h0
    have h1 : (((trimN xs : Nat) : Int) == 0) = true := by rw [H0.out]; rfl
    go_enter Try.func47, Try.ntmps47
    go_wp2_with (go_at_call 44; refine (trim_any A c _ xs _ (HX.out.to ((Below.refl _ _).alloc (Nat.le_refl _) _)) hc hc').mono ?_; rintro e w' ⟨rfl, rfl⟩)
    refine bodyPost_ret (v := .agg #[.bool false, .slice none 0 0]) (by simp [results, Try.f47, go_sem]) rfl ⟨_, rfl, ⟨_, rfl, none, 0, rfl, Rd.nil, by simp [dig_zero], by omega⟩, (Below.refl _ _).alloc (Nat.le_refl _) _⟩
  · have hz : val b32 xs ≠ 0 := fun h => h0 (HT.out.2 h)
    have HZ := Lib.hid hz
    have h1 : (((trimN xs : Nat) : Int) == 0) = false := by simp [h0]
    have ht0 : trimN xs ≤ c := Nat.le_trans (trimN_le xs) hc
    clear hz h0
    go_enter Try.func47, Try.ntmps47
    go_wp2_with (go_at_call 44; refine (trim_any A c _ xs _ (HX.out.to ((Below.refl _ _).alloc (Nat.le_refl _) _)) hc hc').mono ?_; rintro e w' ⟨rfl, rfl⟩)
    refine bodyPost_ret (v := .agg #[.bool neg, .slice A (trimN xs) c]) (by simp [results, Try.f47, go_sem]) rfl ⟨_, rfl, ⟨_, by rw [zof_neg neg HZ.out], ?_⟩, (Below.refl _ _).alloc (Nat.le_refl _) _⟩
    rw [zof_abs]
    have hb : Below w.heap.size w (w.alloc (.cells #[.bool neg, .slice A (trimN xs) c] 24)) := (Below.refl _ _).alloc (Nat.le_refl _) _
    exact HSL.out.to hb
end Go.Proofs.Ytlnjnoingiohjaa
