/- The law's worked examples: what each call gives. -/
import Derived.Test.YtlnjnoingiohjaaDivMod
import Derived.Test.YtlnjnoingiohjaaParseEx
import Derived.Test.YtlnjnoingiohjaaFormat
import Derived.Test.YtlnjnoingiohjaaIs
import Derived.Test.YtlnjnoingiohjaaGcd
namespace Go.Proofs.Ytlnjnoingiohjaa
open Go.RowKit Go.Shelf

theorem dig_small_len {m : Nat} (h : m < 18446744073709551616) : (dig b32 m).length ≤ 2 := dig_length_le b32_one (by rw [show b32 ^ 2 = 18446744073709551616 from by decide]; exact h)

theorem Arg.digits {w : World} {A : Option Addr} {c m : Nat} (h : Rd .u32 w w.heap.size A (dig b32 m)) (hl : (dig b32 m).length ≤ c) (hc : c ≤ 9223372036854775807) (hm : m < 18446744073709551616) : Arg w A c (dig b32 m) :=
  ⟨h, Dg_dig b32_one m, hl, hc, Nat.le_trans (dig_small_len hm) (by decide)⟩

/-- A function's value is an integer of at most two words: m under the sign. -/
def Gv (w : World) (neg : Bool) (m : Nat) (e : Ending) (w' : World) : Prop := ∃ A c xs, e = .returned (.agg #[.bool neg, .slice A xs.length c]) ∧ Hid (xs = dig b32 m) ∧ Arg w' A c xs ∧ Below w.heap.size w w'

theorem Gv.of {w w' : World} {z : Int} {neg : Bool} {m : Nat} {e : Ending} (hn : decide (z < 0) = neg) (hm : z.natAbs = m) (hl : m < 18446744073709551616) (h : ZRet w z e w') : Gv w neg m e w' := by
  subst hn hm
  obtain ⟨A, c, rfl, h1, h2, h3, h4⟩ := h
  exact ⟨A, c, _, rfl, rfl, .digits h1 h2 h3 hl, h4⟩

theorem n_g (z : Int) (neg : Bool) (m : Nat) (h1 : -9223372036854775808 ≤ z) (h2 : z ≤ 9223372036854775807) (hn : decide (z < 0) = neg) (hm : z.natAbs = m) (hl : m < 18446744073709551616) (w : World) :
    Calls Try.prog 42 #[.int .i64 z] w (Gv w neg m) := (n_any z h1 h2 w).mono fun _ _ h => Gv.of hn hm hl h

/-- DivMod's value. -/
def Dv (w : World) (nq : Bool) (q : Nat) (r : Nat) (e : Ending) (w' : World) : Prop := ∃ A c xs A' c' ys, e = .returned (.tuple #[.agg #[.bool nq, .slice A xs.length c], .agg #[.bool false, .slice A' ys.length c'], .int .i64 0]) ∧
  Hid (xs = dig b32 q) ∧ Hid (ys = dig b32 r) ∧ Arg w' A c xs ∧ Arg w' A' c' ys ∧ Below w.heap.size w w'

theorem Dv.of {w w' : World} {q r : Int} {nq : Bool} {mq mr : Nat} {e : Ending} (hn : decide (q < 0) = nq) (hm : q.natAbs = mq) (hl : mq < 18446744073709551616) (hr : r = (mr : Nat)) (hl2 : mr < 18446744073709551616) (h : DRet w q r e w') : Dv w nq mq mr e w' := by
  subst hn hm hr
  obtain ⟨A, c, A', c', rfl, h1, h2, h3, h4, h5, h6, h7⟩ := h
  rw [Int.natAbs_natCast] at h2 h5
  refine ⟨A, c, _, A', c', _, ?_, rfl, rfl, .digits h1 h3 h4 hl, .digits h2 h5 h6 hl2, h7⟩
  rw [Int.natAbs_natCast, show decide (((mr : Nat) : Int) < 0) = false from by simp]

theorem two_of {xs : List Nat} {m : Nat} (h : Hid (xs = dig b32 m)) (hm : m < 18446744073709551616) : val b32 xs = m ∧ (trimL xs).length ≤ 2 := by
  obtain rfl : xs = dig b32 m := h.out
  exact ⟨val_dig b32_one m, by rw [trimL_of_dig b32_one]; exact dig_small_len hm⟩

theorem dm_1 {A A' : Option Addr} {c c' : Nat} {xs ys : List Nat} {w : World} (h1 : Hid (xs = dig b32 7)) (h2 : Hid (ys = dig b32 2)) (hx : Arg w A c xs) (hy : Arg w A' c' ys) :
    Calls Try.prog 33 #[.agg #[.bool true, .slice A xs.length c], .agg #[.bool false, .slice A' ys.length c']] w (Dv w true 4 1) := by
  obtain ⟨v1, t1⟩ := two_of h1 (by decide)
  obtain ⟨v2, _⟩ := two_of h2 (by decide)
  have h := dm_tfn hx hy t1 (by rw [v2]; decide) (by rw [v1, v2]; decide)
  rw [v1, v2] at h
  exact h.mono fun _ _ h => Dv.of (by decide) (by decide) (by decide) (by decide) (by decide) h

theorem dm_2 {A A' : Option Addr} {c c' : Nat} {xs ys : List Nat} {w : World} (h1 : Hid (xs = dig b32 7)) (h2 : Hid (ys = dig b32 2)) (hx : Arg w A c xs) (hy : Arg w A' c' ys) :
    Calls Try.prog 33 #[.agg #[.bool true, .slice A xs.length c], .agg #[.bool true, .slice A' ys.length c']] w (Dv w false 4 1) := by
  obtain ⟨v1, t1⟩ := two_of h1 (by decide)
  obtain ⟨v2, _⟩ := two_of h2 (by decide)
  have h := dm_ttn hx hy t1 (by rw [v2]; decide) (by rw [v1, v2]; decide)
  rw [v1, v2] at h
  exact h.mono fun _ _ h => Dv.of (by decide) (by decide) (by decide) (by decide) (by decide) h

theorem dm_3 {A A' : Option Addr} {c c' : Nat} {xs ys : List Nat} {w : World} (h1 : Hid (xs = dig b32 7)) (h2 : Hid (ys = dig b32 2)) (hx : Arg w A c xs) (hy : Arg w A' c' ys) :
    Calls Try.prog 33 #[.agg #[.bool false, .slice A xs.length c], .agg #[.bool true, .slice A' ys.length c']] w (Dv w true 3 1) := by
  obtain ⟨v1, t1⟩ := two_of h1 (by decide)
  obtain ⟨v2, _⟩ := two_of h2 (by decide)
  have h := dm_ft hx hy t1 (by rw [v2]; decide)
  rw [v1, v2] at h
  exact h.mono fun _ _ h => Dv.of (by decide) (by decide) (by decide) (by decide) (by decide) h

theorem gcd_g (na nb : Bool) (a b m : Nat) {A A' : Option Addr} {c c' : Nat} {xs ys : List Nat} {w : World} (h1 : Hid (xs = dig b32 a)) (h2 : Hid (ys = dig b32 b)) (ha : a < 18446744073709551616) (hb : b < 18446744073709551616) (hm : Nat.gcd a b = m) (hx : Arg w A c xs) (hy : Arg w A' c' ys) :
    Calls Try.prog 35 #[.agg #[.bool na, .slice A xs.length c], .agg #[.bool nb, .slice A' ys.length c']] w (Gv w false m) := by
  obtain ⟨v1, t1⟩ := two_of h1 ha
  obtain ⟨v2, t2⟩ := two_of h2 hb
  have h := gcd_small na nb hx hy t1 t2
  rw [v1, v2] at h
  exact h.mono fun _ _ h => Gv.of (by simp) (by rw [Int.natAbs_natCast]; exact hm) (by rw [← hm]; exact gcd_lt ha hb) h

theorem is_g (z : Int) (neg : Bool) (m : Nat) {A : Option Addr} {c : Nat} {xs : List Nat} {w : World} (h : Hid (xs = dig b32 m)) (hn : decide (z < 0) = neg) (hm : z.natAbs = m) (h1 : -9223372036854775808 ≤ z) (h2 : z ≤ 9223372036854775807) (hx : Arg w A c xs) :
    Calls Try.prog 43 #[.agg #[.bool neg, .slice A xs.length c], .int .i64 z] w fun e w' => e = .returned (.bool true) ∧ Below w.heap.size w w' := by
  have h0 := h.out
  subst hn hm h0
  have h := is_any (z := z) (v := z) hx.rd hx.le hx.cap h1 h2
  simpa using h

theorem dec_min : decS true 9223372036854775808 = ⟨#[45, 57, 50, 50, 51, 51, 55, 50, 48, 51, 54, 56, 53, 52, 55, 55, 53, 56, 48, 56]⟩ := by
  have h := trimL_dig (b := 10) (by decide) (xs := [8, 0, 8, 5, 7, 7, 4, 5, 8, 6, 3, 0, 2, 7, 3, 3, 2, 2, 9]) (by unfold Dg; decide)
  rw [show val 10 [8, 0, 8, 5, 7, 7, 4, 5, 8, 6, 3, 0, 2, 7, 3, 3, 2, 2, 9] = 9223372036854775808 from by decide +kernel] at h
  unfold decS decB revB
  rw [if_neg (by decide), ← h]
  rfl

theorem format_g {A : Option Addr} {c : Nat} {xs : List Nat} {w : World} (h : Hid (xs = dig b32 9223372036854775808)) (hx : Arg w A c xs) :
    Calls Try.prog 37 #[.agg #[.bool true, .slice A xs.length c]] w fun e w' => e = .returned (.string ⟨#[45, 57, 50, 50, 51, 51, 55, 50, 48, 51, 54, 56, 53, 52, 55, 55, 53, 56, 48, 56]⟩) ∧ Below w.heap.size w w' := by
  have h1 := format_any true hx
  rw [(two_of h (by decide)).1, dec_min] at h1
  exact h1

/-- A variable that holds an integer. -/
def Bx (W : World) (g : Nat) (neg : Bool) (m : Nat) (v : Value) : Prop := ∃ A c xs, v = .slice A xs.length c ∧ Two W g (.bool neg) (.slice A xs.length c) ∧ Hid (xs = dig b32 m) ∧ Arg W A c xs

theorem Bx.to {W V : World} {g m : Nat} {neg : Bool} {v : Value} (h : Bx W g neg m v) (hb : Below W.heap.size W V) : Bx V g neg m v := by
  obtain ⟨A, c, xs, h1, h2, h3, h4⟩ := h
  exact ⟨A, c, xs, h1, h2.to hb, h3, h4.to hb⟩
end Go.Proofs.Ytlnjnoingiohjaa
