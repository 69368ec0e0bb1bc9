/- pylonref01.Same: two integers have the same sign and the same words. -/
import Derived.Test.YtlnjnoingiohjaaAdd
import Derived.Deep.QuietTactic
import Derived.BigQuiet
namespace Go.Proofs.Ytlnjnoingiohjaa
open Go.RowKit Go.Shelf

theorem ret_bool {a b : Bool} (h : a = b) : Ending.returned (.bool a) = Ending.returned (.bool b) := by rw [h]
theorem bel_drewN {B : Nat} {a w : World} (h : Below B a w) (n : Nat) : Below B a (w.drewN n) := ⟨h.os, h.tape, h.output, h.size, h.block⟩

theorem take_ne {xs ys : List Nat} {k : Nat} (h1 : k < xs.length) (h2 : k < ys.length) (hne : xs[k] ≠ ys[k]) : xs ≠ ys := by
  rintro rfl
  exact hne rfl

theorem take_eq_succ {xs ys : List Nat} {k : Nat} (h1 : k < xs.length) (h2 : k < ys.length) (h : xs.take k = ys.take k) (he : xs[k] = ys[k]) : xs.take (k + 1) = ys.take (k + 1) := by
  rw [take_snoc xs k h1, take_snoc ys k h2, h, he]

set_option maxHeartbeats 1000000 in
theorem same_neg (n m : Bool) (hnm : (n != m) = true) {A A' : Option Addr} {c c' k k' : Nat} (w : World) :
    Calls Try.prog 14 #[.agg #[.bool n, .slice A k c], .agg #[.bool m, .slice A' k' c']] w fun e w' => e = .returned (.bool false) ∧ Below w.heap.size w w' := by
  cases n <;> cases m
  · exact absurd hnm (by decide)
  · clear hnm
    go_enter Try.func14, Try.ntmps14
    go_wp2
    go_ret
    exact ⟨rfl, ((Below.refl _ _).alloc (Nat.le_refl _) _).alloc (by simp) _⟩
  · clear hnm
    go_enter Try.func14, Try.ntmps14
    go_wp2
    go_ret
    exact ⟨rfl, ((Below.refl _ _).alloc (Nat.le_refl _) _).alloc (by simp) _⟩
  · exact absurd hnm (by decide)

set_option maxHeartbeats 1000000 in
theorem same_len (n : Bool) {A A' : Option Addr} {c c' k k' : Nat} (w : World) (hk : k ≤ 9223372036854775807) (hk' : k' ≤ 9223372036854775807) (hne : k ≠ k') :
    Calls Try.prog 14 #[.agg #[.bool n, .slice A k c], .agg #[.bool n, .slice A' k' c']] w fun e w' => e = .returned (.bool false) ∧ Below w.heap.size w w' := by
  have h0 : (n != n) = false := by simp
  have h1 : ((k : Int) != (k' : Int)) = true := by rw [bne_iff_ne]; omega
  clear hne
  go_enter Try.func14, Try.ntmps14
  go_wp2
  go_ret
  exact ⟨rfl, ((Below.refl _ _).alloc (Nat.le_refl _) _).alloc (by simp) _⟩

set_option maxHeartbeats 2000000 in
theorem same_words (n : Bool) {A A' : Option Addr} {c c' : Nat} {xs ys : List Nat} {w : World} (hx : Rd .u32 w w.heap.size A xs) (hy : Rd .u32 w w.heap.size A' ys) (hl : xs.length = ys.length)
    (hc : xs.length ≤ c) (hc63 : c ≤ 9223372036854775807) (hc' : xs.length ≤ c') (hc63' : c' ≤ 9223372036854775807) :
    Calls Try.prog 14 #[.agg #[.bool n, .slice A xs.length c], .agg #[.bool n, .slice A' xs.length c']] w fun e w' => e = .returned (.bool (decide (xs = ys))) ∧ Below w.heap.size w w' := by
  have h0 : (n != n) = false := by simp
  have h1 : ((xs.length : Int) != (xs.length : Int)) = false := by simp
  have hl63 : xs.length ≤ 9223372036854775807 := by omega
  have HL := Lib.hid hl
  have HX := Lib.hid hx
  have HY := Lib.hid hy
  obtain ⟨W0, hW0⟩ : ∃ W0, W0 = (w.alloc (.cells #[.bool n, .slice A xs.length c] 24)).alloc (.cells #[.bool n, .slice A' xs.length c'] 24) := ⟨_, rfl⟩
  have hb : Below w.heap.size w W0 := by rw [hW0]; exact ((Below.refl _ _).alloc (Nat.le_refl _) _).alloc (by simp) _
  have tX : Two W0 w.heap.size (.bool n) (.slice A xs.length c) := by rw [hW0]; exact (Two.new w _ _ _).alloc _
  have tY : Two W0 (w.heap.size + 1) (.bool n) (.slice A' xs.length c') := by
    have h := Two.new (w.alloc (.cells #[.bool n, .slice A xs.length c] 24)) (.bool n) (.slice A' xs.length c') 24
    rw [World.size_alloc] at h
    rw [hW0]; exact h
  have HW0 := Lib.hid hW0
  clear hl hx hy hW0
  go_enter Try.func14, Try.ntmps14
  go_wp2
  rw [← HW0.out]
  go_loopw [5] (fun i wr => ∃ k : Nat, i = .int .i64 k ∧ k ≤ xs.length ∧ xs.take k = ys.take k ∧ ∃ d, wr = W0.drewN d) (fun i _ => xs.length - (intOf i).toNat)
  case atStart => exact ⟨0, rfl, Nat.zero_le _, by simp, 0, rfl⟩
  case round =>
    obtain ⟨k, rfl, hk, ht, d, rfl⟩ := hrel
    have HT := Lib.hid ht
    have tX' := (tX.to (Below.refl _ _))
    obtain ⟨q1, q2, q3, q4, q5⟩ := tX
    obtain ⟨p1, p2, p3, p4, p5⟩ := tY
    clear ht tX'
    by_cases hlt : k < xs.length
    · have hlt' : k < ys.length := by have := HL.out; omega
      obtain ⟨b1, o1, rfl, _, hc1⟩ := (HX.out.to hb).at_ hlt
      obtain ⟨b2, o2, rfl, _, hc2⟩ := (HY.out.to hb).at_ hlt'
      have e1 := hc1 k hlt
      have e2 := hc2 k hlt'
      have hki : (0 : Int) ≤ (k : Int) := by omega
      have hki' : (k : Int) < (xs.length : Int) := by omega
      clear hc1 hc2
      by_cases he : xs[k] = ys[k]
      · have ht : ((xs[k] : Int) != (ys[k] : Int)) = false := by rw [he]; simp
        have HE := Lib.hid he
        clear he
        go_wp2
        go_quiet (fail)
        go_wp2
        go_roundw
        case rel => exact ⟨k + 1, by simp, by omega, take_eq_succ hlt hlt' HT.out HE.out, _, rfl⟩
        case measure => simp [intOf]; omega
      · have ht : ((xs[k] : Int) != (ys[k] : Int)) = true := by rw [bne_iff_ne]; omega
        have HE := Lib.hid he
        clear he
        go_wp2
        go_quiet (fail)
        go_wp2
        go_ret
        exact ⟨ret_bool (decide_eq_false (take_ne hlt hlt' HE.out)).symm, bel_drewN (bel_drewN hb _) _⟩
    · obtain rfl : k = xs.length := by omega
      clear hlt
      go_wp2
      go_ret
      have h1 := HT.out
      have h2 := HL.out
      rw [List.take_of_length_le (Nat.le_refl _), List.take_of_length_le (by omega)] at h1
      exact ⟨ret_bool (decide_eq_true h1).symm, bel_drewN hb _⟩

/-- Same, whatever the signs and the words. -/
theorem same_any (n m : Bool) {A A' : Option Addr} {c c' : Nat} {xs ys : List Nat} {w : World} (hx : Rd .u32 w w.heap.size A xs) (hy : Rd .u32 w w.heap.size A' ys)
    (hc : xs.length ≤ c) (hc63 : c ≤ 9223372036854775807) (hc' : ys.length ≤ c') (hc63' : c' ≤ 9223372036854775807) :
    Calls Try.prog 14 #[.agg #[.bool n, .slice A xs.length c], .agg #[.bool m, .slice A' ys.length c']] w fun e w' => e = .returned (.bool (decide (n = m ∧ xs = ys))) ∧ Below w.heap.size w w' := by
  by_cases hnm : n = m
  · subst hnm
    by_cases hl : xs.length = ys.length
    · have h := same_words n hx hy hl hc hc63 (by omega) hc63'
      rw [show decide (n = n ∧ xs = ys) = decide (xs = ys) from by simp, ← hl]
      exact h
    · rw [show decide (n = n ∧ xs = ys) = false from by simp; rintro rfl; exact hl rfl]
      exact same_len n w (by omega) (by omega) hl
  · rw [show decide (n = m ∧ xs = ys) = false from by simp [hnm]]
    exact same_neg n m (by cases n <;> cases m <;> simp_all) w
end Go.Proofs.Ytlnjnoingiohjaa
