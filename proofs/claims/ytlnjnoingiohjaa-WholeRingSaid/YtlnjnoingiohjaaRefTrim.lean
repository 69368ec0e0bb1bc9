/- The reference's trim and at: a row of digits without the zeros at its end; a digit, or 0 beyond the end. -/
import Derived.Test.YtlnjnoingiohjaaTrim
namespace Go.Proofs.Ytlnjnoingiohjaa
open Go.RowKit

set_option maxHeartbeats 400000 in
theorem rtrim_any (A : Option Addr) (c B : Nat) (xs : List Nat) (w : World) (hr : Rd .i64 w B A xs) (hlc : xs.length ≤ c) (hc : c ≤ 9223372036854775807) :
    Calls Try.prog 70 #[.slice A xs.length c] w fun e w' => e = .returned (.slice A (trimN xs) c) ∧ w = w' := by
  go_enter Try.func70, Try.ntmps70
  go_wp2
  go_loop [3] (fun n => ∃ k : Nat, k ≤ xs.length ∧ trimN (xs.take k) = trimN xs ∧ n = .int .i64 k) (fun n => (intOf n).toNat)
  case atStart => exact ⟨xs.length, Nat.le_refl _, by rw [List.take_length], rfl⟩
  case round =>
    obtain ⟨k, hk, ht, rfl⟩ := hrel
    have HT := Lib.hid ht
    clear ht
    rcases Nat.eq_zero_or_pos k with h0 | h0
    · subst h0
      go_wp2
      go_ret
      exact ⟨ret_slice (by rw [← HT.out]; simp [trimN]), rfl⟩
    · obtain ⟨j, rfl⟩ : ∃ j, k = j + 1 := ⟨k - 1, by omega⟩
      have hj : j < xs.length := by omega
      obtain ⟨b, o, rfl, hb, hcell⟩ := hr.at_ hj
      have hcj := hcell j hj
      by_cases hz : xs[j] = 0
      · rw [hz] at hcj
        have HZ := Lib.hid hz
        clear hz hcell
        go_wp2
        go_round
        case rel => exact ⟨j, by omega, by rw [← HT.out, trimN_step_zero xs j hj HZ.out], rfl⟩
        case measure => simp [intOf]
      · have HZ := Lib.hid hz
        have hz' : ((xs[j] : Int) == 0) = false := by simp [hz]
        clear hz hcell
        go_wp2
        go_ret
        exact ⟨ret_slice (by rw [← HT.out, trimN_step xs j hj HZ.out]), rfl⟩

set_option maxHeartbeats 400000 in
theorem at_any {A : Option Addr} {c : Nat} {xs : List Nat} {w : World} (hr : Rd .i64 w w.heap.size A xs) (hl : xs.length ≤ 9223372036854775807) (i : Nat) (hi : i ≤ 9223372036854775807) :
    Calls Try.prog 71 #[.slice A xs.length c, .int .i64 (i : Nat)] w fun e w' => e = .returned (.int .i64 (xs.getD i 0 : Nat)) ∧ w = w' := by
  by_cases h : i < xs.length
  · obtain ⟨b, o, rfl, _, hc⟩ := hr.at_ h
    have h1 := hc i h
    have h2 : xs.getD i 0 = xs[i] := by simp [h]
    rw [h2]
    clear hc h2 hr
    go_enter Try.func71, Try.ntmps71
    go_wp2
    go_ret
    exact ⟨rfl, rfl⟩
  · have h2 : xs.getD i 0 = 0 := by simp [Nat.le_of_not_lt h]
    rw [h2]
    clear h2 hr
    go_enter Try.func71, Try.ntmps71
    go_wp2
    go_ret
    exact ⟨rfl, rfl⟩
end Go.Proofs.Ytlnjnoingiohjaa
