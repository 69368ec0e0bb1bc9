/- whole.trim returns its words without the zero words at their end; it writes nothing. -/
import Derived.Test.YtlnjnoingiohjaaChecked
import Derived.Test.YtlnjnoingiohjaaBase
namespace Go.Proofs.Ytlnjnoingiohjaa
open Go.RowKit

theorem ret_slice {A : Option Addr} {n m c : Nat} (h : n = m) : Ending.returned (.slice A n c) = Ending.returned (.slice A m c) := by rw [h]

set_option maxHeartbeats 400000 in
theorem trim_any (A : Option Addr) (c B : Nat) (xs : List Nat) (w : World) (hr : Rd .u32 w B A xs) (hlc : xs.length ≤ c) (hc : c ≤ 9223372036854775807) :
    Calls Try.prog 44 #[.slice A xs.length c] w fun e w' => e = .returned (.slice A (trimN xs) c) ∧ w = w' := by
  go_enter Try.func44, Try.ntmps44
  go_wp2
  go_loop [3] (fun n => ∃ k : Nat, k ≤ xs.length ∧ trimN (xs.take k) = trimN xs ∧ n = .int .i64 k) (fun n => (intOf n).toNat)
  case atStart => exact ⟨xs.length, Nat.le_refl _, by rw [List.take_length], rfl⟩
  case round =>
    obtain ⟨k, hk, ht, rfl⟩ := hrel
    have HT := Lib.hid ht
    clear ht
    rcases Nat.eq_zero_or_pos k with h0 | h0
    · subst h0
      go_wp2
      go_ret
      exact ⟨ret_slice (by rw [← HT.out]; simp [trimN]), rfl⟩
    · obtain ⟨j, rfl⟩ : ∃ j, k = j + 1 := ⟨k - 1, by omega⟩
      have hj : j < xs.length := by omega
      obtain ⟨b, o, rfl, hb, hcell⟩ := hr.at_ hj
      have hcj := hcell j hj
      by_cases hz : xs[j] = 0
      · rw [hz] at hcj
        have HZ := Lib.hid hz
        clear hz hcell
        go_wp2
        go_round
        case rel => exact ⟨j, by omega, by rw [← HT.out, trimN_step_zero xs j hj HZ.out], rfl⟩
        case measure => simp [intOf]
      · have HZ := Lib.hid hz
        have hz' : ((xs[j] : Int) == 0) = false := by simp [hz]
        clear hz hcell
        go_wp2
        go_ret
        exact ⟨ret_slice (by rw [← HT.out, trimN_step xs j hj HZ.out]), rfl⟩
end Go.Proofs.Ytlnjnoingiohjaa
