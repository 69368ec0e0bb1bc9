/- whole.toUint64 of at most two words; whole.smallGCD. -/
import Derived.Test.YtlnjnoingiohjaaAdd
import Derived.Deep.QuietTactic
import Derived.BigQuiet
namespace Go.Proofs.Ytlnjnoingiohjaa
open Go.RowKit Go.Shelf

theorem ret_u64 {a b : Int} (h : a = b) : Ending.returned (.int .u64 a) = Ending.returned (.int .u64 b) := by rw [h]

theorem or_words (a b : Nat) (ha : a < 4294967296) (hb : b < 4294967296) : bits .or .u64 (bits .or .u64 0 (a : Int)) ((b : Int) * 4294967296) = ((a + b * 4294967296 : Nat) : Int) := by
  have h1 : bits .or .u64 0 (a : Int) = (a : Int) := by
    have h := bits_or_u64_nat 0 a (by omega) (by omega)
    rw [Nat.zero_or] at h
    exact h
  rw [h1, show ((b : Int) * 4294967296) = ((b * 4294967296 : Nat) : Int) from by simp, bits_or_u64_nat a (b * 4294967296) (by omega) (by omega)]
  have h2 := Nat.shiftLeft_add_eq_or_of_lt (i := 32) (b := a) (by omega) b
  rw [Nat.shiftLeft_eq] at h2
  rw [Nat.or_comm, show b * 4294967296 = b * 2 ^ 32 from rfl, ← h2, Nat.add_comm]

theorem or_word (a : Nat) (ha : a < 4294967296) : bits .or .u64 0 (a : Int) = (a : Int) := by
  have h := bits_or_u64_nat 0 a (by omega) (by omega)
  rw [Nat.zero_or] at h
  exact h

set_option maxHeartbeats 1000000 in
theorem toUint64_two (A : Option Addr) (c a b : Nat) (w : World) (hx : Rd .u32 w w.heap.size A [a, b]) (ha : a < 4294967296) (hb : b < 4294967296) :
    Calls Try.prog 45 #[.slice A 2 c] w fun e w' => e = .returned (.int .u64 ((a + b * 4294967296 : Nat) : Int)) ∧ w = w' := by
  obtain ⟨B, o, rfl, _, hc⟩ := hx.at_ (k := 0) (by simp)
  have h0 := hc 0 (by simp)
  have h1 := hc 1 (by simp)
  simp only [List.getElem_cons_zero, List.getElem_cons_succ, Nat.add_zero] at h0 h1
  clear hc hx
  go_enter Try.func45, Try.ntmps45
  go_wp2
  refine wp_loop_rounds 3 ?_
  rw [rounds_succ]
  go_wp2
  rw [rounds_succ]
  go_wp2
  rw [rounds_succ]
  go_wp2
  go_ret
  exact ⟨ret_u64 (or_words a b ha hb), rfl⟩

set_option maxHeartbeats 1000000 in
theorem toUint64_one (A : Option Addr) (c a : Nat) (w : World) (hx : Rd .u32 w w.heap.size A [a]) (ha : a < 4294967296) :
    Calls Try.prog 45 #[.slice A 1 c] w fun e w' => e = .returned (.int .u64 (a : Nat)) ∧ w = w' := by
  obtain ⟨B, o, rfl, _, hc⟩ := hx.at_ (k := 0) (by simp)
  have h0 := hc 0 (by simp)
  simp only [List.getElem_cons_zero, Nat.add_zero] at h0
  clear hc hx
  go_enter Try.func45, Try.ntmps45
  go_wp2
  refine wp_loop_rounds 2 ?_
  rw [rounds_succ]
  go_wp2
  rw [rounds_succ]
  go_wp2
  go_ret
  exact ⟨ret_u64 (or_word a ha), rfl⟩

set_option maxHeartbeats 1000000 in
theorem toUint64_nil (A : Option Addr) (c : Nat) (w : World) :
    Calls Try.prog 45 #[.slice A 0 c] w fun e w' => e = .returned (.int .u64 0) ∧ w = w' := by
  go_enter Try.func45, Try.ntmps45
  go_wp2
  refine wp_loop_rounds 1 ?_
  rw [rounds_succ]
  go_wp2
  go_ret
  exact ⟨rfl, rfl⟩

theorem toUint64_any {A : Option Addr} {c : Nat} {xs : List Nat} {w : World} (hx : Rd .u32 w w.heap.size A xs) (hd : Dg b32 xs) (hl : xs.length ≤ 2) :
    Calls Try.prog 45 #[.slice A xs.length c] w fun e w' => e = .returned (.int .u64 (val b32 xs : Nat)) ∧ w = w' := by
  match xs, hl with
  | [], _ => exact toUint64_nil A c w
  | [a], _ => exact toUint64_one A c a w hx (hd a (by simp))
  | [a, b], _ =>
    have h := toUint64_two A c a b w hx (hd a (by simp)) (hd b (by simp))
    rw [show val b32 [a, b] = a + b * 4294967296 from by simp only [val, b32]; omega]
    exact h

set_option maxHeartbeats 1000000 in
theorem smallGCD_any (x y : Nat) (w : World) (hx : x < 18446744073709551616) (hy : y < 18446744073709551616) :
    Calls Try.prog 63 #[.int .u64 (x : Nat), .int .u64 (y : Nat)] w fun e w' => e = .returned (.int .u64 (Nat.gcd x y : Nat)) ∧ ∃ d, w' = w.drewN d := by
  obtain ⟨g, eg⟩ : ∃ g, Hid (Nat.gcd x y = g) := ⟨_, rfl⟩
  rw [eg.out]
  go_enter Try.func63, Try.ntmps63
  go_wp2
  go_loopw [0, 1] (fun u v wr => ∃ a b d : Nat, u = .int .u64 (a : Nat) ∧ v = .int .u64 (b : Nat) ∧ a < 18446744073709551616 ∧ b < 18446744073709551616 ∧ Hid (Nat.gcd a b = g) ∧ wr = w.drewN d) (fun _ v _ => (intOf v).toNat)
  case atStart => exact ⟨x, y, 0, rfl, rfl, hx, hy, eg, rfl⟩
  case round =>
    obtain ⟨a, b, d, rfl, rfl, ha, hb, hg, rfl⟩ := hrel
    rcases Nat.eq_zero_or_pos b with h0 | h0
    · subst h0
      have ht : ((0 : Int) != 0) = false := rfl
      have HG : Hid (a = g) := by have h := hg.out; rw [Nat.gcd_zero_right] at h; exact h
      clear hg
      go_wp2
      go_ret
      exact ⟨ret_u64 (by rw [HG.out]), d, rfl⟩
    · have ht : ((b : Int) != 0) = true := by rw [bne_iff_ne]; omega
      have hlt : a % b < b := Nat.mod_lt _ h0
      have HG : Hid (Nat.gcd b (a % b) = g) := by
        have h := hg.out
        rw [Nat.gcd_comm, Nat.gcd_rec] at h
        rw [Nat.gcd_comm]; exact h
      have hb1 : (1 : Int) ≤ (b : Int) := by omega
      obtain ⟨m, em⟩ : ∃ m, Hid (a % b = m) := ⟨_, rfl⟩
      rw [em.out] at HG hlt
      have hm : ((a : Int).tmod (b : Int)) = (m : Int) := by rw [Int.tmod_eq_emod_of_nonneg (by omega), ← em.out]; simp
      clear hg
      go_wp2
      go_quiet (fail)
      clear hm
      go_wp2
      go_roundw
      case rel => exact ⟨b, m, _, rfl, rfl, hb, by omega, HG, by rw [World.drewN_drewN]⟩
      case measure => simp [intOf]; omega
end Go.Proofs.Ytlnjnoingiohjaa
