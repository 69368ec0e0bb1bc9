/- The law's Long. -/
import Derived.Test.YtlnjnoingiohjaaZ
namespace Go.Proofs.Ytlnjnoingiohjaa
open Go.RowKit Go.Shelf

set_option maxHeartbeats 1000000 in
theorem long_any (g : Nat) (ns : List Nat) (cap : Nat) (w : World) (h : ∀ (k : Nat) (hk : k < ns.length), ∃ A c, w.cell? ⟨g, k * 2 + 1, none⟩ = some (.slice A ns[k] c)) (hs : ∀ (k : Nat) (hk : k < ns.length), ns[k] ≤ 9223372036854775807) (hl : ns.length ≤ 1000) :
    Calls Try.prog 9 #[.slice (some ⟨g, 0, none⟩) ns.length cap] w fun e w' => e = .returned (.bool (ns.any fun n => decide (12 < n))) ∧ w' = w := by
  have H := Lib.hid h
  have HS := Lib.hid hs
  clear h hs
  go_enter Try.func9, Try.ntmps9
  go_wp2
  go_loopw [3] (fun i wr => ∃ k : Nat, i = .int .i64 k ∧ k ≤ ns.length ∧ (∀ j (hj : j < ns.length), j < k → ns[j] ≤ 12) ∧ wr = w) (fun i _ => ns.length - (intOf i).toNat)
  case atStart => exact ⟨0, rfl, Nat.zero_le _, (fun j _ hj => by omega), rfl⟩
  case round =>
    obtain ⟨k, rfl, hk, ht, rfl⟩ := hrel
    have HT := Lib.hid ht
    clear ht
    by_cases hlt : k < ns.length
    · obtain ⟨A, c, hc⟩ := H.out k hlt
      have hsm := HS.out k hlt
      have HN : Hid (ns[k] = ns[k]) := rfl
      generalize hn : ns[k] = n at hc hsm HN
      have HN2 := Lib.hid hn
      clear hn HN
      have hki : (0 : Int) ≤ (k : Int) := by omega
      have hki' : (k : Int) < (ns.length : Int) := by omega
      by_cases he : 12 < n
      · go_wp2
        go_ret
        refine ⟨?_, rfl⟩
        have : (ns.any fun n => decide (12 < n)) = true := by
          rw [List.any_eq_true]
          exact ⟨ns[k], List.getElem_mem hlt, by rw [HN2.out]; exact decide_eq_true he⟩
        rw [this]
        rfl
      · go_wp2
        go_roundw
        case rel => exact ⟨k + 1, by simp, by omega, (fun j hj hjk => by
          rcases Nat.lt_or_ge j k with h1 | h1
          · exact HT.out j hj h1
          · obtain rfl : j = k := by omega
            rw [HN2.out]; omega), trivial⟩
        case measure => simp [intOf]; omega
    · obtain rfl : k = ns.length := by omega
      clear hlt
      go_wp2
      go_ret
      refine ⟨?_, rfl⟩
      have : (ns.any fun n => decide (12 < n)) = false := by
        rw [List.any_eq_false]
        intro x hx
        obtain ⟨j, hj, rfl⟩ := List.getElem_of_mem hx
        have := HT.out j hj hj
        simpa using this
      rw [this]
      rfl
end Go.Proofs.Ytlnjnoingiohjaa
