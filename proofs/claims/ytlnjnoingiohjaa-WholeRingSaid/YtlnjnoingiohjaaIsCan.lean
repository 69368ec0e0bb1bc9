/- IsCanonical of package whole. -/
import Derived.Test.YtlnjnoingiohjaaOps
namespace Go.Proofs.Ytlnjnoingiohjaa
open Go.RowKit Go.Shelf

/-- Whether sign and words are a canonical form. -/
def canon (n : Bool) (xs : List Nat) : Bool := if xs.length = 0 then !n else decide (xs.getD (xs.length - 1) 0 ≠ 0)

set_option maxHeartbeats 2000000 in
theorem isCanonical_any (n : Bool) {A : Option Addr} {c : Nat} {xs : List Nat} {w : World} (hx : Arg w A c xs) :
    Calls Try.prog 17 #[.agg #[.bool n, .slice A xs.length c]] w fun e w' => e = .returned (.bool (canon n xs)) ∧ Below w.heap.size w w' := by
  have hb := Lib.hid ((Below.refl w.heap.size w).alloc (Nat.le_refl _) (.cells #[.bool n, .slice A xs.length c] 24))
  have hr := (hx.to hb.out).rd
  have hsm := hx.small
  by_cases h0 : xs.length = 0
  · have HC : Hid (canon n xs = !n) := by show _ = _; simp [canon, h0]
    have hb2 := hb.out
    rw [h0] at hb2
    have HB := Lib.hid hb2
    rw [h0, HC.out]
    clear hr hx hsm h0 hb hb2
    go_enter Try.func17, Try.ntmps17
    go_wp2
    go_ret
    exact ⟨rfl, HB.out⟩
  · obtain ⟨m, hm⟩ : ∃ m, xs.length = m + 1 := ⟨xs.length - 1, by omega⟩
    have hk : m < xs.length := by omega
    obtain ⟨b, o, rfl, _, hc⟩ := hr.at_ hk
    have e1 := hc m hk
    rw [← getD_at hk] at e1
    obtain ⟨d, ed⟩ : ∃ d, Hid (xs.getD m 0 = d) := ⟨_, rfl⟩
    rw [ed.out] at e1
    have HC : Hid (canon n xs = decide (d ≠ 0)) := by
      show _ = _
      unfold canon
      rw [if_neg h0, hm, Nat.add_sub_cancel, ed.out]
    rw [HC.out]
    have HB := Lib.hid hb.out
    have hm2 : m < 4294967295 := by omega
    rw [hm] at e1 HB ⊢
    clear hr hx hc hk h0 hb hm
    by_cases hd : d = 0
    · subst hd
      go_enter Try.func17, Try.ntmps17
      go_wp2
      go_ret
      exact ⟨rfl, HB.out⟩
    · have hd2 : ((d : Int) != 0) = true := by rw [bne_iff_ne]; omega
      rw [show decide (d ≠ 0) = true from by simp [hd]]
      go_enter Try.func17, Try.ntmps17
      go_wp2
      go_ret
      exact ⟨rfl, HB.out⟩
end Go.Proofs.Ytlnjnoingiohjaa
