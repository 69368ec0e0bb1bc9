/- whole.Parse at "-0": no decimal representation. -/
import Derived.Test.YtlnjnoingiohjaaOf
namespace Go.Proofs.Ytlnjnoingiohjaa
open Go.RowKit Go.Shelf

set_option maxHeartbeats 1000000 in
theorem cut_minus (w : World) : Calls Try.prog 66 #[.string ⟨#[45, 48]⟩, .string ⟨#[45]⟩] w fun e w' => e = .returned (.tuple #[.string ⟨#[48]⟩, .bool true]) ∧ w = w' := by
  have e1 : ((({ data := #[45, 48] } : ByteArray).extract 0 1).toList == [45]) = true := by decide +kernel
  have e2 : (({ data := #[45, 48] } : ByteArray).extract 1 2) = ⟨#[48]⟩ := by decide +kernel
  go_enter Try.func66, Try.ntmps66
  go_wp2
  go_ret2
  exact ⟨by simp [e2], rfl⟩
set_option maxHeartbeats 1000000 in
theorem isDecimal_zero (w : World) : Calls Try.prog 67 #[.string ⟨#[48]⟩] w fun e w' => e = .returned (.bool true) ∧ w = w' := by
  go_enter Try.func67, Try.ntmps67
  go_wp2
  refine wp_loop_rounds 2 ?_
  rw [rounds_succ]
  go_wp2
  rw [rounds_succ]
  go_wp2
  go_ret
  exact ⟨rfl, rfl⟩
set_option maxHeartbeats 1000000 in
theorem parse_minus_zero (w : World) : Calls Try.prog 38 #[.string ⟨#[45, 48]⟩] w fun e w' => e = .returned (.tuple #[.agg #[.bool false, .slice none 0 0], .int .i64 3]) ∧ Below w.heap.size w w' := by
  have e1 : ((({ data := #[48] } : ByteArray)).toList == [48]) = true := by decide +kernel
  go_enter Try.func38, Try.ntmps38
  go_wp2_with (first | (go_at_call 66; refine (cut_minus _).mono ?_; rintro e w' ⟨rfl, rfl⟩) | (go_at_call 67; refine (isDecimal_zero _).mono ?_; rintro e w' ⟨rfl, rfl⟩))
  exact bodyPost_ret (v := .tuple #[.agg #[.bool false, .slice none 0 0], .int .i64 3]) (by simp [results, Try.f38, go_sem]) rfl ⟨rfl, (Below.refl _ _).alloc (Nat.le_refl _) _⟩
end Go.Proofs.Ytlnjnoingiohjaa
