/- The law WholeEuclid: its numbers. -/
import Derived.Test.YtoaghihhobggoaaDvz
import Derived.Test.YtoaghihhobggoaaDv9
import Derived.Test.YtoaghihhobggoaaDv13
set_option linter.unusedVariables false
set_option linter.unusedSimpArgs false
namespace Go.Proofs.Ytoaghihhobggoaa
open Go.RowKit Go.Shelf

theorem euclid_eq {a b : Int} : cmpZ (a / b * b + a % b) a = 0 := by
  rw [Int.ediv_mul_add_emod, cmpZ_self]
theorem euclid_rest {a b : Int} (hb : b ≠ 0) : cmpZ (a % b) (b.natAbs : Int) = -1 := by
  have h1 := Int.emod_lt a hb
  unfold cmpZ
  rw [if_pos h1]
theorem sgn_nonneg {z : Int} (h : 0 ≤ z) : ¬ sgn z < 0 := by
  unfold sgn
  repeat' split
  all_goals omega
theorem gcd_scale (a b d : Int) : ((Int.gcd (a * d) (b * d) : Nat) : Int) = ((Int.gcd a b : Nat) : Int) * (d.natAbs : Int) := by
  rw [Int.gcd_mul_right]; push_cast; rfl
theorem smv {w : World} {x y x' y' : Value} {a b : Int} (h : Zc w x y a) (h' : Zc w x' y' b) (e : a = b) : Calls Try.prog 14 #[.agg #[x, y], .agg #[x', y']] w fun e w' => e = .returned (.bool true) ∧ Below w.heap.size w w' := same_t h h' e

end Go.Proofs.Ytoaghihhobggoaa
