/- The law WholeEuclid: the walk. -/
import Derived.Test.YtoaghihhobggoaaEuclidA
import Derived.Test.YtoaghihhobggoaaEuclidB
import Derived.Test.YtoaghihhobggoaaEuclidC
set_option linter.unusedVariables false
set_option linter.unusedSimpArgs false
namespace Go.Proofs.Ytoaghihhobggoaa
open Go.RowKit Go.Shelf

theorem euclid_core {x1 y1 x2 y2 x3 y3 : Value} {a b d : Int} {w : World} (h1 : Zl w x1 y1 a) (h2 : Zl w x2 y2 b) (h3 : Zl w x3 y3 d) (m1 : Sm 12 a) (m2 : Sm 12 b) (m3 : Sm 12 d)
    (hL : ∀ (V : World) (g : Nat), V.cell? ⟨g, 1, none⟩ = some y1 → V.cell? ⟨g, 3, none⟩ = some y2 → V.cell? ⟨g, 5, none⟩ = some y3 → Calls Try.prog 9 #[.slice (some ⟨g, 0, none⟩) 3 3] V fun e w' => e = .returned (.bool false) ∧ w' = V) :
    Calls Try.prog 7 #[.agg #[x1, y1], .agg #[x2, y2], .agg #[x3, y3]] w fun e w' => e = .returned (.bool true) ∧ Below w.heap.size w w' := by
  by_cases h0 : b = 0
  · by_cases va : d ∣ a
    · by_cases vb : d ∣ b
      · exact euclid_z11 h1 h2 h3 m1 m2 m3 h0 (decide_eq_true va) (decide_eq_true vb) hL
      · exact absurd ⟨0, by rw [h0, Int.mul_zero]⟩ vb
    · exact euclid_z00 h1 h2 h3 m1 m2 m3 h0 (decide_eq_false va) hL
  · by_cases va : d ∣ a
    · by_cases vb : d ∣ b
      · exact euclid_n11 h1 h2 h3 m1 m2 m3 h0 (decide_eq_true va) (decide_eq_true vb) hL
      · exact euclid_n10 h1 h2 h3 m1 m2 m3 h0 (decide_eq_true va) (decide_eq_false vb) hL
    · exact euclid_n00 h1 h2 h3 m1 m2 m3 h0 (decide_eq_false va) hL
end Go.Proofs.Ytoaghihhobggoaa
