/- Parts: 1. -/
import Derived.Test.YtcgdbdhhoomgiaaGreatVm23
import Derived.Deep.Slices
set_option linter.unusedVariables false
set_option linter.unusedSimpArgs false
set_option maxRecDepth 100000
set_option maxHeartbeats 40000000

namespace Go.Proofs.YtcgdbdhhoomgiaaGreat
open Go.ChangeShapes Go.WideShapes Go.ChangeAt Go.RowKit Go.Joins
instance : Inhabited E4 := ⟨E4.z⟩
theorem spot_none {W : World} {a : Addr} {v : Value} (h : W.cell? a = some v) : a.spot = none := by
 unfold World.cell? at h
 split at h
 ·split at h
  ·cases h
  ·rename_i hs
   simpa using hs
 ·cases h
theorem open_v {H : Type} {enc : TypeId × Value -> H} {W : World} {base : Nat} {spare : Nat -> Bool} {held : Bool} {r : Reach} {b0 : Nat} {v : Value} {d : DataW H} {p : List MemPlace}
  (hs : ∀ b, spare b = true) (hv : Value.okWide Tryz.prog W r b0 27 v) (h : DataW.Trod enc Tryz.prog W base spare held 27 v d p) :
  ∃ A c es, v = .slice A es.length c /\ VIn W ⟨A, c, es⟩ := by
 obtain ⟨a, len, cap, rfl⟩ := okWide_slice Tryz.underlying27 hv
 obtain ⟨fuel, hf⟩ := h
 replace hf : DataW.trod enc Tryz.prog W base spare held fuel 27 [.slice a len cap] = some (d, p) := hf
 rcases Go.Deep.open_slice Tryz.underlying27 hf with ⟨e1, _⟩ | ⟨ad, l, cp, m, n, D, Pl, e1, hb, hl, hm, hmm, _, hx⟩
 ·simp only [List.cons.injEq, Value.slice.injEq, and_true] at e1
  obtain ⟨rfl, rfl, rfl⟩ := e1
  exact ⟨none, 0, [], rfl, ⟨Rq.nil, fun e he => (by cases he), Nat.le_refl _, by decide⟩⟩
 ·simp only [List.cons.injEq, Value.slice.injEq, and_true] at e1
  obtain ⟨rfl, rfl, rfl⟩ := e1
  have hlm : len <= m := by rw [hmm]; split <;> omega
  have each : ∀ i, i < len -> ∃ E : E4, (W.cell? (ad.add (i * 4)) = some E.a /\ W.cell? (ad.add (i * 4 + 1)) = some E.b /\ W.cell? (ad.add (i * 4 + 2)) = some E.c /\ W.cell? (ad.add (i * 4 + 3)) = some E.d) /\ ZxE W E := by
   intro i hi
   obtain ⟨cs', h1, h2⟩ := hx i (by omega)
   rw [cellsQ] at h1
   obtain ⟨_, hlen, hcell⟩ := World.cells?_some h1
   match cs', hlen with
   | [c0, c1, c2, c3], _ =>
    have f0 := hcell 0 (by omega)
    have f1 := hcell 1 (by omega)
    have f2 := hcell 2 (by omega)
    have f3 := hcell 3 (by omega)
    rw [Go.Deep.add_add] at f0 f1 f2 f3
    exact ⟨⟨c0, c1, c2, c3⟩, ⟨by simpa using f0, by simpa using f1, by simpa using f2, by simpa using f3⟩, trod_q hs h2⟩
  obtain ⟨E, hE⟩ := Go.Deep.choose_lt each
  have hlen : ((List.range len).map E).length = len := by simp
  refine ⟨some ad, cap, (List.range len).map E, by rw [hlen], ⟨?_, ?_, by show ((List.range len).map E).length <= cap; rw [hlen]; exact hl, by have := hm; unfold maxLen at this; show cap <= _; omega⟩⟩
  ·intro k hk
   have hk' : k < len := by rw [<- hlen]; exact hk
   obtain ⟨⟨c0, c1, c2, c3⟩, _⟩ := hE k hk'
   have hsp := spot_none (hE 0 (by omega)).1.1
   obtain ⟨b, o, sp⟩ := ad
   have h0 : (⟨b, o, sp⟩ : Addr).add (0 * 4) = ⟨b, o, sp⟩ := by simp [Addr.add]
   rw [h0] at hsp
   dsimp only at hsp
   subst hsp
   have hadd : ∀ j, (⟨b, o, none⟩ : Addr).add j = ⟨b, o + j, none⟩ := fun j => by
    unfold Addr.add
    by_cases hj : j = 0
    ·simp [hj]
    ·simp [hj]
   rw [hadd] at c0 c1 c2 c3
   refine ⟨b, o, rfl, World.block_lt_of_cell? W _ c0, ?_⟩
   have he : ((List.range len).map E)[k] = E k := by simp
   show W.cell? ⟨b, o + k * 4, none⟩ = some (((List.range len).map E)[k]).a /\ W.cell? ⟨b, o + k * 4 + 1, none⟩ = some (((List.range len).map E)[k]).b /\ W.cell? ⟨b, o + k * 4 + 2, none⟩ = some (((List.range len).map E)[k]).c /\ W.cell? ⟨b, o + k * 4 + 3, none⟩ = some (((List.range len).map E)[k]).d
   rw [he]
   exact ⟨c0, by rw [<- Nat.add_assoc] at c1; exact c1, by rw [<- Nat.add_assoc] at c2; exact c2, by rw [<- Nat.add_assoc] at c3; exact c3⟩
  ·intro e he
   obtain ⟨i, hi, rfl⟩ := List.mem_map.1 he
   exact (hE i (List.mem_range.1 hi)).2
end Go.Proofs.YtcgdbdhhoomgiaaGreat
