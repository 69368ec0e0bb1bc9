/- A block of words that may be written. -/
import Derived.Test.YtlnjnoingiohjaaCombine
namespace Go.Proofs.Ytlnjnoingiohjaa
open Go.RowKit

/-- Block g has sz cells, may be written, and begins with the numbers. -/
def Buf (kd : IntKind) (ty : TypeId) (g sz : Nat) (xs : List Nat) (w : World) : Prop := ∃ cur, w.heap[g]? = some (.cells cur ty (0, 0)) ∧ cur.size = sz ∧ cur.toList.take xs.length = ints kd xs

section
variable {kd : IntKind} {ty : TypeId} {g sz : Nat} {xs : List Nat} {w w' : World}

theorem Buf.lt (h : Buf kd ty g sz xs w) : g < w.heap.size := by
  obtain ⟨cur, h1, _⟩ := h
  exact (Array.getElem?_eq_some_iff.1 h1).1

theorem Buf.le (h : Buf kd ty g sz xs w) : xs.length ≤ sz := by
  obtain ⟨cur, _, h2, h3⟩ := h
  have := congrArg List.length h3
  simp [ints] at this
  omega

theorem Buf.cell (h : Buf kd ty g sz xs w) {j : Nat} (hj : j < xs.length) : w.cell? ⟨g, j, none⟩ = some (.int kd (xs[j] : Nat)) := by
  obtain ⟨cur, h1, h2, h3⟩ := h
  have h4 : (ints kd xs)[j]? = some (.int kd (xs[j] : Nat)) := by simp [ints, hj]
  rw [← h3, List.getElem?_take, if_pos hj] at h4
  simpa [World.cell?, h1] using h4

theorem Buf.frozen (h : Buf kd ty g sz xs w) (j : Nat) : w.frozen? ⟨g, j, none⟩ = false := by
  obtain ⟨cur, h1, _⟩ := h
  simp [World.frozen?, h1]

theorem Buf.kept {row : Option Nat} (h : Buf kd ty g sz xs w) (hg : w.grownBy w' row) (hne : some g ≠ row) : Buf kd ty g sz xs w' := by
  have hl := h.lt
  obtain ⟨cur, h1, h2, h3⟩ := h
  exact ⟨cur, (hg.block g hl hne).trans h1, h2, h3⟩

theorem Buf.rd (h : Buf kd ty g sz xs w) {B : Nat} (hB : g < B) : Rd kd w B (some ⟨g, 0, none⟩) xs := fun k hk => ⟨g, 0, rfl, hB, by rw [Nat.zero_add]; exact h.cell hk⟩

theorem Buf.set (h : Buf kd ty g sz xs w) (m v : Nat) : Buf kd ty g sz (xs.set m v) (w.setCell ⟨g, m, none⟩ (.int kd (v : Nat))) := by
  obtain ⟨cur, h1, h2, h3⟩ := h
  obtain ⟨hlt, hk⟩ := Array.getElem?_eq_some_iff.1 h1
  refine ⟨cur.setIfInBounds m (.int kd (v : Nat)), ?_, by simp [h2], ?_⟩
  · show (w.heap.modify g _)[g]? = _
    rw [Array.getElem?_eq_getElem (by rw [Array.size_modify]; exact hlt), Array.getElem_modify_self, hk]
    rfl
  · rw [Array.toList_setIfInBounds, List.length_set, List.take_set, h3]
    simp [ints, List.map_set]

theorem buf_own {β : Type} (kd : IntKind) (ty : TypeId) (g sz : Nat) (f : β → List Nat) : Own (fun s W => Buf kd ty g sz (f s) W) := fun s X Y row hs hg hrow =>
  hs.kept hg (fun e' => by obtain ⟨o, ho, hc⟩ := hrow g e'.symm; obtain ⟨cur, h1, _⟩ := hs; rw [h1] at ho; cases ho; cases hc)

theorem grownBy_at (W : World) (b o : Nat) (v : Value) : W.grownBy (W.setCell ⟨b, o, none⟩ v) (some b) :=
  ⟨rfl, rfl, rfl, (KeepsWalks.setCell W _ v).size, fun k _ hk => Below.heap_setCell _ _ _ k (fun e => hk (by rw [e]))⟩

theorem Grown.trans {a b c : World} {row : Option Nat} (h : a.grownBy b row) (k : b.grownBy c row) : a.grownBy c row :=
  ⟨k.os.trans h.os, k.tape.trans h.tape, k.output.trans h.output, Nat.le_trans h.size k.size, fun i hi hne => (k.block i (Nat.lt_of_lt_of_le hi h.size) hne).trans (h.block i hi hne)⟩

/-- A later block's change is none of it. -/
theorem Grown.later {a b c : World} {row row' : Option Nat} (h : a.grownBy b row) (k : b.grownBy c row') (hr : ∀ r, row' = some r → a.heap.size ≤ r) : a.grownBy c row :=
  ⟨k.os.trans h.os, k.tape.trans h.tape, k.output.trans h.output, Nat.le_trans h.size k.size, fun i hi hne => (k.block i (Nat.lt_of_lt_of_le hi h.size) (fun e => absurd (hr i e.symm) (by omega))).trans (h.block i hi hne)⟩

theorem ownFrom_grown {β : Type} {B : Nat} {w₀ : World} {row : Option Nat} (hB : w₀.heap.size ≤ B) : OwnFrom B (fun (_ : β) W => w₀.grownBy W row) :=
  fun _ _ _ _ hs hg hr => Grown.later hs hg fun r e => Nat.le_trans hB (hr r e).1

theorem Grown.below {a b : World} {g B : Nat} (h : a.grownBy b (some g)) (hB : B ≤ g) (ha : B ≤ a.heap.size) : Below B a b :=
  ⟨h.os, h.tape, h.output, h.size, fun i hi => h.block i (by omega) (by simp; omega)⟩

theorem Grown.drew {a b : World} {row : Option Nat} (h : a.grownBy b row) : a.grownBy b.drew row := ⟨h.os, h.tape, h.output, h.size, h.block⟩
end
end Go.Proofs.Ytlnjnoingiohjaa
