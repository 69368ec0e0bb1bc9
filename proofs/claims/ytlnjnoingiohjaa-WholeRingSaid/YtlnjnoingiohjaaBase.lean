/- Plain words for slices of 32-bit words that are read in memory: no program is named here. -/
import Derived.WalkKit
import Derived.Lib.Hide
namespace Go.Proofs.Ytlnjnoingiohjaa
open Go.RowKit

/-- In w the address A begins a row of numbers xs of kind kd, in a block below B. Of an empty row nothing is asked. -/
def Rd (kd : IntKind) (w : World) (B : Nat) (A : Option Addr) (xs : List Nat) : Prop :=
  ∀ (k : Nat) (h : k < xs.length), ∃ b o, A = some ⟨b, o, none⟩ ∧ b < B ∧ w.cell? ⟨b, o + k, none⟩ = some (.int kd (xs[k] : Nat))

/-- Every number of the row is below lim. -/
def Dg (lim : Nat) (xs : List Nat) : Prop := ∀ d ∈ xs, d < lim

section
variable {kd : IntKind} {w w' : World} {B B' lim : Nat} {A : Option Addr} {xs ys : List Nat}
theorem Dg.at_ (h : Dg lim xs) {k : Nat} (hk : k < xs.length) : xs[k] < lim := h _ (List.getElem_mem hk)
theorem Dg.take (h : Dg lim xs) (n : Nat) : Dg lim (xs.take n) := fun d hd => h d (List.mem_of_mem_take hd)
theorem Dg.app (h : Dg lim xs) (h' : Dg lim ys) : Dg lim (xs ++ ys) := fun d hd => by
  rcases List.mem_append.1 hd with hd | hd
  · exact h d hd
  · exact h' d hd
theorem Dg.cons {d : Nat} (hd : d < lim) (h : Dg lim xs) : Dg lim (d :: xs) := fun e he => by
  rcases List.mem_cons.1 he with rfl | he
  · exact hd
  · exact h e he
theorem Dg.nil : Dg lim [] := fun d hd => by cases hd
theorem Dg.one {d : Nat} (hd : d < lim) : Dg lim [d] := Dg.cons hd Dg.nil

theorem Rd.at_ (h : Rd kd w B A xs) {k : Nat} (hk : k < xs.length) :
    ∃ b o, A = some ⟨b, o, none⟩ ∧ b < B ∧ ∀ (j : Nat) (hj : j < xs.length), w.cell? ⟨b, o + j, none⟩ = some (.int kd (xs[j] : Nat)) := by
  obtain ⟨b, o, rfl, hb, _⟩ := h k hk
  refine ⟨b, o, rfl, hb, fun j hj => ?_⟩
  obtain ⟨b', o', e, _, hc⟩ := h j hj
  simp only [Option.some.injEq, Addr.mk.injEq, and_true] at e
  obtain ⟨rfl, rfl⟩ := e
  exact hc

theorem Rd.nil : Rd kd w B A [] := fun k hk => by cases hk

theorem Rd.take (h : Rd kd w B A xs) (n : Nat) : Rd kd w B A (xs.take n) := by
  intro k hk
  have hk' : k < xs.length := by simp at hk; omega
  obtain ⟨b, o, rfl, hb, hc⟩ := h k hk'
  refine ⟨b, o, rfl, hb, by simpa using hc⟩

theorem Rd.below (h : Rd kd w B A xs) (hb : Below B w w') : Rd kd w' B A xs := by
  intro k hk
  obtain ⟨b, o, rfl, hB, hc⟩ := h k hk
  exact ⟨b, o, rfl, hB, (hb.cell hB).trans hc⟩

theorem Rd.more (h : Rd kd w B A xs) (hB : B ≤ B') : Rd kd w B' A xs := by
  intro k hk
  obtain ⟨b, o, rfl, hb, hc⟩ := h k hk
  exact ⟨b, o, rfl, by omega, hc⟩

theorem Rd.to (h : Rd kd w w.heap.size A xs) (hb : Below w.heap.size w w') : Rd kd w' w'.heap.size A xs := (h.below hb).more hb.size

/-- A row of numbers as values. -/
def ints (kd : IntKind) (xs : List Nat) : List Value := xs.map fun n => .int kd (n : Nat)

theorem Rd.of_own {base : Nat} {e : TypeId} {n c : Nat} (h : w.ownsRow base e 1 (.slice A n c) n (ints kd xs)) (hB : w.heap.size ≤ B) : Rd kd w B A xs := by
  intro k hk
  have hn : n = xs.length := by have := h.1; simp [ints] at this; omega
  rcases h.2 with ⟨_, h0⟩ | ⟨g, cap, cur, hv, _, hg, _, _, _, hcur⟩
  · omega
  · injection hv with hA
    subst hA
    have hlt : g < w.heap.size := by
      rcases Nat.lt_or_ge g w.heap.size with hlt | hge
      · exact hlt
      · rw [Array.getElem?_eq_none hge] at hg; cases hg
    refine ⟨g, 0, rfl, by omega, ?_⟩
    have h2 := congrArg (fun l => l[k]?) hcur
    simp only [ints, List.getElem?_map, List.getElem?_eq_getElem hk, Option.map_some] at h2
    rw [List.getElem?_take, if_pos (by omega)] at h2
    simp only [World.cell?, hg, Nat.zero_add]
    simpa using h2
end

/-- How many words are left when the zero words at the end are left out. -/
def trimN : List Nat → Nat
  | [] => 0
  | d :: r => if trimN r = 0 then (if d = 0 then 0 else 1) else trimN r + 1

theorem trimN_le (xs : List Nat) : trimN xs ≤ xs.length := by
  induction xs with
  | nil => simp [trimN]
  | cons d r ih => simp only [trimN, List.length_cons]; split <;> (try split) <;> omega

theorem trimN_snoc_zero (xs : List Nat) : trimN (xs ++ [0]) = trimN xs := by
  induction xs with
  | nil => simp [trimN]
  | cons d r ih => simp [trimN, ih]

theorem trimN_snoc (xs : List Nat) (d : Nat) (hd : d ≠ 0) : trimN (xs ++ [d]) = xs.length + 1 := by
  induction xs with
  | nil => simp [trimN, hd]
  | cons e r ih => simp [trimN, ih]

theorem take_snoc {α : Type} (xs : List α) (k : Nat) (h : k < xs.length) : xs.take (k + 1) = xs.take k ++ [xs[k]] := by
  rw [List.take_succ_eq_append_getElem h]

theorem trimN_step_zero (xs : List Nat) (k : Nat) (h : k < xs.length) (hz : xs[k] = 0) : trimN (xs.take (k + 1)) = trimN (xs.take k) := by
  rw [take_snoc xs k h, hz, trimN_snoc_zero]

theorem trimN_step (xs : List Nat) (k : Nat) (h : k < xs.length) (hz : xs[k] ≠ 0) : trimN (xs.take (k + 1)) = k + 1 := by
  rw [take_snoc xs k h, trimN_snoc _ _ hz]; simp; omega

def trimL (xs : List Nat) : List Nat := xs.take (trimN xs)

theorem trimL_length (xs : List Nat) : (trimL xs).length = trimN xs := by
  have := trimN_le xs
  simp [trimL]; omega

end Go.Proofs.Ytlnjnoingiohjaa
