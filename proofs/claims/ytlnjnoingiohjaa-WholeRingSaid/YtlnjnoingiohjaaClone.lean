/- slices.Clone of 32-bit words: the same words in new memory, or nil for nil. -/
import Derived.Test.YtlnjnoingiohjaaAdd
import Derived.WalkSpells
namespace Go.Proofs.Ytlnjnoingiohjaa
open Go.RowKit Go.Shelf

theorem ints_lt {kd : IntKind} {xs : List Nat} {j : Nat} {u : Value} (h : (ints kd xs)[j]? = some u) : j < xs.length := by
  have := (List.getElem?_eq_some_iff.1 h).1
  simpa [ints] using this
theorem ints_at {kd : IntKind} {xs : List Nat} {j : Nat} {u : Value} (h : (ints kd xs)[j]? = some u) (hj : j < xs.length) : u = .int kd (xs[j] : Nat) := by
  simpa [ints, hj] using h.symm

theorem Rd.news {kd : IntKind} {w V : World} {B : Nat} {a : Addr} {xs : List Nat} (hr : Rd kd w B (some a) xs) (hB : Below B w V) : ∀ j u, (ints kd xs)[j]? = some u → V.cell? (a.add j) = some u := by
  intro j u hj
  have hjl : j < xs.length := ints_lt hj
  obtain ⟨b, o, e, hb, hc⟩ := hr j hjl
  injection e with e
  subst e
  obtain rfl := ints_at hj hjl
  have h2 : V.cell? ⟨b, o + j, none⟩ = some (.int kd (xs[j] : Nat)) := (hB.cell (p := ⟨b, o + j, none⟩) hb).trans hc
  by_cases h0 : j = 0
  · subst h0; simpa [Addr.add] using h2
  · simpa [Addr.add, h0] using h2

set_option maxHeartbeats 1000000 in
theorem clone_some (a : Addr) (c : Nat) {xs : List Nat} {w : World} (hr : Rd .u32 w w.heap.size (some a) xs) (hl : xs.length ≤ 4294967296) :
    Calls Try.prog 56 #[.slice (some a) xs.length c] w fun e w' => ∃ v, e = .returned v ∧ w'.ownsRow w.heap.size 52 1 v xs.length (ints .u32 xs) ∧ Below w.heap.size w w' := by
  obtain ⟨i0, hi, hz0, hz1, hz2⟩ := info_parts infoWord
  have hnil := fun (w : World) => Lib.run_eql_slice_nil (P := Try.prog) w 22 52 (some a) xs.length c 0 0 Try.underlying22
  have HR := Lib.hid hr
  clear hr
  have hown0 : (w.alloc (.cells #[] 52)).ownsRow w.heap.size 52 1 (.slice (some ⟨w.heap.size, 0, none⟩) 0 0) 0 [] := ⟨rfl, .inr ⟨w.heap.size, 0, #[], rfl, Nat.le_refl _, World.alloc_heap_new w _, by simp, by simp, by simp, by simp⟩⟩
  go_enter Try.func56, Try.ntmps56
  go_wp2_with (at_builtin; refine wpList_append_own _ rfl (.tmp 5) (.tmp 6) 22 rfl w.heap.size 52 i0 (.int .u32 0) 1 4 Try.underlying22 hi hz0 hz1 hz2 rfl (by decide) (.slice (some ⟨w.heap.size, 0, none⟩) 0 0) 0 [] rfl hown0 a xs.length c (ints .u32 xs) rfl (by simp [ints]) ?c1 (by intro u hu; simp only [ints, List.mem_map] at hu; obtain ⟨n, _, rfl⟩ := hu; rfl) (by unfold maxLen; omega) (by omega) (by simp) ?_)
  case c1 => exact Rd.news HR.out ((Below.refl w.heap.size w).alloc (Nat.le_refl _) _)
  · intro v' w1 hown' hgrow _
    have HO := Lib.hid hown'
    have HB := Lib.hid (((Below.refl w.heap.size w).alloc (Nat.le_refl _) _).grown hgrow (by simp) (fun j e => by simp [Value.ownBlock] at e; omega))
    clear hown' hgrow
    go_wp2
    go_ret
    exact ⟨_, rfl, by simpa using HO.out, HB.out⟩
theorem clone_none (c : Nat) (w : World) :
    Calls Try.prog 56 #[.slice none 0 c] w fun e w' => e = .returned (.slice none 0 0) ∧ w = w' := by
  have hnil := fun (w : World) => Lib.run_eql_slice_nil (P := Try.prog) w 22 52 none 0 c 0 0 Try.underlying22
  go_enter Try.func56, Try.ntmps56
  go_wp2
  go_ret
  exact ⟨rfl, rfl⟩

theorem clone_any {A : Option Addr} (c : Nat) {xs : List Nat} {w : World} (hr : Rd .u32 w w.heap.size A xs) (hl : xs.length ≤ 4294967296) :
    Calls Try.prog 56 #[.slice A xs.length c] w fun e w' => ∃ v, e = .returned v ∧ w'.ownsRow w.heap.size 52 1 v xs.length (ints .u32 xs) ∧ Below w.heap.size w w' := by
  cases A with
  | some a => exact clone_some a c hr hl
  | none =>
    have h0 : xs = [] := by
      cases xs with
      | nil => rfl
      | cons d r => obtain ⟨b, o, e, _⟩ := hr 0 (by simp); cases e
    subst h0
    refine (clone_none c w).mono ?_
    rintro e w' ⟨rfl, rfl⟩
    exact ⟨_, rfl, by simpa [ints] using World.ownsRow_nil _ _ _ _, Below.refl _ _⟩
end Go.Proofs.Ytlnjnoingiohjaa
