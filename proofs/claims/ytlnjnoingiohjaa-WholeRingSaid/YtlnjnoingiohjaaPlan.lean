/- A region whose order is drawn, walked once: the operations that only read what nobody in the region writes come first; the others wait for one another. -/
import Derived.Deep.RegionHeld3
namespace Go.Proofs.Ytlnjnoingiohjaa
open Go

section
variable {P : Program} {ops : Array Oper} {Q : Exit → Act → World → Prop} {md : Region.Mode} {S : World → Prop} {R : Act → World → Prop}

/-- The plan fits the region: what is marked may come first, what is not marked is then the only one that may come. -/
def planOk (md : Region.Mode) (ops : Array Oper) : List (Nat × Bool) → Array Bool → Bool
  | [], listed => (Region.ready md ops listed).isEmpty
  | (i, true) :: rest, listed => (Region.ready md ops listed).contains i && (Region.free md ops listed i && planOk md ops rest (listed.setIfInBounds i true))
  | (i, false) :: rest, listed => (Region.ready md ops listed == [i]) && planOk md ops rest (listed.setIfInBounds i true)

/-- The walk along the plan. -/
def wpPlan (P : Program) (ops : Array Oper) (Q : Exit → Act → World → Prop) (S : World → Prop) (R : Act → World → Prop) : List (Nat × Bool) → Act → World → Prop
  | [], a, w => R a w
  | (i, true) :: rest, a, w => ∃ o v, ops[i]? = some o ∧ YieldsIf P ops S o v a ∧ wpPlan P ops Q S R rest (a.put o.dst v) w
  | (i, false) :: rest, a, w => wpOp P ops Q i (fun a' w' => S w' ∧ wpPlan P ops Q S R rest a' w') a w

theorem wpAnyH_plan (hs : Region.noSelect ops = true) (hQ : ∀ c a d v w, Q (.panic c) (Act.put a d v) w → Q (.panic c) a w) :
    ∀ (plan : List (Nat × Bool)) (listed : Array Bool) (a : Act) (w : World), planOk md ops plan listed = true → S w → wpPlan P ops Q S (Q .normal) plan a w →
      ∀ fuel, plan.length ≤ fuel → wpAnyH P md ops Q S fuel listed a w
  | [], listed, a, w, hk, _, h, fuel, _ => wpAnyH_done (by simpa [planOk] using hk) h fuel
  | (i, true) :: rest, listed, a, w, hk, hS, h, fuel, hf => by
    obtain ⟨o, v, ho, hy, h⟩ := h
    simp only [planOk, Bool.and_eq_true] at hk
    obtain ⟨f, rfl⟩ : ∃ f, fuel = f + 1 := ⟨fuel - 1, by simp only [List.length_cons] at hf; omega⟩
    exact wpAnyH_take ho hs hk.2.1 hk.1 (fun c a w => hQ c a o.dst v w) hy hS (wpAnyH_plan hs hQ rest _ _ _ hk.2.2 hS h f (by simp only [List.length_cons] at hf; omega))
  | (i, false) :: rest, listed, a, w, hk, _, h, fuel, hf => by
    simp only [planOk, Bool.and_eq_true, beq_iff_eq] at hk
    obtain ⟨f, rfl⟩ : ∃ f, fuel = f + 1 := ⟨fuel - 1, by simp only [List.length_cons] at hf; omega⟩
    refine wpAnyH_all hk.1 (by simp) fun j hj => ?_
    obtain rfl : j = i := by simpa using hj
    exact wpOp_mono (fun a' w' h' => ⟨h'.1, wpAnyH_plan hs hQ rest _ _ _ hk.2 h'.1 h'.2 f (by simp only [List.length_cons] at hf; omega)⟩) h

/-- **The beginning.** No operation of the region panics. -/
theorem wp_region_plan (plan : List (Nat × Bool)) {id : Nat} {a : Act} {w : World} (hm : P.follows .mixedOrders = true)
    (hk : (Region.noSelect ops && (decide (plan.length ≤ ops.size) && planOk .any ops plan (Array.replicate ops.size false))) = true)
    (hS : S w.drew) (h : wpPlan P ops (NoPanic Q) S (NoPanic Q .normal) plan a w.drew) : (Code.region id ops true).wp P Q a w := by
  simp only [Bool.and_eq_true, decide_eq_true_eq] at hk
  exact wp_region_noPanic (wp_region_held hm (wpAnyH_plan hk.1 (fun _ _ _ _ _ h => h) plan _ a _ hk.2.2 hS h _ hk.2.1))

/-- An operation that only reads. -/
theorem plan_take {i : Nat} {rest : List (Nat × Bool)} {d : Option Tmp} {op : Op} {ty : TypeId} {pos : String} {after : Array Edge} {guard : Option (Nat × Bool)} {v : Value} {a : Act} {w : World}
    (ho : ops[i]? = some ⟨d, op, ty, pos, after, guard⟩) (hw : Region.wanted ⟨d, op, ty, pos, after, guard⟩ (yielded ops a.tmps) = true)
    (hy : ∀ w, S w → (execOp a.eval ⟨d, op, ty, pos, after, guard⟩).run P w = .ok (.value v) w) (h : wpPlan P ops Q S R rest (a.put d v) w) : wpPlan P ops Q S R ((i, true) :: rest) a w :=
  ⟨_, v, ho, .inl ⟨hw, hy⟩, h⟩

/-- An operation behind a guard that is not met. -/
theorem plan_skip {i : Nat} {rest : List (Nat × Bool)} {d : Option Tmp} {op : Op} {ty : TypeId} {pos : String} {after : Array Edge} {guard : Option (Nat × Bool)} {a : Act} {w : World}
    (ho : ops[i]? = some ⟨d, op, ty, pos, after, guard⟩) (hw : Region.wanted ⟨d, op, ty, pos, after, guard⟩ (yielded ops a.tmps) = false)
    (h : wpPlan P ops Q S R rest (a.put d undef) w) : wpPlan P ops Q S R ((i, true) :: rest) a w :=
  ⟨_, undef, ho, .inr ⟨hw, rfl⟩, h⟩

/-- An operation that turns the world: behind it S is shown anew. -/
theorem plan_call {i : Nat} {rest : List (Nat × Bool)} {d : Option Tmp} {op : Op} {ty : TypeId} {pos : String} {after : Array Edge} {guard : Option (Nat × Bool)} {a : Act} {w : World}
    (ho : ops[i]? = some ⟨d, op, ty, pos, after, guard⟩) (hw : Region.wanted ⟨d, op, ty, pos, after, guard⟩ (yielded ops a.tmps) = true)
    (h : ∀ K : Act → World → Prop, Shut (∀ a w, S w → wpPlan P ops Q S R rest a w → K a w) → Oper.wp P ⟨d, op, ty, pos, after, guard⟩ a w K Q) :
    wpPlan P ops Q S R ((i, false) :: rest) a w :=
  wpOp_step ho (fun K hK => by
    rw [if_pos hw]
    exact h K (fun a w hS hW => hK a w ⟨hS, hW⟩))

theorem plan_done {a : Act} {w : World} (h : Q .normal a w) : wpPlan P ops (NoPanic Q) S (NoPanic Q .normal) [] a w := h

/-- The plan's first part fits the region, and leaves what l says. -/
def planTo (md : Region.Mode) (ops : Array Oper) (l : Array Bool) : List (Nat × Bool) → Array Bool → Bool
  | [], listed => listed == l
  | (i, true) :: rest, listed => (Region.ready md ops listed).contains i && (Region.free md ops listed i && planTo md ops l rest (listed.setIfInBounds i true))
  | (i, false) :: rest, listed => (Region.ready md ops listed == [i]) && planTo md ops l rest (listed.setIfInBounds i true)

theorem wpAnyH_planTo {l : Array Bool} {k : Nat} (hs : Region.noSelect ops = true) (hQ : ∀ c a d v w, Q (.panic c) (Act.put a d v) w → Q (.panic c) a w) :
    ∀ (plan : List (Nat × Bool)) (listed : Array Bool) (a : Act) (w : World), planTo md ops l plan listed = true → S w → wpPlan P ops Q S (fun a w => S w → wpAnyH P md ops Q S k l a w) plan a w →
      wpAnyH P md ops Q S (plan.length + k) listed a w
  | [], listed, a, w, hk, hS, h => by
    rw [show listed = l from by simpa [planTo] using hk, List.length_nil, Nat.zero_add]
    exact h hS
  | (i, true) :: rest, listed, a, w, hk, hS, h => by
    obtain ⟨o, v, ho, hy, h⟩ := h
    simp only [planTo, Bool.and_eq_true] at hk
    rw [List.length_cons, show rest.length + 1 + k = (rest.length + k) + 1 from by omega]
    exact wpAnyH_take ho hs hk.2.1 hk.1 (fun c a w => hQ c a o.dst v w) hy hS (wpAnyH_planTo hs hQ rest _ _ _ hk.2.2 hS h)
  | (i, false) :: rest, listed, a, w, hk, _, h => by
    simp only [planTo, Bool.and_eq_true, beq_iff_eq] at hk
    rw [List.length_cons, show rest.length + 1 + k = (rest.length + k) + 1 from by omega]
    refine wpAnyH_all hk.1 (by simp) fun j hj => ?_
    obtain rfl : j = i := by simpa using hj
    exact wpOp_mono (fun a' w' h' => ⟨h'.1, wpAnyH_planTo hs hQ rest _ _ _ hk.2 h'.1 h'.2⟩) h

/-- **The beginning**, where behind the plan's first part several may come next. No operation of the region panics. -/
theorem wp_region_planTo (plan : List (Nat × Bool)) (l : Array Bool) (k : Nat) {id : Nat} {a : Act} {w : World} (hm : P.follows .mixedOrders = true)
    (hk : (Region.noSelect ops && (decide (plan.length + k = ops.size) && planTo .any ops l plan (Array.replicate ops.size false))) = true)
    (hS : S w.drew) (h : wpPlan P ops (NoPanic Q) S (fun a w => S w → wpAnyH P .any ops (NoPanic Q) S k l a w) plan a w.drew) : (Code.region id ops true).wp P Q a w := by
  simp only [Bool.and_eq_true, decide_eq_true_eq] at hk
  have h1 := wpAnyH_planTo (k := k) hk.1 (fun _ _ _ _ _ h => h) plan _ a _ hk.2.2 hS h
  rw [hk.2.1] at h1
  exact wp_region_noPanic (wp_region_held hm h1)

/-- One of those that may come next. -/
theorem ready_cons {fuel : Nat} {listed : Array Bool} {i : Nat} {rs : List Nat} {d : Option Tmp} {op : Op} {ty : TypeId} {pos : String} {after : Array Edge} {guard : Option (Nat × Bool)} {a : Act} {w : World}
    (ho : ops[i]? = some ⟨d, op, ty, pos, after, guard⟩) (hw : Region.wanted ⟨d, op, ty, pos, after, guard⟩ (yielded ops a.tmps) = true)
    (h : ∀ K : Act → World → Prop, Shut (∀ a w, S w → wpAnyH P md ops Q S fuel (listed.setIfInBounds i true) a w → K a w) → Oper.wp P ⟨d, op, ty, pos, after, guard⟩ a w K Q)
    (hs : AllReadyH P md ops Q S fuel listed a w rs) : AllReadyH P md ops Q S fuel listed a w (i :: rs) := fun j hj => by
  rcases List.mem_cons.1 hj with rfl | hj
  · refine wpOp_step ho (fun K hK => ?_)
    rw [if_pos hw]
    exact h K (fun a w hS hW => hK a w ⟨hS, hW⟩)
  · exact hs j hj

/-- What a region leaves, said once for all its ways. -/
theorem wp_cut (R : Act → Act → World → Prop) {c : Code} {a : Act} {w : World} (h : c.wp P (fun e a' w' => e = .normal ∧ R a a' w') a w) (hR : ∀ a' w', R a a' w' → Q .normal a' w') : c.wp P Q a w :=
  Code.wp_mono (fun _ a' w' h => by obtain ⟨rfl, h⟩ := h; exact hR a' w' h) h
end
end Go.Proofs.Ytlnjnoingiohjaa
