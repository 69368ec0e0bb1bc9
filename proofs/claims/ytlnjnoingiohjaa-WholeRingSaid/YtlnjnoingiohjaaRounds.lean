/- A range over a function whose k-th round is handed arguments that depend on k alone: the word that the function gives, and the law for the statement, over any program. -/
import Derived.RangeFuncNested
import Derived.RangeFuncLeaves
import Derived.WalkKit
import Derived.OwnWalkIn
import Derived.TacticsInMore
import Derived.LoopNIn
import Derived.LoopIn
import Derived.OrdersIn
namespace Go.Proofs.Ytlnjnoingiohjaa
open Go.RowKit

/-- Called in W, the function gives N rounds one after the other, the k-th with the arguments enc k; each round that goes on keeps Keep k. It stops early exactly where a round says so. It makes no block and writes none. -/
def Gives (P : Program) (g : Nat) (lb : Array Value) (N : Nat) (enc : Nat → Array Value) (Keep : Nat → World → World → Prop) (W : World) : Prop :=
  ∀ (l : Nat) (J Jx : Nat → World → Prop),
    (∀ k V, k < N → J k V → YieldAt Fence.wide 1 P l (enc k) V fun e V' =>
      (e = .returned (.bool true) ∧ J (k + 1) V' ∧ Keep k V V') ∨ (e = .returned (.bool false) ∧ Jx k V')) →
    J 0 W →
    CallsIn Fence.wide 2 P g (#[.func (.yield l) #[] #[]] ++ lb) W fun e V => (∃ v, e = .returned v) ∧ (J N V ∨ ∃ k, k < N ∧ Jx k V)

/-- How a round's body may be left. -/
def leftBy (B : Nat) (Keep : World → World → Prop) (I : World → Prop) (Ix : Code → World → Prop) (W : World) : Exit → Act → World → Prop
  | .normal, _, V => KeepsFrom B W V ∧ Keep W V ∧ I V
  | .ret, _, V => KeepsFrom B W V ∧ Ix .ret V
  | .exit id, _, V => KeepsFrom B W V ∧ Ix (.exit id) V
  | .goto t, _, V => KeepsFrom B W V ∧ Ix (.goto t) V
  | .panic _, _, _ => False
  | .outgrown, _, _ => False

/-- The statement. The two blocks that it lays for itself are w.heap.size and the next. -/
theorem wp_rounds {P : Program} {g : Operand} {ps : Array Tmp} {assign body : Code} {Q : Exit → Act → World → Prop} {a : Act} {w : World}
    {gf : Nat} {lb : Array Value} (hg : a.eval g = .func (.func gf) #[] lb) (eg : ∀ args v, (callFunc gf args).run P v = .ok (.enter gf args) v)
    {N : Nat} {enc : Nat → Array Value} {Keep : Nat → World → World → Prop} (hseq : ∀ W, Below w.heap.size w W → Gives P gf lb N enc Keep W)
    (hkeep : ∀ k A B o o', w.heap.size + 1 < A.heap.size → Keep k (A.putObj (w.heap.size + 1) o) B → Keep k A (B.putObj (w.heap.size + 1) o'))
    (hps : ∀ k, (enc k).size = ps.size)
    (I : Nat → World → Prop) (Ix : Code → Nat → World → Prop) (hI : OwnFrom w.heap.size I) (hIx : ∀ c, OwnFrom w.heap.size (Ix c)) (h0 : I 0 w) (a₁ : Nat → Act)
    (hassign : ∀ (l k : Nat) (W : World) (K : Act → World → Prop), K (a₁ k) W →
      assign.wpIn (Fence.wide.inRound l) 1 P (Exit.then K (fun _ _ _ => False)) { tmps := (ps.zip (enc k)).foldl (fun t (p, v) => t.setIfInBounds p v) a.tmps, defers := [] } W)
    (hbody : ∀ (l k : Nat) (W : World), w.heap.size + 1 < W.heap.size → I k W → k < N → body.wpIn (Fence.wide.inRound l) 1 P (leftBy w.heap.size (Keep k) (I (k + 1)) (fun c => Ix c k) W) (a₁ k) W)
    (hdone : ∀ W, I N W → W.heap[w.heap.size]? = some (.deferred (some [])) → Q .normal { a with defers := { target := .collected w.heap.size, args := #[] } :: a.defers } W)
    (hstop : ∀ (c : Code) (k : Nat) (W : World), k < N → Ix c k W → W.heap[w.heap.size]? = some (.deferred (some [])) →
      c.wpIn Fence.wide 3 P Q { a with defers := { target := .collected w.heap.size, args := #[] } :: a.defers } W) :
    (Code.rangeFunc g ps assign body).wpIn Fence.wide 3 P Q a w := by
  refine wpIn_rangeFunc fun fn hfn => ?_
  obtain ⟨rec, hrec⟩ : ∃ rec : LoopState → Option Code → Loop, rec = fun s p => { state := s, pending := p, fn, tmps := a.tmps, params := ps, assign, body, defers := w.heap.size } := ⟨_, rfl⟩
  obtain ⟨W1, hW1⟩ : ∃ W1, W1 = (w.alloc (.deferred (some []))).alloc (.loop (rec .ready none)) := ⟨_, rfl⟩
  have hl1 : W1.heap[w.heap.size + 1]? = some (.loop (rec .ready none)) := by
    have h := World.alloc_heap_new (w.alloc (.deferred (some []))) (.loop (rec .ready none))
    rw [World.size_alloc] at h
    rw [hW1]; exact h
  have hd1 : W1.heap[w.heap.size]? = some (.deferred (some [])) := by
    rw [hW1]; exact (Below.heap_alloc _ _ _ (by simp)).trans (World.alloc_heap_new w _)
  have hb1 : Below w.heap.size w W1 := by rw [hW1]; exact ((Below.refl _ w).alloc (Nat.le_refl _) _).alloc (by simp) _
  refine ⟨w.heap.size + 1, [{ target := .collected w.heap.size, args := #[] }], W1, { target := .fn (.func gf) lb, args := #[.func (.yield (w.heap.size + 1)) #[] #[]] }, W1, gf,
    #[.func (.yield (w.heap.size + 1)) #[] #[]] ++ lb, W1, ?_, ?_, fun _ _ => trivial, ?_, fun h => by simp [Fence.wide] at h, ?_⟩
  · rw [hW1, hrec]; exact run_enterLoop_outer _ _ _ _ _
  · simp only [resolve, hg]; simp [go_sem]
  · simp [invoke, go_sem, eg]
  refine (hseq W1 hb1 (w.heap.size + 1)
    (fun k V => I k V ∧ V.heap[w.heap.size + 1]? = some (.loop (rec .ready none)) ∧ V.heap[w.heap.size]? = some (.deferred (some [])))
    (fun k V => ∃ c, Ix c k V ∧ V.heap[w.heap.size + 1]? = some (.loop (rec .done (some c))) ∧ V.heap[w.heap.size]? = some (.deferred (some [])))
    ?_ ⟨by rw [hW1]; exact hI.alloc _ (hI.alloc _ h0), hl1, hd1⟩).mono ?_
  · rintro k V hk ⟨hi, hl, hd⟩
    have hlt : w.heap.size + 1 < V.heap.size := (Array.getElem?_eq_some_iff.1 hl).1
    have hy := run_yield (P := P) (args := enc k) hl (by rw [hrec]; exact hps k)
    rw [hrec] at hy
    refine ⟨fn, _, assign, body, hy, roundIn_of_wpIn hfn (hassign _ k V _ ?_)⟩
    clear hy
    refine ⟨_, run_beginRound hl (by rw [hrec]), ?_⟩
    have hl2 := World.putObj_heap_same (w := V) (o := .loop { rec .ready none with state := .busy }) hlt
    have hd2 : (V.putObj (w.heap.size + 1) (.loop { rec .ready none with state := .busy })).heap[w.heap.size]? = some (.deferred (some [])) := (World.putObj_heap_other (by omega)).trans hd
    have hlt2 : w.heap.size + 1 < (V.putObj (w.heap.size + 1) (.loop { rec .ready none with state := .busy })).heap.size := (Array.getElem?_eq_some_iff.1 hl2).1
    refine wpIn_mono (hbody _ k _ hlt2 (hI.putObj _ hi (by omega) hl rfl) hk) fun e a3 W3 hp => ?_
    have fin : ∀ (jump : Option Code), KeepsFrom w.heap.size (V.putObj (w.heap.size + 1) (.loop { rec .ready none with state := .busy })) W3 →
        W3.heap[w.heap.size + 1]? = some (.loop { rec .ready none with state := .busy }) ∧
        (Instr.endRound (w.heap.size + 1) jump).run P W3 = .ok (.bool jump.isNone) (W3.putObj (w.heap.size + 1) (.loop (rec (if jump.isNone then .ready else .done) jump))) ∧
        (W3.putObj (w.heap.size + 1) (.loop (rec (if jump.isNone then .ready else .done) jump))).heap[w.heap.size + 1]? = some (.loop (rec (if jump.isNone then .ready else .done) jump)) ∧
        (W3.putObj (w.heap.size + 1) (.loop (rec (if jump.isNone then .ready else .done) jump))).heap[w.heap.size]? = some (.deferred (some [])) := by
      intro jump hkf
      have hl3 := hkf.same _ _ (by omega) hl2 rfl
      have hd3 := hkf.same _ _ (Nat.le_refl _) hd2 rfl
      refine ⟨hl3, ?_, World.putObj_heap_same (Array.getElem?_eq_some_iff.1 hl3).1, (World.putObj_heap_other (by omega)).trans hd3⟩
      have h := run_endRound (P := P) jump hl3
      rw [hrec] at h ⊢
      exact h
    match e, hp with
    | .normal, ⟨hkf, hkp, hi3⟩ =>
      obtain ⟨hl3, hr, hl4, hd4⟩ := fin none hkf
      exact ⟨_, _, hr, .inl ⟨rfl, ⟨hI.putObj _ hi3 (by omega) hl3 rfl, hl4, hd4⟩, hkeep _ _ _ _ _ hlt hkp⟩⟩
    | .ret, ⟨hkf, hi3⟩ =>
      obtain ⟨hl3, hr, hl4, hd4⟩ := fin (some .ret) hkf
      exact ⟨_, _, hr, .inr ⟨rfl, .ret, (hIx _).putObj _ hi3 (by omega) hl3 rfl, hl4, hd4⟩⟩
    | .exit id, ⟨hkf, hi3⟩ =>
      obtain ⟨hl3, hr, hl4, hd4⟩ := fin (some (.exit id)) hkf
      exact ⟨_, _, hr, .inr ⟨rfl, .exit id, (hIx _).putObj _ hi3 (by omega) hl3 rfl, hl4, hd4⟩⟩
    | .goto t, ⟨hkf, hi3⟩ =>
      obtain ⟨hl3, hr, hl4, hd4⟩ := fin (some (.goto t)) hkf
      exact ⟨_, _, hr, .inr ⟨rfl, .goto t, (hIx _).putObj _ hi3 (by omega) hl3 rfl, hl4, hd4⟩⟩
    | .panic _, hp => exact hp.elim
    | .outgrown, hp => exact hp.elim
  · rintro e W2 ⟨⟨v, rfl⟩, hjs⟩
    rcases hjs with ⟨hi, hl, hd⟩ | ⟨k, hk, c, hi, hl, hd⟩
    · have h := run_endLoop (P := P) hl (by rw [hrec]; simp)
      rw [show (rec .ready none).pending = none from by rw [hrec]] at h
      exact ⟨none, _, h, hdone _ (hI.putObj _ hi (by omega) hl rfl) ((World.putObj_heap_other (by omega)).trans hd)⟩
    · have h := run_endLoop (P := P) hl (by rw [hrec]; simp)
      rw [show (rec .done (some c)).pending = some c from by rw [hrec]] at h
      exact ⟨some c, _, h, hstop c k _ hk ((hIx c).putObj _ hi (by omega) hl rfl) ((World.putObj_heap_other (by omega)).trans hd)⟩

/-- No operation of the region is a defer statement. -/
def noDefer (ops : Array Oper) : Bool := ops.all fun o => match o.op with | .defer _ => false | _ => true

theorem noDefer_at {ops : Array Oper} (h : noDefer ops = true) {i : Nat} {o : Oper} (hi : ops[i]? = some o) : ∀ c, o.op ≠ .defer c := by
  intro c hc
  obtain ⟨hlt, rfl⟩ := Array.getElem?_eq_some_iff.1 hi
  have := (Array.all_eq_true.1 h) i hlt
  rw [hc] at this
  cases this

/-- A round's frame carries out a region's operations as any frame does: but for defer statements. -/
theorem anyIn_round {F : Fence} {n l : Nat} {P : Program} {md : Region.Mode} {ops : Array Oper} {Q : Exit → Act → World → Prop} (hnd : noDefer ops = true) :
    ∀ (fuel : Nat) (listed : Array Bool) (a : Act) (w : World), wpAnyIn F n P md ops Q fuel listed a w → wpAnyIn (F.inRound l) n P md ops Q fuel listed a w
  | 0, _, _, _, h => h
  | fuel + 1, listed, a, w, h => by
    refine ⟨h.1, fun i hi => ?_⟩
    have h1 := h.2 i hi
    unfold wpOpIn at h1 ⊢
    split
    · rename_i hn
      rw [hn] at h1
      exact anyIn_round hnd fuel _ a w h1
    · rename_i o ho
      rw [ho] at h1
      simp only at h1 ⊢
      have hp := noDefer_at hnd ho
      split
      · rename_i hw
        rw [if_pos hw] at h1
        obtain ⟨h2, h3⟩ := h1
        refine ⟨h2, ?_⟩
        rw [Oper.semAt_plain F _ _ hp] at h3
        rw [Oper.semAt_plain (F.inRound l) _ _ hp]
        generalize (execOp a.eval o).run P w = r at h3 ⊢
        have step : ∀ a' w', wpAnyIn F n P md ops Q fuel (listed.setIfInBounds i true) a' w' → wpAnyIn (F.inRound l) n P md ops Q fuel (listed.setIfInBounds i true) a' w' := fun a' w' => anyIn_round hnd fuel _ a' w'
        match r, h3 with
        | .ok (.value v) w', h3 => exact step _ _ h3
        | .ok .skip w', h3 => exact step _ _ h3
        | .ok (.defer d) w', h3 => exact step _ _ h3
        | .ok (.enter f args) w', h3 =>
          exact ⟨h3.1, CallsIn.mono h3.2 fun e w'' he => by
            cases e with
            | returned v => exact step _ _ he
            | panicked c => exact he
            | outgrown => exact he⟩
        | .ok (.row row args) w', h3 => exact ⟨h3.1, RowsIn.mono h3.2 fun v w'' he => step _ _ he⟩
        | .ok (.round l' f tmps assign body) w', h3 =>
          exact ⟨h3.1, RoundIn.mono h3.2 fun e w'' he => by
            cases e with
            | returned v => exact step _ _ he
            | panicked c => exact he
            | outgrown => exact he⟩
        | .halt (.panic v) w', h3 => exact h3
      · rename_i hw
        rw [if_neg hw] at h1
        exact ⟨h1.1, anyIn_round hnd fuel _ _ w h1.2⟩

/-- A region that draws its order, within a round. -/
theorem region_round {n l : Nat} {P : Program} {id : Nat} {ops : Array Oper} {Q : Exit → Act → World → Prop} {a : Act} {w : World} (hm : P.follows .mixedOrders = true) (hnd : noDefer ops = true)
    (h : wpAnyIn Fence.wide n P .any ops Q ops.size (Array.replicate ops.size false) a w.drew) : (Code.region id ops true).wpIn (Fence.wide.inRound l) n P Q a w :=
  wpIn_region_any hm (anyIn_round hnd _ _ _ _ h)

/-- append at a step of such a region, its run known. -/
theorem step_append_in {F : Fence} {n : Nat} {P : Program} {w w' : World} {ops : Array Oper} {o : Oper} {a : Act} {K : Act → World → Prop} {Q : Exit → Act → World → Prop} {E : Prop} {v u v' : Value}
    (hgd : o.guard = none) (s x : Operand) (t : TypeId) (ho : o.op = .call { callee := .builtin .append, args := #[s, x], argTypes := #[t, t] })
    (hs : a.eval s = v) (hx : a.eval x = u) (hrun : (Builtin.append_ #[t, t] o.type #[v, u]).run P w = .ok v' w') (h : K (a.put o.dst v') w') :
    if Region.wanted o (yielded ops a.tmps) = true then Oper.wpIn F n P o a w K Q else E := by
  have hw : Region.wanted o (yielded ops a.tmps) = true := by simp [Region.wanted, hgd]
  rw [if_pos hw]
  unfold Oper.wpIn
  refine ⟨fun f hf => ?_, ?_⟩
  · simp [Oper.about, ho, resolve, Target.leads, Sem.run_pure] at hf
  · rw [Oper.semAt_plain F _ _ (by rw [ho]; intro c hc; cases hc)]
    simp only [execOp, ho, resolve, invoke, builtin, Sem.run_bind, Sem.run_pure, Result.andThen_ok, List.map_toArray, List.map_cons, List.map_nil, hs, hx, hrun]
    exact h
end Go.Proofs.Ytlnjnoingiohjaa
