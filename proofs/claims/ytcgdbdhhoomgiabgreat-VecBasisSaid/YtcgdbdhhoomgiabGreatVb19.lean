/- Parts: 3. -/
import Derived.Test.YtcgdbdhhoomgiabGreatVb1
import Derived.Test.YtcgdbdhhoomgiabGreatVb18
set_option linter.unusedVariables false
set_option linter.unusedSimpArgs false
set_option maxRecDepth 100000
set_option maxHeartbeats 40000000

namespace Go.Proofs.YtcgdbdhhoomgiabGreat
open Go.RowKit

/-- Called in W, the function gives N rounds one after the other, the k-th with the arguments enc k; each round that goes on keeps the cells in S. It may lay blocks, but writes none. -/
def GivesB (P : Program) (g : Nat) (lb : Array Value) (N : Nat) (enc : Nat -> Array Value) (S : Addr -> Prop) (W : World) : Prop :=
  ∀ (l : Nat) (J Jx : Nat -> World -> Prop),
    (∀ k V V', J k V -> Below V.heap.size V V' -> J k V') ->
    (∀ k V, k < N -> J k V -> YieldAt Fence.wide 1 P l (enc k) V fun e V' =>
      (e = .returned (.bool true) /\ J (k + 1) V' /\ KeepAt S V V') ∨ (e = .returned (.bool false) /\ Jx k V')) ->
    J 0 W ->
    CallsIn Fence.wide 2 P g (#[.func (.yield l) #[] #[]] ++ lb) W fun e V => (∃ v, e = .returned v) /\ (J N V ∨ ∃ k, k < N /\ Jx k V)

/-- The statement. The two blocks that it lays for itself are w.heap.size and the next. -/
theorem wp_roundsB {P : Program} {g : Operand} {ps : Array Tmp} {assign body : Code} {Q : Exit -> Act -> World -> Prop} {a : Act} {w : World}
    {gf : Nat} {lb : Array Value} (hg : a.eval g = .func (.func gf) #[] lb) (eg : ∀ args v, (callFunc gf args).run P v = .ok (.enter gf args) v)
    {N : Nat} {enc : Nat -> Array Value} {S : Addr -> Prop} (hS : ∀ p, S p -> p.block < w.heap.size) (hseq : ∀ W, Below w.heap.size w W -> GivesB P gf lb N enc S W)
    (hps : ∀ k, (enc k).size = ps.size)
    (I : Nat -> World -> Prop) (I1 : Nat -> Act -> World -> Prop) (Ix : Code -> Nat -> World -> Prop) (hI : OwnFrom w.heap.size I) (hI1 : OwnFrom w.heap.size (fun s : Nat × Act => I1 s.1 s.2)) (hIb : ∀ k V V', I k V -> Below V.heap.size V V' -> I k V') (hIx : ∀ c, OwnFrom w.heap.size (Ix c)) (h0 : I 0 w)
    (hassign : ∀ (l k : Nat) (W : World) (K : Act -> World -> Prop), w.heap.size + 1 < W.heap.size -> I k W -> k < N -> (∀ a1 W1, Below W.heap.size W W1 -> I1 k a1 W1 -> K a1 W1) ->
      assign.wpIn (Fence.wide.inRound l) 1 P (Exit.then K (fun _ _ _ => False)) { tmps := (ps.zip (enc k)).foldl (fun t (p, v) => t.setIfInBounds p v) a.tmps, defers := [] } W)
    (hbody : ∀ (l k : Nat) (a1 : Act) (W : World), w.heap.size + 1 < W.heap.size -> I1 k a1 W -> k < N -> body.wpIn (Fence.wide.inRound l) 1 P (leftBy w.heap.size (KeepAt S) (I (k + 1)) (fun c => Ix c k) W) a1 W)
    (hdone : ∀ W, I N W -> W.heap[w.heap.size]? = some (.deferred (some [])) -> Q .normal { a with defers := { target := .collected w.heap.size, args := #[] } :: a.defers } W)
    (hstop : ∀ (c : Code) (k : Nat) (W : World), k < N -> Ix c k W -> W.heap[w.heap.size]? = some (.deferred (some [])) ->
      c.wpIn Fence.wide 3 P Q { a with defers := { target := .collected w.heap.size, args := #[] } :: a.defers } W) :
    (Code.rangeFunc g ps assign body).wpIn Fence.wide 3 P Q a w := by
  refine wpIn_rangeFunc fun fn hfn => ?_
  obtain ⟨rec, hrec⟩ : ∃ rec : LoopState -> Option Code -> Loop, rec = fun s p => { state := s, pending := p, fn, tmps := a.tmps, params := ps, assign, body, defers := w.heap.size } := ⟨_, rfl⟩
  obtain ⟨W1, hW1⟩ : ∃ W1, W1 = (w.alloc (.deferred (some []))).alloc (.loop (rec .ready none)) := ⟨_, rfl⟩
  have hl1 : W1.heap[w.heap.size + 1]? = some (.loop (rec .ready none)) := by
    have h := World.alloc_heap_new (w.alloc (.deferred (some []))) (.loop (rec .ready none))
    rw [World.size_alloc] at h
    rw [hW1]; exact h
  have hd1 : W1.heap[w.heap.size]? = some (.deferred (some [])) := by
    rw [hW1]; exact (Below.heap_alloc _ _ _ (by simp)).trans (World.alloc_heap_new w _)
  have hb1 : Below w.heap.size w W1 := by rw [hW1]; exact ((Below.refl _ w).alloc (Nat.le_refl _) _).alloc (by simp) _
  refine ⟨w.heap.size + 1, [{ target := .collected w.heap.size, args := #[] }], W1, { target := .fn (.func gf) lb, args := #[.func (.yield (w.heap.size + 1)) #[] #[]] }, W1, gf,
    #[.func (.yield (w.heap.size + 1)) #[] #[]] ++ lb, W1, ?_, ?_, fun _ _ => trivial, ?_, fun h => by simp [Fence.wide] at h, ?_⟩
  · rw [hW1, hrec]; exact run_enterLoop_outer _ _ _ _ _
  · simp only [resolve, hg]; simp [go_sem]
  · simp [invoke, go_sem, eg]
  refine (hseq W1 hb1 (w.heap.size + 1)
    (fun k V => I k V /\ V.heap[w.heap.size + 1]? = some (.loop (rec .ready none)) /\ V.heap[w.heap.size]? = some (.deferred (some [])))
    (fun k V => ∃ c, Ix c k V /\ V.heap[w.heap.size + 1]? = some (.loop (rec .done (some c))) /\ V.heap[w.heap.size]? = some (.deferred (some [])))
    ?stab ?_ ⟨by rw [hW1]; exact hI.alloc _ (hI.alloc _ h0), hl1, hd1⟩).mono ?_
  case stab =>
    rintro k V V' ⟨h1, h2, h3⟩ hb
    exact ⟨hIb k V V' h1 hb, (hb.block _ (Array.getElem?_eq_some_iff.1 h2).1).trans h2, (hb.block _ (Array.getElem?_eq_some_iff.1 h3).1).trans h3⟩
  · rintro k V hk ⟨hi, hl, hd⟩
    have hlt : w.heap.size + 1 < V.heap.size := (Array.getElem?_eq_some_iff.1 hl).1
    have hy := run_yield (P := P) (args := enc k) hl (by rw [hrec]; exact hps k)
    rw [hrec] at hy
    refine ⟨fn, _, assign, body, hy, roundIn_of_wpIn hfn (hassign _ k V _ hlt hi hk ?_)⟩
    clear hy
    intro a1 V1 hV1 hi1
    have hkV : KeepAt S V V1 := fun p hp => hV1.cell (p := p) (by have := hS p hp; omega)
    replace hl := (hV1.block _ hlt).trans hl
    replace hd := (hV1.block _ (Array.getElem?_eq_some_iff.1 hd).1).trans hd
    have hlt : w.heap.size + 1 < V1.heap.size := (Array.getElem?_eq_some_iff.1 hl).1
    clear hi hV1
    refine ⟨_, run_beginRound hl (by rw [hrec]), ?_⟩
    have hl2 := World.putObj_heap_same (w := V1) (o := .loop { rec .ready none with state := .busy }) hlt
    have hd2 : (V1.putObj (w.heap.size + 1) (.loop { rec .ready none with state := .busy })).heap[w.heap.size]? = some (.deferred (some [])) := (World.putObj_heap_other (by omega)).trans hd
    have hlt2 : w.heap.size + 1 < (V1.putObj (w.heap.size + 1) (.loop { rec .ready none with state := .busy })).heap.size := (Array.getElem?_eq_some_iff.1 hl2).1
    refine wpIn_mono (hbody _ k a1 _ hlt2 (hI1.putObj (s := (k, a1)) _ hi1 (by omega) hl rfl) hk) fun e a3 W3 hp => ?_
    have fin : ∀ (jump : Option Code), KeepsFrom w.heap.size (V1.putObj (w.heap.size + 1) (.loop { rec .ready none with state := .busy })) W3 ->
        W3.heap[w.heap.size + 1]? = some (.loop { rec .ready none with state := .busy }) /\
        (Instr.endRound (w.heap.size + 1) jump).run P W3 = .ok (.bool jump.isNone) (W3.putObj (w.heap.size + 1) (.loop (rec (if jump.isNone then .ready else .done) jump))) /\
        (W3.putObj (w.heap.size + 1) (.loop (rec (if jump.isNone then .ready else .done) jump))).heap[w.heap.size + 1]? = some (.loop (rec (if jump.isNone then .ready else .done) jump)) /\
        (W3.putObj (w.heap.size + 1) (.loop (rec (if jump.isNone then .ready else .done) jump))).heap[w.heap.size]? = some (.deferred (some [])) := by
      intro jump hkf
      have hl3 := hkf.same _ _ (by omega) hl2 rfl
      have hd3 := hkf.same _ _ (Nat.le_refl _) hd2 rfl
      refine ⟨hl3, ?_, World.putObj_heap_same (Array.getElem?_eq_some_iff.1 hl3).1, (World.putObj_heap_other (by omega)).trans hd3⟩
      have h := run_endRound (P := P) jump hl3
      rw [hrec] at h ⊢
      exact h
    match e, hp with
    | .normal, ⟨hkf, hkp, hi3⟩ =>
      obtain ⟨hl3, hr, hl4, hd4⟩ := fin none hkf
      exact ⟨_, _, hr, .inl ⟨rfl, ⟨hI.putObj _ hi3 (by omega) hl3 rfl, hl4, hd4⟩, fun p hp => (keepAt_round hS _ _ hkp p hp).trans (hkV p hp)⟩⟩
    | .ret, ⟨hkf, hi3⟩ =>
      obtain ⟨hl3, hr, hl4, hd4⟩ := fin (some .ret) hkf
      exact ⟨_, _, hr, .inr ⟨rfl, .ret, (hIx _).putObj _ hi3 (by omega) hl3 rfl, hl4, hd4⟩⟩
    | .exit id, ⟨hkf, hi3⟩ =>
      obtain ⟨hl3, hr, hl4, hd4⟩ := fin (some (.exit id)) hkf
      exact ⟨_, _, hr, .inr ⟨rfl, .exit id, (hIx _).putObj _ hi3 (by omega) hl3 rfl, hl4, hd4⟩⟩
    | .goto t, ⟨hkf, hi3⟩ =>
      obtain ⟨hl3, hr, hl4, hd4⟩ := fin (some (.goto t)) hkf
      exact ⟨_, _, hr, .inr ⟨rfl, .goto t, (hIx _).putObj _ hi3 (by omega) hl3 rfl, hl4, hd4⟩⟩
    | .panic _, hp => exact hp.elim
    | .outgrown, hp => exact hp.elim
  · rintro e W2 ⟨⟨v, rfl⟩, hjs⟩
    rcases hjs with ⟨hi, hl, hd⟩ | ⟨k, hk, c, hi, hl, hd⟩
    · have h := run_endLoop (P := P) hl (by rw [hrec]; simp)
      rw [show (rec .ready none).pending = none from by rw [hrec]] at h
      exact ⟨none, _, h, hdone _ (hI.putObj _ hi (by omega) hl rfl) ((World.putObj_heap_other (by omega)).trans hd)⟩
    · have h := run_endLoop (P := P) hl (by rw [hrec]; simp)
      rw [show (rec .done (some c)).pending = some c from by rw [hrec]] at h
      exact ⟨some c, _, h, hstop c k _ hk ((hIx c).putObj _ hi (by omega) hl rfl) ((World.putObj_heap_other (by omega)).trans hd)⟩

end Go.Proofs.YtcgdbdhhoomgiabGreat

namespace Go.Proofs.YtcgdbdhhoomgiabGreat
open Go.RowKit Go.Shelf
attribute [local go_sem] Oper.semAt_some

def vpairE (es fs : List E4) (k : Nat) : Array Value := #[(es.getD k E4.z).v, (fs.getD k E4.z).v]

theorem Rq.keepAt {w w' : World} {B : Nat} {S : Addr -> Prop} {A : Option Addr} {es : List E4} (h : Rq w B A es) (hS : ∀ p : Addr, p.block < B -> S p) (hk : KeepAt S w w') : Rq w' B A es := by
  intro k hk'
  obtain ⟨b, o, rfl, hb, h0, h1, h2, h3⟩ := h k hk'
  exact ⟨b, o, rfl, hb, (hk ⟨b, _, none⟩ (hS ⟨b, _, none⟩ hb)).trans h0, (hk ⟨b, _, none⟩ (hS ⟨b, _, none⟩ hb)).trans h1, (hk ⟨b, _, none⟩ (hS ⟨b, _, none⟩ hb)).trans h2, (hk ⟨b, _, none⟩ (hS ⟨b, _, none⟩ hb)).trans h3⟩

theorem dagInE {F : Fence} {n : Nat} {P : Program} {md : Region.Mode} {ops : Array Oper} {Q : Exit -> Act -> World -> Prop} (k : Nat) (l : Array Bool) (a : Act) {k' : Nat} {l' : Array Bool} {a' : Act} {w : World} (hk : k' = k) (hl : l' = l) (ha : a' = a)
    (h : ∀ G : Nat -> Array Bool -> Act -> World -> Prop, (∀ {k l a w}, wpAnyIn F n P md ops Q k l a w -> G k l a w) -> (∀ {k l a w}, G k l a w -> wpAnyIn F n P md ops Q k l a w) -> G k l a w) : wpAnyIn F n P md ops Q k' l' a' w := by
  subst hk hl ha
  exact h _ (fun h => h) (fun h => h)

theorem vpairs_gives (Bx By B c c' : Nat) (A A' : Option Addr) (es fs : List E4) (hx63 : es.length <= 9223372036854775807) (hy63 : fs.length <= 9223372036854775807) (W : World)
    (hbx : W.cell? ⟨Bx, 0, none⟩ = some (.slice A es.length c)) (hby : W.cell? ⟨By, 0, none⟩ = some (.slice A' fs.length c')) (hx : Rq W B A es) (hy : Rq W B A' fs) (qx : ∀ e ∈ es, e.fq) (qy : ∀ e ∈ fs, e.fq) :
    GivesB Tryz.prog 48 #[.pointer (some ⟨Bx, 0, none⟩), .pointer (some ⟨By, 0, none⟩)] (max es.length fs.length) (vpairE es fs) (pairS Bx By B) W := by
  intro l J Jx hst hY h0
  refine callsIn_of_wp Tryz.func48 rfl trivial ?_ rfl
  simp only [Tryz.ntmps48, List.size_toArray, List.length_cons, List.length_nil, Nat.reduceAdd, Nat.reduceSub, Array.replicate_succ, Array.replicate_zero, List.push_toArray, List.append_toArray, List.nil_append, List.cons_append]
  obtain ⟨N, hN⟩ : ∃ N, max es.length fs.length = N := ⟨_, rfl⟩
  have hN63 : N <= 9223372036854775807 := by omega
  rw [hN] at hY ⊢
  have HN := Lib.hid hN
  have HST := Lib.hid hst
  have HYY := Lib.hid hY
  have QX := Lib.hid qx
  have QY := Lib.hid qy
  have HX63 := Lib.hid hx63
  have HY63 := Lib.hid hy63
  clear hst hY qx qy
  rcases Nat.lt_or_ge es.length fs.length with hle | hle
  rotate_left
  · obtain rfl : N = es.length := by omega
    clear hN
    gi_wp2
    gi_loopw [10] (fun i wr => ∃ k : Nat, i = .int .i64 k /\ k <= es.length /\ J k wr /\ wr.cell? ⟨Bx, 0, none⟩ = some (.slice A es.length c) /\ wr.cell? ⟨By, 0, none⟩ = some (.slice A' fs.length c') /\ Rq wr B A es /\ Rq wr B A' fs)
      (fun i _ => es.length - (intOf i).toNat)
    case atStart => exact ⟨0, rfl, Nat.zero_le _, h0, hbx, hby, hx, hy⟩
    case round =>
      obtain ⟨k, rfl, hk, hJ, cx, cy, rx, ry⟩ := hrel
      clear hbx hby hx hy h0
      have klx : Bx < wr.heap.size := World.block_lt_of_cell? wr _ cx
      have kly : By < wr.heap.size := World.block_lt_of_cell? wr _ cy
      by_cases hlt : k < es.length
      · have hlt' : (k : Int) < (es.length : Nat) := by omega
        have hdec : decide ((k : Int) < max (es.length : Int) (fs.length : Int)) = true := decide_eq_true (by omega)
        have HX := Lib.hid (fun (V : World) (hV : Below wr.heap.size wr V) => at_v (c := c) (k := k) (rx.grow hV) QX.out HX63.out)
        have HY := Lib.hid (fun (V : World) (hV : Below wr.heap.size wr V) => at_v (c := c') (k := k) (ry.grow hV) QY.out HY63.out)
        have HJ := Lib.hid (fun (V : World) (hV : Below wr.heap.size wr V) => HYY.out k V hlt (HST.out k _ _ hJ hV))
        have next : ∀ V W3, Below wr.heap.size wr V -> J (k + 1) W3 -> KeepAt (pairS Bx By B) V W3 -> (∃ k' : Nat, (Value.int .i64 ((k : Int) + 1)) = .int .i64 k' /\ k' <= es.length /\ J k' W3 /\ W3.cell? ⟨Bx, 0, none⟩ = some (.slice A es.length c) /\ W3.cell? ⟨By, 0, none⟩ = some (.slice A' fs.length c') /\ Rq W3 B A es /\ Rq W3 B A' fs) :=
          fun V W3 hV hJ3 hk3 => ⟨k + 1, by simp, by omega, hJ3, (hk3 _ (.inl rfl)).trans ((hV.cell (p := ⟨Bx, 0, none⟩) klx).trans cx), (hk3 _ (.inr (.inl rfl))).trans ((hV.cell (p := ⟨By, 0, none⟩) kly).trans cy), (rx.grow hV).keepAt (fun p hp => .inr (.inr hp)) hk3, (ry.grow hV).keepAt (fun p hp => .inr (.inr hp)) hk3⟩
        have NEXT := Lib.hid next
        have HEND := Lib.hid hlt
        have CX := Lib.hid (fun (V : World) (hV : Below wr.heap.size wr V) => (hV.cell (p := ⟨Bx, 0, none⟩) klx).trans cx)
        have CY := Lib.hid (fun (V : World) (hV : Below wr.heap.size wr V) => (hV.cell (p := ⟨By, 0, none⟩) kly).trans cy)
        clear next rx ry cx cy hlt klx kly
        obtain ⟨X, hX⟩ : ∃ X, (es.getD k E4.z).v = X := ⟨_, rfl⟩
        obtain ⟨Y, hY⟩ : ∃ Y, (fs.getD k E4.z).v = Y := ⟨_, rfl⟩
        unfold vpairE at HJ
        rw [hX] at HX HJ
        rw [hY] at HY HJ
        clear hX hY
        gi_wp2_with fail
        refine wpIn_region_any follows ?_
        refine wpAnyIn_take (i := 0) (v := .func (.yield l) #[] #[]) rfl rfl (by kernel_rfl) (by kernel_rfl) (by kernel_rfl) (fun _ _ _ h => h) ⟨Or.inl ⟨by rfl, fun w => by go_simp⟩, fun _ => rfl⟩ ?_
        refine wpAnyIn_take (i := 2) (v := .int .i64 (k : Int)) rfl rfl (by kernel_rfl) (by kernel_rfl) (by kernel_rfl) (fun _ _ _ h => h) ⟨Or.inl ⟨by rfl, fun w => by go_simp⟩, fun _ => rfl⟩ ?_
        refine wpAnyIn_take (i := 5) (v := .int .i64 (k : Int)) rfl rfl (by kernel_rfl) (by kernel_rfl) (by kernel_rfl) (fun _ _ _ h => h) ⟨Or.inl ⟨by rfl, fun w => by go_simp⟩, fun _ => rfl⟩ ?_
        refine dagInE 6 #[true, false, true, false, false, true, false, false, false] ⟨#[.func (.yield l) #[] #[], .pointer (some ⟨Bx, 0, none⟩), .pointer (some ⟨By, 0, none⟩), undef, .int .i64 (k : Int), .slice A es.length c, .int .i64 (es.length : Int), .slice A' fs.length c', .int .i64 (fs.length : Int), .int .i64 (max (es.length : Int) (fs.length : Int)), .int .i64 (k : Int), .bool true, .int .i64 (k : Int), .func (.yield l) #[] #[], u14, .int .i64 (k : Int), u16, u17, .int .i64 (k : Int), u19, u20, u21, u22], []⟩ (by kernel_rfl) (by kernel_rfl) (by rfl) (fun G up dn => ?_)
        have S1346 : ∀ V, Below wr.heap.size wr V -> G 2 #[true, true, true, true, true, true, true, false, false] ⟨#[.func (.yield l) #[] #[], .pointer (some ⟨Bx, 0, none⟩), .pointer (some ⟨By, 0, none⟩), undef, .int .i64 (k : Int), .slice A es.length c, .int .i64 (es.length : Int), .slice A' fs.length c', .int .i64 (fs.length : Int), .int .i64 (max (es.length : Int) (fs.length : Int)), .int .i64 (k : Int), .bool true, .int .i64 (k : Int), .func (.yield l) #[] #[], .slice A es.length c, .int .i64 (k : Int), X, .slice A' fs.length c', .int .i64 (k : Int), Y, u20, u21, u22], []⟩ V := by
          intro V hV
          refine up ?_
          obtain ⟨fn, tmps, assign, body, hyy, hR⟩ := HJ.out V hV
          refine wpAnyIn_ready (rs := [7]) (by kernel_rfl) (by simp) (AllReadyIn.cons rfl (fun K hK => ?_) AllReadyIn.nil)
          go_simp
          gi_wp2
          refine hR.mono ?_
          rintro e W3 (⟨rfl, hJ3, hk3⟩ | ⟨rfl, hJx3⟩)
          · refine hK _ _ ?_
            clear hK K
            refine wpAnyIn_ready (rs := [8]) (by kernel_rfl) (by simp) (AllReadyIn.cons rfl (fun K hK => ?_) AllReadyIn.nil)
            go_simp
            refine hK _ _ ?_
            clear hK K
            refine wpAnyIn_done (by kernel_rfl) ?_ _
            gi_wp2
            go_roundw
            case rel => exact NEXT.out V W3 hV hJ3 hk3
            case measure => have := HEND.out; simp [intOf]; omega
          · refine hK _ _ ?_
            clear hK K
            refine wpAnyIn_ready (rs := [8]) (by kernel_rfl) (by simp) (AllReadyIn.cons rfl (fun K hK => ?_) AllReadyIn.nil)
            go_simp
            refine hK _ _ ?_
            clear hK K
            refine wpAnyIn_done (by kernel_rfl) ?_ _
            gi_wp2
            refine bodyPost_ret (results_none rfl _ _ _) rfl ?_
            exact ⟨⟨_, rfl⟩, .inr ⟨k, HEND.out, hJx3⟩⟩
        have S134 : ∀ V, Below wr.heap.size wr V -> G 3 #[true, true, true, true, true, true, false, false, false] ⟨#[.func (.yield l) #[] #[], .pointer (some ⟨Bx, 0, none⟩), .pointer (some ⟨By, 0, none⟩), undef, .int .i64 (k : Int), .slice A es.length c, .int .i64 (es.length : Int), .slice A' fs.length c', .int .i64 (fs.length : Int), .int .i64 (max (es.length : Int) (fs.length : Int)), .int .i64 (k : Int), .bool true, .int .i64 (k : Int), .func (.yield l) #[] #[], .slice A es.length c, .int .i64 (k : Int), X, .slice A' fs.length c', .int .i64 (k : Int), u19, u20, u21, u22], []⟩ V := by
          intro V hV
          refine up ?_
          refine wpAnyIn_ready (rs := [6]) (by kernel_rfl) (by simp) (AllReadyIn.cons rfl (fun K hK => ?_) AllReadyIn.nil)
          go_simp
          gi_wp2_with (refine ⟨trivial, ?_⟩; gi_at_call 49; refine (callsIn_wide.2 (HY.out V hV)).mono ?_; rintro e w' ⟨rfl, bb⟩)
          exact dn (S1346 _ (hV.trans (bb.mono hV.size)))
        have S14 : ∀ V, Below wr.heap.size wr V -> G 4 #[true, true, true, false, true, true, false, false, false] ⟨#[.func (.yield l) #[] #[], .pointer (some ⟨Bx, 0, none⟩), .pointer (some ⟨By, 0, none⟩), undef, .int .i64 (k : Int), .slice A es.length c, .int .i64 (es.length : Int), .slice A' fs.length c', .int .i64 (fs.length : Int), .int .i64 (max (es.length : Int) (fs.length : Int)), .int .i64 (k : Int), .bool true, .int .i64 (k : Int), .func (.yield l) #[] #[], .slice A es.length c, .int .i64 (k : Int), u16, .slice A' fs.length c', .int .i64 (k : Int), u19, u20, u21, u22], []⟩ V := by
          intro V hV
          refine up ?_
          refine wpAnyIn_ready (rs := [3]) (by kernel_rfl) (by simp) (AllReadyIn.cons rfl (fun K hK => ?_) AllReadyIn.nil)
          go_simp
          gi_wp2_with (refine ⟨trivial, ?_⟩; gi_at_call 49; refine (callsIn_wide.2 (HX.out V hV)).mono ?_; rintro e w' ⟨rfl, bb⟩)
          exact dn (S134 _ (hV.trans (bb.mono hV.size)))
        have S13 : ∀ V, Below wr.heap.size wr V -> G 4 #[true, true, true, true, false, true, false, false, false] ⟨#[.func (.yield l) #[] #[], .pointer (some ⟨Bx, 0, none⟩), .pointer (some ⟨By, 0, none⟩), undef, .int .i64 (k : Int), .slice A es.length c, .int .i64 (es.length : Int), .slice A' fs.length c', .int .i64 (fs.length : Int), .int .i64 (max (es.length : Int) (fs.length : Int)), .int .i64 (k : Int), .bool true, .int .i64 (k : Int), .func (.yield l) #[] #[], .slice A es.length c, .int .i64 (k : Int), X, u17, .int .i64 (k : Int), u19, u20, u21, u22], []⟩ V := by
          intro V hV
          refine up ?_
          refine wpAnyIn_ready (rs := [4]) (by kernel_rfl) (by simp) (AllReadyIn.cons rfl (fun K hK => ?_) AllReadyIn.nil)
          have cc := CY.out V hV
          go_simp
          refine hK _ _ ?_
          exact dn (S134 V hV)
        have S1 : ∀ V, Below wr.heap.size wr V -> G 5 #[true, true, true, false, false, true, false, false, false] ⟨#[.func (.yield l) #[] #[], .pointer (some ⟨Bx, 0, none⟩), .pointer (some ⟨By, 0, none⟩), undef, .int .i64 (k : Int), .slice A es.length c, .int .i64 (es.length : Int), .slice A' fs.length c', .int .i64 (fs.length : Int), .int .i64 (max (es.length : Int) (fs.length : Int)), .int .i64 (k : Int), .bool true, .int .i64 (k : Int), .func (.yield l) #[] #[], .slice A es.length c, .int .i64 (k : Int), u16, u17, .int .i64 (k : Int), u19, u20, u21, u22], []⟩ V := by
          intro V hV
          refine up ?_
          refine wpAnyIn_ready (rs := [3, 4]) (by kernel_rfl) (by simp) (AllReadyIn.cons rfl (fun K hK => ?_) (AllReadyIn.cons rfl (fun K hK => ?_) AllReadyIn.nil))
          · go_simp
            gi_wp2_with (refine ⟨trivial, ?_⟩; gi_at_call 49; refine (callsIn_wide.2 (HX.out V hV)).mono ?_; rintro e w' ⟨rfl, bb⟩)
            exact dn (S13 _ (hV.trans (bb.mono hV.size)))
          · have cc := CY.out V hV
            go_simp
            refine hK _ _ ?_
            exact dn (S14 V hV)
        have S4 : ∀ V, Below wr.heap.size wr V -> G 5 #[true, false, true, false, true, true, false, false, false] ⟨#[.func (.yield l) #[] #[], .pointer (some ⟨Bx, 0, none⟩), .pointer (some ⟨By, 0, none⟩), undef, .int .i64 (k : Int), .slice A es.length c, .int .i64 (es.length : Int), .slice A' fs.length c', .int .i64 (fs.length : Int), .int .i64 (max (es.length : Int) (fs.length : Int)), .int .i64 (k : Int), .bool true, .int .i64 (k : Int), .func (.yield l) #[] #[], u14, .int .i64 (k : Int), u16, .slice A' fs.length c', .int .i64 (k : Int), u19, u20, u21, u22], []⟩ V := by
          intro V hV
          refine up ?_
          refine wpAnyIn_ready (rs := [1]) (by kernel_rfl) (by simp) (AllReadyIn.cons rfl (fun K hK => ?_) AllReadyIn.nil)
          have cc := CX.out V hV
          go_simp
          refine hK _ _ ?_
          exact dn (S14 V hV)
        have S : ∀ V, Below wr.heap.size wr V -> G 6 #[true, false, true, false, false, true, false, false, false] ⟨#[.func (.yield l) #[] #[], .pointer (some ⟨Bx, 0, none⟩), .pointer (some ⟨By, 0, none⟩), undef, .int .i64 (k : Int), .slice A es.length c, .int .i64 (es.length : Int), .slice A' fs.length c', .int .i64 (fs.length : Int), .int .i64 (max (es.length : Int) (fs.length : Int)), .int .i64 (k : Int), .bool true, .int .i64 (k : Int), .func (.yield l) #[] #[], u14, .int .i64 (k : Int), u16, u17, .int .i64 (k : Int), u19, u20, u21, u22], []⟩ V := by
          intro V hV
          refine up ?_
          refine wpAnyIn_ready (rs := [1, 4]) (by kernel_rfl) (by simp) (AllReadyIn.cons rfl (fun K hK => ?_) (AllReadyIn.cons rfl (fun K hK => ?_) AllReadyIn.nil))
          · have cc := CX.out V hV
            go_simp
            refine hK _ _ ?_
            exact dn (S1 V hV)
          · have cc := CY.out V hV
            go_simp
            refine hK _ _ ?_
            exact dn (S4 V hV)
        exact S _ (Below.refl _ _).drew
      · obtain rfl : k = es.length := by omega
        gi_wp2
        go_end0
        exact ⟨⟨_, rfl⟩, .inl hJ⟩
  · obtain rfl : N = fs.length := by omega
    clear hN
    gi_wp2
    gi_loopw [10] (fun i wr => ∃ k : Nat, i = .int .i64 k /\ k <= fs.length /\ J k wr /\ wr.cell? ⟨Bx, 0, none⟩ = some (.slice A es.length c) /\ wr.cell? ⟨By, 0, none⟩ = some (.slice A' fs.length c') /\ Rq wr B A es /\ Rq wr B A' fs)
      (fun i _ => fs.length - (intOf i).toNat)
    case atStart => exact ⟨0, rfl, Nat.zero_le _, h0, hbx, hby, hx, hy⟩
    case round =>
      obtain ⟨k, rfl, hk, hJ, cx, cy, rx, ry⟩ := hrel
      clear hbx hby hx hy h0
      have klx : Bx < wr.heap.size := World.block_lt_of_cell? wr _ cx
      have kly : By < wr.heap.size := World.block_lt_of_cell? wr _ cy
      by_cases hlt : k < fs.length
      · have hlt' : (k : Int) < (fs.length : Nat) := by omega
        have hdec : decide ((k : Int) < max (es.length : Int) (fs.length : Int)) = true := decide_eq_true (by omega)
        have HX := Lib.hid (fun (V : World) (hV : Below wr.heap.size wr V) => at_v (c := c) (k := k) (rx.grow hV) QX.out HX63.out)
        have HY := Lib.hid (fun (V : World) (hV : Below wr.heap.size wr V) => at_v (c := c') (k := k) (ry.grow hV) QY.out HY63.out)
        have HJ := Lib.hid (fun (V : World) (hV : Below wr.heap.size wr V) => HYY.out k V hlt (HST.out k _ _ hJ hV))
        have next : ∀ V W3, Below wr.heap.size wr V -> J (k + 1) W3 -> KeepAt (pairS Bx By B) V W3 -> (∃ k' : Nat, (Value.int .i64 ((k : Int) + 1)) = .int .i64 k' /\ k' <= fs.length /\ J k' W3 /\ W3.cell? ⟨Bx, 0, none⟩ = some (.slice A es.length c) /\ W3.cell? ⟨By, 0, none⟩ = some (.slice A' fs.length c') /\ Rq W3 B A es /\ Rq W3 B A' fs) :=
          fun V W3 hV hJ3 hk3 => ⟨k + 1, by simp, by omega, hJ3, (hk3 _ (.inl rfl)).trans ((hV.cell (p := ⟨Bx, 0, none⟩) klx).trans cx), (hk3 _ (.inr (.inl rfl))).trans ((hV.cell (p := ⟨By, 0, none⟩) kly).trans cy), (rx.grow hV).keepAt (fun p hp => .inr (.inr hp)) hk3, (ry.grow hV).keepAt (fun p hp => .inr (.inr hp)) hk3⟩
        have NEXT := Lib.hid next
        have HEND := Lib.hid hlt
        have CX := Lib.hid (fun (V : World) (hV : Below wr.heap.size wr V) => (hV.cell (p := ⟨Bx, 0, none⟩) klx).trans cx)
        have CY := Lib.hid (fun (V : World) (hV : Below wr.heap.size wr V) => (hV.cell (p := ⟨By, 0, none⟩) kly).trans cy)
        clear next rx ry cx cy hlt klx kly
        obtain ⟨X, hX⟩ : ∃ X, (es.getD k E4.z).v = X := ⟨_, rfl⟩
        obtain ⟨Y, hY⟩ : ∃ Y, (fs.getD k E4.z).v = Y := ⟨_, rfl⟩
        unfold vpairE at HJ
        rw [hX] at HX HJ
        rw [hY] at HY HJ
        clear hX hY
        gi_wp2_with fail
        refine wpIn_region_any follows ?_
        refine wpAnyIn_take (i := 0) (v := .func (.yield l) #[] #[]) rfl rfl (by kernel_rfl) (by kernel_rfl) (by kernel_rfl) (fun _ _ _ h => h) ⟨Or.inl ⟨by rfl, fun w => by go_simp⟩, fun _ => rfl⟩ ?_
        refine wpAnyIn_take (i := 2) (v := .int .i64 (k : Int)) rfl rfl (by kernel_rfl) (by kernel_rfl) (by kernel_rfl) (fun _ _ _ h => h) ⟨Or.inl ⟨by rfl, fun w => by go_simp⟩, fun _ => rfl⟩ ?_
        refine wpAnyIn_take (i := 5) (v := .int .i64 (k : Int)) rfl rfl (by kernel_rfl) (by kernel_rfl) (by kernel_rfl) (fun _ _ _ h => h) ⟨Or.inl ⟨by rfl, fun w => by go_simp⟩, fun _ => rfl⟩ ?_
        refine dagInE 6 #[true, false, true, false, false, true, false, false, false] ⟨#[.func (.yield l) #[] #[], .pointer (some ⟨Bx, 0, none⟩), .pointer (some ⟨By, 0, none⟩), undef, .int .i64 (k : Int), .slice A es.length c, .int .i64 (es.length : Int), .slice A' fs.length c', .int .i64 (fs.length : Int), .int .i64 (max (es.length : Int) (fs.length : Int)), .int .i64 (k : Int), .bool true, .int .i64 (k : Int), .func (.yield l) #[] #[], u14, .int .i64 (k : Int), u16, u17, .int .i64 (k : Int), u19, u20, u21, u22], []⟩ (by kernel_rfl) (by kernel_rfl) (by rfl) (fun G up dn => ?_)
        have S1346 : ∀ V, Below wr.heap.size wr V -> G 2 #[true, true, true, true, true, true, true, false, false] ⟨#[.func (.yield l) #[] #[], .pointer (some ⟨Bx, 0, none⟩), .pointer (some ⟨By, 0, none⟩), undef, .int .i64 (k : Int), .slice A es.length c, .int .i64 (es.length : Int), .slice A' fs.length c', .int .i64 (fs.length : Int), .int .i64 (max (es.length : Int) (fs.length : Int)), .int .i64 (k : Int), .bool true, .int .i64 (k : Int), .func (.yield l) #[] #[], .slice A es.length c, .int .i64 (k : Int), X, .slice A' fs.length c', .int .i64 (k : Int), Y, u20, u21, u22], []⟩ V := by
          intro V hV
          refine up ?_
          obtain ⟨fn, tmps, assign, body, hyy, hR⟩ := HJ.out V hV
          refine wpAnyIn_ready (rs := [7]) (by kernel_rfl) (by simp) (AllReadyIn.cons rfl (fun K hK => ?_) AllReadyIn.nil)
          go_simp
          gi_wp2
          refine hR.mono ?_
          rintro e W3 (⟨rfl, hJ3, hk3⟩ | ⟨rfl, hJx3⟩)
          · refine hK _ _ ?_
            clear hK K
            refine wpAnyIn_ready (rs := [8]) (by kernel_rfl) (by simp) (AllReadyIn.cons rfl (fun K hK => ?_) AllReadyIn.nil)
            go_simp
            refine hK _ _ ?_
            clear hK K
            refine wpAnyIn_done (by kernel_rfl) ?_ _
            gi_wp2
            go_roundw
            case rel => exact NEXT.out V W3 hV hJ3 hk3
            case measure => have := HEND.out; simp [intOf]; omega
          · refine hK _ _ ?_
            clear hK K
            refine wpAnyIn_ready (rs := [8]) (by kernel_rfl) (by simp) (AllReadyIn.cons rfl (fun K hK => ?_) AllReadyIn.nil)
            go_simp
            refine hK _ _ ?_
            clear hK K
            refine wpAnyIn_done (by kernel_rfl) ?_ _
            gi_wp2
            refine bodyPost_ret (results_none rfl _ _ _) rfl ?_
            exact ⟨⟨_, rfl⟩, .inr ⟨k, HEND.out, hJx3⟩⟩
        have S134 : ∀ V, Below wr.heap.size wr V -> G 3 #[true, true, true, true, true, true, false, false, false] ⟨#[.func (.yield l) #[] #[], .pointer (some ⟨Bx, 0, none⟩), .pointer (some ⟨By, 0, none⟩), undef, .int .i64 (k : Int), .slice A es.length c, .int .i64 (es.length : Int), .slice A' fs.length c', .int .i64 (fs.length : Int), .int .i64 (max (es.length : Int) (fs.length : Int)), .int .i64 (k : Int), .bool true, .int .i64 (k : Int), .func (.yield l) #[] #[], .slice A es.length c, .int .i64 (k : Int), X, .slice A' fs.length c', .int .i64 (k : Int), u19, u20, u21, u22], []⟩ V := by
          intro V hV
          refine up ?_
          refine wpAnyIn_ready (rs := [6]) (by kernel_rfl) (by simp) (AllReadyIn.cons rfl (fun K hK => ?_) AllReadyIn.nil)
          go_simp
          gi_wp2_with (refine ⟨trivial, ?_⟩; gi_at_call 49; refine (callsIn_wide.2 (HY.out V hV)).mono ?_; rintro e w' ⟨rfl, bb⟩)
          exact dn (S1346 _ (hV.trans (bb.mono hV.size)))
        have S14 : ∀ V, Below wr.heap.size wr V -> G 4 #[true, true, true, false, true, true, false, false, false] ⟨#[.func (.yield l) #[] #[], .pointer (some ⟨Bx, 0, none⟩), .pointer (some ⟨By, 0, none⟩), undef, .int .i64 (k : Int), .slice A es.length c, .int .i64 (es.length : Int), .slice A' fs.length c', .int .i64 (fs.length : Int), .int .i64 (max (es.length : Int) (fs.length : Int)), .int .i64 (k : Int), .bool true, .int .i64 (k : Int), .func (.yield l) #[] #[], .slice A es.length c, .int .i64 (k : Int), u16, .slice A' fs.length c', .int .i64 (k : Int), u19, u20, u21, u22], []⟩ V := by
          intro V hV
          refine up ?_
          refine wpAnyIn_ready (rs := [3]) (by kernel_rfl) (by simp) (AllReadyIn.cons rfl (fun K hK => ?_) AllReadyIn.nil)
          go_simp
          gi_wp2_with (refine ⟨trivial, ?_⟩; gi_at_call 49; refine (callsIn_wide.2 (HX.out V hV)).mono ?_; rintro e w' ⟨rfl, bb⟩)
          exact dn (S134 _ (hV.trans (bb.mono hV.size)))
        have S13 : ∀ V, Below wr.heap.size wr V -> G 4 #[true, true, true, true, false, true, false, false, false] ⟨#[.func (.yield l) #[] #[], .pointer (some ⟨Bx, 0, none⟩), .pointer (some ⟨By, 0, none⟩), undef, .int .i64 (k : Int), .slice A es.length c, .int .i64 (es.length : Int), .slice A' fs.length c', .int .i64 (fs.length : Int), .int .i64 (max (es.length : Int) (fs.length : Int)), .int .i64 (k : Int), .bool true, .int .i64 (k : Int), .func (.yield l) #[] #[], .slice A es.length c, .int .i64 (k : Int), X, u17, .int .i64 (k : Int), u19, u20, u21, u22], []⟩ V := by
          intro V hV
          refine up ?_
          refine wpAnyIn_ready (rs := [4]) (by kernel_rfl) (by simp) (AllReadyIn.cons rfl (fun K hK => ?_) AllReadyIn.nil)
          have cc := CY.out V hV
          go_simp
          refine hK _ _ ?_
          exact dn (S134 V hV)
        have S1 : ∀ V, Below wr.heap.size wr V -> G 5 #[true, true, true, false, false, true, false, false, false] ⟨#[.func (.yield l) #[] #[], .pointer (some ⟨Bx, 0, none⟩), .pointer (some ⟨By, 0, none⟩), undef, .int .i64 (k : Int), .slice A es.length c, .int .i64 (es.length : Int), .slice A' fs.length c', .int .i64 (fs.length : Int), .int .i64 (max (es.length : Int) (fs.length : Int)), .int .i64 (k : Int), .bool true, .int .i64 (k : Int), .func (.yield l) #[] #[], .slice A es.length c, .int .i64 (k : Int), u16, u17, .int .i64 (k : Int), u19, u20, u21, u22], []⟩ V := by
          intro V hV
          refine up ?_
          refine wpAnyIn_ready (rs := [3, 4]) (by kernel_rfl) (by simp) (AllReadyIn.cons rfl (fun K hK => ?_) (AllReadyIn.cons rfl (fun K hK => ?_) AllReadyIn.nil))
          · go_simp
            gi_wp2_with (refine ⟨trivial, ?_⟩; gi_at_call 49; refine (callsIn_wide.2 (HX.out V hV)).mono ?_; rintro e w' ⟨rfl, bb⟩)
            exact dn (S13 _ (hV.trans (bb.mono hV.size)))
          · have cc := CY.out V hV
            go_simp
            refine hK _ _ ?_
            exact dn (S14 V hV)
        have S4 : ∀ V, Below wr.heap.size wr V -> G 5 #[true, false, true, false, true, true, false, false, false] ⟨#[.func (.yield l) #[] #[], .pointer (some ⟨Bx, 0, none⟩), .pointer (some ⟨By, 0, none⟩), undef, .int .i64 (k : Int), .slice A es.length c, .int .i64 (es.length : Int), .slice A' fs.length c', .int .i64 (fs.length : Int), .int .i64 (max (es.length : Int) (fs.length : Int)), .int .i64 (k : Int), .bool true, .int .i64 (k : Int), .func (.yield l) #[] #[], u14, .int .i64 (k : Int), u16, .slice A' fs.length c', .int .i64 (k : Int), u19, u20, u21, u22], []⟩ V := by
          intro V hV
          refine up ?_
          refine wpAnyIn_ready (rs := [1]) (by kernel_rfl) (by simp) (AllReadyIn.cons rfl (fun K hK => ?_) AllReadyIn.nil)
          have cc := CX.out V hV
          go_simp
          refine hK _ _ ?_
          exact dn (S14 V hV)
        have S : ∀ V, Below wr.heap.size wr V -> G 6 #[true, false, true, false, false, true, false, false, false] ⟨#[.func (.yield l) #[] #[], .pointer (some ⟨Bx, 0, none⟩), .pointer (some ⟨By, 0, none⟩), undef, .int .i64 (k : Int), .slice A es.length c, .int .i64 (es.length : Int), .slice A' fs.length c', .int .i64 (fs.length : Int), .int .i64 (max (es.length : Int) (fs.length : Int)), .int .i64 (k : Int), .bool true, .int .i64 (k : Int), .func (.yield l) #[] #[], u14, .int .i64 (k : Int), u16, u17, .int .i64 (k : Int), u19, u20, u21, u22], []⟩ V := by
          intro V hV
          refine up ?_
          refine wpAnyIn_ready (rs := [1, 4]) (by kernel_rfl) (by simp) (AllReadyIn.cons rfl (fun K hK => ?_) (AllReadyIn.cons rfl (fun K hK => ?_) AllReadyIn.nil))
          · have cc := CX.out V hV
            go_simp
            refine hK _ _ ?_
            exact dn (S1 V hV)
          · have cc := CY.out V hV
            go_simp
            refine hK _ _ ?_
            exact dn (S4 V hV)
        exact S _ (Below.refl _ _).drew
      · obtain rfl : k = fs.length := by omega
        gi_wp2
        go_end0
        exact ⟨⟨_, rfl⟩, .inl hJ⟩
end Go.Proofs.YtcgdbdhhoomgiabGreat

namespace Go.Proofs.YtcgdbdhhoomgiabGreat
open Go.RowKit Go.Shelf
attribute [local go_sem] Oper.semAt_some

theorem wpListIn_makeq {F : Fence} {n : Nat} (w : World) {ops : Array Oper} {rest : List Oper} {o : Oper} {a : Act} {Q : Exit -> Act -> World -> Prop}
    (hg : o.guard = none) (l c : Operand) (hop : o.op = Op.makeSlice 22 l c) (N C : Nat) {L D : Int} (hl : a.eval l = .int .i64 L) (hc : a.eval c = .int .i64 D) (hL : L = (N : Int)) (hC : D = (C : Int)) (h1 : N <= C) (h2 : C <= 4398046511104)
    (hK : wpListIn F n Tryz.prog ops Q rest (a.put o.dst (.slice (some ⟨w.heap.size, 0, none⟩) N C)) (w.alloc (.cells (flat (List.replicate C E4.z)).toArray 31))) :
    wpListIn F n Tryz.prog ops Q (o :: rest) a w := by
  refine wpListIn_plain hg fun K hK' => ?_
  have hrun := make_q w N C h1 h2
  subst hL
  subst hC
  unfold Oper.wpIn
  refine ⟨?_, ?_⟩
  · simp [Oper.about, hop]
  · rw [Oper.semAt_plain F _ _ (by rw [hop]; intro c hc'; cases hc')]
    simp [execOp, hop, hl, hc, hrun, Result.andThen]
    exact hK' _ _ hK

theorem wpList_makeq (w : World) {ops : Array Oper} {rest : List Oper} {o : Oper} {a : Act} {Q : Exit -> Act -> World -> Prop}
    (hg : o.guard = none) (l c : Operand) (hop : o.op = Op.makeSlice 22 l c) (N C : Nat) {L D : Int} (hl : a.eval l = .int .i64 L) (hc : a.eval c = .int .i64 D) (hL : L = (N : Int)) (hC : D = (C : Int)) (h1 : N <= C) (h2 : C <= 4398046511104)
    (hK : wpList Tryz.prog ops Q rest (a.put o.dst (.slice (some ⟨w.heap.size, 0, none⟩) N C)) (w.alloc (.cells (flat (List.replicate C E4.z)).toArray 31))) :
    wpList Tryz.prog ops Q (o :: rest) a w := by
  refine wpList_plain hg fun K hK' => ?_
  have hrun := make_q w N C h1 h2
  subst hL
  subst hC
  unfold Oper.wp
  simp [execOp, hop, hl, hc, hrun, Result.andThen]
  exact hK' _ _ hK

/-- A block. -/
def Hp (W : World) (g : Nat) (o : Obj) : Prop := W.heap[g]? = some o
section
variable {W V : World} {g : Nat} {o : Obj}
theorem Hp.lt (h : Hp W g o) : g < W.heap.size := (Array.getElem?_eq_some_iff.1 h).1
theorem Hp.to (h : Hp W g o) (hb : Below W.heap.size W V) : Hp V g o := (hb.block g h.lt).trans h
theorem Hp.new (W : World) (cs : Array Value) (t : TypeId) : Hp (W.alloc (.cells cs t)) W.heap.size (.cells cs t (0, 0)) := World.alloc_heap_new W _
theorem Hp.alloc (h : Hp W g o) (p : Obj) : Hp (W.alloc p) g o := h.to ((Below.refl _ _).alloc (Nat.le_refl _) _)
theorem Hp.four {a b c d : Value} {t : TypeId} (h : Hp W g (.cells #[a, b, c, d] t (0, 0))) : Four W g a b c d := Four.of h
theorem Hp.one {a : Value} {t : TypeId} (h : Hp W g (.cells #[a] t (0, 0))) : W.cell? ⟨g, 0, none⟩ = some a := Boxed.cell (t := t) h
theorem Hp.grown {row : Option Nat} (h : Hp W g o) (hg : W.grownBy V row) (hr : ∀ r, row = some r -> ∃ o : Obj, W.heap[r]? = some o /\ o.isCells = false) (ho : o.isCells = true) : Hp V g o :=
  (grownBy_keeps_cells hg hr h ho).trans h
theorem Kw.grown {row : Option Nat} (hg : W.grownBy V row) (hr : ∀ r, row = some r -> ∃ o : Obj, W.heap[r]? = some o /\ o.isCells = false) : Kw W V :=
  ⟨hg.size, fun _ _ hp => cell_kept hp hg hr⟩
theorem Row.grown {es : List E4} {row : Option Nat} (h : Row W g es) (hg : W.grownBy V row) (hr : ∀ r, row = some r -> ∃ o : Obj, W.heap[r]? = some o /\ o.isCells = false) : Row V g es :=
  ⟨(grownBy_keeps_cells hg hr h.heap rfl).trans h.heap, h.fq⟩
end

/-- What lies in a row of N places behind the box H: k rationals, the i-th of them f i, in canonical form. -/
structure Acc (W : World) (H g N k : Nat) (f : Nat -> Rat) : Prop where
  box : Hp W H (.cells #[.slice (some ⟨g, 0, none⟩) k N] 22 (0, 0))
  row : ∃ fl, Row W g fl /\ fl.length = N /\ ∀ i, i < k -> Qc W (fl.getD i E4.z).a (fl.getD i E4.z).b (fl.getD i E4.z).c (fl.getD i E4.z).d (f i)

section
variable {W V : World} {H g N k : Nat} {f : Nat -> Rat}
theorem Acc.to (h : Acc W H g N k f) (hb : Below W.heap.size W V) : Acc V H g N k f := by
  obtain ⟨fl, h1, h2, h3⟩ := h.row
  exact ⟨h.box.to hb, fl, h1.to hb, h2, fun i hi => (h3 i hi).to hb⟩
theorem Acc.grown {row : Option Nat} (h : Acc W H g N k f) (hg : W.grownBy V row) (hr : ∀ r, row = some r -> ∃ o : Obj, W.heap[r]? = some o /\ o.isCells = false) : Acc V H g N k f := by
  obtain ⟨fl, h1, h2, h3⟩ := h.row
  exact ⟨h.box.grown hg hr rfl, fl, h1.grown hg hr, h2, fun i hi => (Kw.grown hg hr).qc (h3 i hi)⟩

/-- One more, by append with room and a store into the box. -/
theorem Acc.more (h : Acc W H g N k f) (hk : k < N) (hne : H ≠ g) {e : E4} (he : e.fq) (hq : Qc W e.a e.b e.c e.d (f k)) {a : Addr} {c : Nat}
    (h0 : W.cell? (a.add 0) = some e.a) (h1 : W.cell? (a.add 1) = some e.b) (h2 : W.cell? (a.add 2) = some e.c) (h3 : W.cell? (a.add 3) = some e.d) (ty : TypeId) :
    ∃ X, (Builtin.append_ #[22, 22] ty #[.slice (some ⟨g, 0, none⟩) k N, .slice (some a) 1 c]).run Tryz.prog W = .ok (.slice (some ⟨g, 0, none⟩) (k + 1) N) X /\
      Hp X H (.cells #[.slice (some ⟨g, 0, none⟩) k N] 22 (0, 0)) /\
      Acc (X.setCell ⟨H, 0, none⟩ (.slice (some ⟨g, 0, none⟩) (k + 1) N)) H g N (k + 1) f /\
      (X.setCell ⟨H, 0, none⟩ (.slice (some ⟨g, 0, none⟩) (k + 1) N)).heap.size = W.heap.size /\
      (∀ j, j ≠ g -> j ≠ H -> (X.setCell ⟨H, 0, none⟩ (.slice (some ⟨g, 0, none⟩) (k + 1) N)).heap[j]? = W.heap[j]?) /\
      (∀ B, B <= g -> B <= H -> Below B W (X.setCell ⟨H, 0, none⟩ (.slice (some ⟨g, 0, none⟩) (k + 1) N))) := by
  obtain ⟨fl, r1, rfl, r3⟩ := h.row
  have hr := append_q r1 hk he h0 h1 h2 h3 (c := c) ty
  have hrow := r1.app (n := k) he
  have kw1 : Kw W (W.setRow g (flat (fl.set k e)).toArray) := r1.kw
  obtain ⟨X, hX⟩ : ∃ X, W.setRow g (flat (fl.set k e)).toArray = X := ⟨_, rfl⟩
  have hsz : X.heap.size = W.heap.size := by rw [<- hX, setRow_size]
  have hoth : ∀ j, j ≠ g -> X.heap[j]? = W.heap[j]? := fun j hj => by rw [<- hX, setRow_other _ _ _ _ hj]
  have hbel : ∀ B, B <= g -> Below B W X := fun B hB => by rw [<- hX]; exact below_setRow (Below.refl _ _) hB _
  rw [hX] at hr hrow kw1
  have hbox : Hp X H (.cells #[.slice (some ⟨g, 0, none⟩) k fl.length] 22 (0, 0)) := (hoth H hne).trans h.box
  have hset : ∀ j, j ≠ H -> (X.setCell ⟨H, 0, none⟩ (.slice (some ⟨g, 0, none⟩) (k + 1) fl.length)).heap[j]? = X.heap[j]? := fun j hj => Below.heap_setCell X ⟨H, 0, none⟩ _ j hj
  have kw2 : Kw W (X.setCell ⟨H, 0, none⟩ (.slice (some ⟨g, 0, none⟩) (k + 1) fl.length)) := kw1.setCell hbox.one (fun n hn => by cases hn) _
  refine ⟨X, hr, hbox, ⟨Boxed.set (W := X) _ hbox, fl.set k e, hrow.keep (hset g (Ne.symm hne)), by simp, fun i hi => ?_⟩, by simpa [World.setCell] using hsz, fun j h1 h2 => (hset j h2).trans (hoth j h1), fun B h1 h2 => (hbel B h1).setCell (p := ⟨H, 0, none⟩) h2 _⟩
  by_cases hik : i = k
  · subst hik
    rw [show (fl.set i e).getD i E4.z = e from by simp [List.getD, hk]]
    exact kw2.qc hq
  · rw [show (fl.set k e).getD i E4.z = fl.getD i E4.z from by simp [List.getD, List.getElem?_set, Ne.symm hik]]
    exact kw2.qc (r3 i (by omega))
end
end Go.Proofs.YtcgdbdhhoomgiabGreat
