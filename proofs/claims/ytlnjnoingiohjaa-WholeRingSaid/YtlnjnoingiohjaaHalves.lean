/- pylonref01.halves: the digits in base 65536 of a row of words, without the zeros at the end. -/
import Derived.Test.YtlnjnoingiohjaaAdd
import Derived.Test.YtlnjnoingiohjaaRefTrim
import Derived.RegionTactic
namespace Go.Proofs.Ytlnjnoingiohjaa
open Go.RowKit Go.Shelf

def b16 : Nat := 65536
theorem b16_one : 1 < b16 := by decide

def hw : List Nat → List Nat
  | [] => []
  | d :: r => d % 65536 :: d / 65536 :: hw r

theorem hw_append (xs ys : List Nat) : hw (xs ++ ys) = hw xs ++ hw ys := by
  induction xs with
  | nil => rfl
  | cons d r ih => simp [hw, ih]
theorem hw_length (xs : List Nat) : (hw xs).length = 2 * xs.length := by
  induction xs with
  | nil => rfl
  | cons d r ih => simp [hw, ih]; omega
theorem hw_dg {xs : List Nat} (h : Dg b32 xs) : Dg b16 (hw xs) := by
  induction xs with
  | nil => exact Dg.nil
  | cons d r ih =>
    have hd := h d (by simp)
    unfold b32 at hd
    exact Dg.cons (by unfold b16; omega) (Dg.cons (by unfold b16; omega) (ih fun e he => h e (List.mem_cons_of_mem _ he)))
theorem hw_val (xs : List Nat) : val b16 (hw xs) = val b32 xs := by
  induction xs with
  | nil => rfl
  | cons d r ih =>
    rw [hw, val, val, val, ih]
    generalize val b32 r = t
    unfold b16 b32
    omega
theorem hw_take (xs : List Nat) (k : Nat) (h : k < xs.length) : hw (xs.take (k + 1)) = hw (xs.take k) ++ [xs[k] % 65536, xs[k] / 65536] := by
  rw [take_snoc xs k h, hw_append]; rfl

theorem own_shape {w : World} {base : Nat} {e : TypeId} {size n : Nat} {v : Value} {xs : List Value} (h : w.ownsRow base e size v n xs) : ∃ A c, v = .slice A n c := by
  rcases h.2 with ⟨rfl, rfl⟩ | ⟨g, cap, cur, rfl, _⟩
  · exact ⟨_, _, rfl⟩
  · exact ⟨_, _, rfl⟩

/-- append at a step of a region that draws its order, its run known (the plain walk). -/
theorem step_append_out {P : Program} {w w' : World} {ops : Array Oper} {o : Oper} {a : Act} {K : Act → World → Prop} {Q : Exit → Act → World → Prop} {E : Prop} {v u v' : Value}
    (hgd : o.guard = none) (s x : Operand) (t : TypeId) (ho : o.op = .call { callee := .builtin .append, args := #[s, x], argTypes := #[t, t] })
    (hs : a.eval s = v) (hx : a.eval x = u) (hrun : (Builtin.append_ #[t, t] o.type #[v, u]).run P w = .ok v' w') (h : K (a.put o.dst v') w') :
    if Region.wanted o (yielded ops a.tmps) = true then Oper.wp P o a w K Q else E := by
  have hw : Region.wanted o (yielded ops a.tmps) = true := by simp [Region.wanted, hgd]
  rw [if_pos hw]
  unfold Oper.wp execOp
  simp only [ho, resolve, invoke, builtin, Sem.run_bind, Sem.run_pure, Result.andThen_ok, List.map_toArray, List.map_cons, List.map_nil, hs, hx, hrun]
  exact h

theorem infoInt : (Try.prog.info? 3).map (fun i => (i.zero, i.size, i.bytes)) = some (some (.int .i64 0), 1, 8) := by kernel_rfl

set_option maxRecDepth 100000 in
set_option maxHeartbeats 4000000 in
theorem halves_any {A : Option Addr} {c : Nat} {xs : List Nat} {w : World} (hx : Arg w A c xs) :
    Calls Try.prog 46 #[.slice A xs.length c] w fun e w' => ∃ A1 c1, e = .returned (.slice A1 (dig b16 (val b32 xs)).length c1) ∧ Rd .i64 w' w'.heap.size A1 (dig b16 (val b32 xs)) ∧
      (dig b16 (val b32 xs)).length ≤ c1 ∧ c1 ≤ 9223372036854775807 ∧ Below w.heap.size w w' := by
  obtain ⟨i0, hi, hz0, hz1, hz2⟩ := info_parts infoInt
  have HX := Lib.hid hx
  have hle := hx.le
  have hcap := hx.cap
  have hsm := hx.small
  clear hx
  go_enter Try.func46, Try.ntmps46
  go_wp2
  go_loopw [3, 4] (fun v i wr => ∃ (k : Nat) (A1 : Option Addr) (c1 : Nat), v = .slice A1 (2 * k) c1 ∧ i = .int .i64 k ∧ k ≤ xs.length ∧ wr.ownsRow w.heap.size 3 1 (.slice A1 (2 * k) c1) (2 * k) (ints .i64 (hw (xs.take k))) ∧ Below w.heap.size w wr) (fun _ i _ => xs.length - (intOf i).toNat)
  case atStart => exact ⟨0, none, 0, rfl, rfl, Nat.zero_le _, by simpa [ints, hw] using World.ownsRow_nil _ _ _ _, Below.refl _ _⟩
  case round =>
    obtain ⟨k, A1, c1, rfl, rfl, hk, hown, hb⟩ := hrel
    by_cases hlt : k < xs.length
    · obtain ⟨b, o, rfl, _, hc1⟩ := (HX.out.to hb).rd.at_ hlt
      have e1 := hc1 k hlt
      have hd := HX.out.dg.at_ hlt
      unfold b32 at hd
      clear hc1
      have hki : (0 : Int) ≤ (k : Int) := by omega
      have hki' : (k : Int) < (xs.length : Int) := by omega
      obtain ⟨d, ed⟩ : ∃ d : Nat, Hid (xs[k] = d) := ⟨xs[k], rfl⟩
      rw [ed.out] at e1 hd
      have hs1 := hb.size
      obtain ⟨v', w1, hrun, hown', hgrow, _, _⟩ := run_append_own_at (P := Try.prog) (wr.drew.alloc (.cells #[.int .i64 ((d : Int) % 65536), .int .i64 ((d : Int) / 65536)] 3)) w.heap.size 50 50 3 i0 (.int .i64 0) 1 8
        Try.underlying50 hi hz0 hz1 hz2 rfl (by decide) (.slice A1 (2 * k) c1) (2 * k) _ (hown.drew.alloc _) ⟨wr.heap.size, 0, none⟩ 2 2 [.int .i64 ((d : Int) % 65536), .int .i64 ((d : Int) / 65536)] rfl (by
          intro j u hj
          have hn := Two.new wr.drew (.int .i64 ((d : Int) % 65536)) (.int .i64 ((d : Int) / 65536)) 3
          match j, hj with
          | 0, hj =>
            simp at hj; subst hj
            simpa [Addr.add] using hn.c0
          | 1, hj =>
            simp at hj; subst hj
            simpa [Addr.add] using hn.c1) (by simp [Value.oneCell']) (by unfold maxLen; omega) (by omega) (by simp; omega)
      obtain ⟨A2, c2, rfl⟩ := own_shape hown'
      rw [show 2 * k + 2 = 2 * (k + 1) from by omega] at hrun hown'
      have hnew : w1.ownsRow w.heap.size 3 1 (.slice A2 (2 * (k + 1)) c2) (2 * (k + 1)) (ints .i64 (hw (xs.take (k + 1)))) := by
        rw [hw_take xs k hlt, ed.out]
        simpa [ints] using hown'
      have hbel : Below w.heap.size w w1 := ((hb.drew).alloc (by simpa using hs1) _).grown hgrow (by simp; omega) (fun j e => (hown.lt j e).1)
      have HOWN := Lib.hid hnew
      have HB := Lib.hid hbel
      have HRUN := Lib.hid hrun
      clear hnew hbel hrun hown' hgrow hown hb hi hz0 hz1 hz2
      have g1 : ((d : Nat) : Int).tmod 65536 = (d : Int) % 65536 := IntWalk.rem_in _ _ (by omega)
      have g2 : IntKind.i64.wrap ((d : Int) % 65536) = (d : Int) % 65536 := IntWalk.i64_in _ (by omega)
      have g3 : IntKind.u32.wrap ((d : Int) / 65536) = (d : Int) / 65536 := IntWalk.u32_in _ (by omega)
      have g4 : IntKind.i64.wrap ((d : Int) / 65536) = (d : Int) / 65536 := IntWalk.i64_in _ (by omega)
      go_wp2
      refine wp_region_any (by kernel_rfl) ?_
      refine (show wpAny _ _ _ _ _ _ _ (World.drew _) from ?_)
      refine wpAny_take (i := 0) (v := .slice A1 (2 * k) c1) rfl (by kernel_rfl) (by kernel_rfl) (by kernel_rfl) (fun _ _ _ h => h) (Or.inl ⟨by rfl, fun _ => by go_simp⟩) ?_
      refine wpAny_take (i := 1) (v := .slice (some ⟨b, o, none⟩) xs.length c) rfl (by kernel_rfl) (by kernel_rfl) (by kernel_rfl) (fun _ _ _ h => h) (Or.inl ⟨by rfl, fun _ => by go_simp⟩) ?_
      refine wpAny_take (i := 2) (v := .int .i64 (k : Nat)) rfl (by kernel_rfl) (by kernel_rfl) (by kernel_rfl) (fun _ _ _ h => h) (Or.inl ⟨by rfl, fun _ => by go_simp⟩) ?_
      refine wpAny_take (i := 7) (v := .slice (some ⟨b, o, none⟩) xs.length c) rfl (by kernel_rfl) (by kernel_rfl) (by kernel_rfl) (fun _ _ _ h => h) (Or.inl ⟨by rfl, fun _ => by go_simp⟩) ?_
      refine wpAny_take (i := 8) (v := .int .i64 (k : Nat)) rfl (by kernel_rfl) (by kernel_rfl) (by kernel_rfl) (fun _ _ _ h => h) (Or.inl ⟨by rfl, fun _ => by go_simp⟩) ?_
      refine wpAny_take (i := 3) (v := .pointer (some ⟨b, o + k, none⟩)) rfl (by kernel_rfl) (by kernel_rfl) (by kernel_rfl) (fun _ _ _ h => h) (Or.inl ⟨by rfl, fun _ => by go_simp⟩) ?_
      refine wpAny_take (i := 9) (v := .pointer (some ⟨b, o + k, none⟩)) rfl (by kernel_rfl) (by kernel_rfl) (by kernel_rfl) (fun _ _ _ h => h) (Or.inl ⟨by rfl, fun _ => by go_simp⟩) ?_
      refine wpAny_ready (rs := [4, 10]) (by kernel_rfl) (by simp) (AllReady.cons rfl (fun K hK => ?_) (AllReady.cons rfl (fun K hK => ?_) AllReady.nil))
      · go_simp; refine hK _ _ ?_; clear hK K
        refine wpAny_take (i := 5) (v := .int .u32 ((d : Nat) % 65536)) rfl (by kernel_rfl) (by kernel_rfl) (by kernel_rfl) (fun _ _ _ h => h) (Or.inl ⟨by rfl, fun _ => by go_simp⟩) ?_
        refine wpAny_take (i := 6) (v := .int .i64 ((d : Nat) % 65536)) rfl (by kernel_rfl) (by kernel_rfl) (by kernel_rfl) (fun _ _ _ h => h) (Or.inl ⟨by rfl, fun _ => by go_simp⟩) ?_
        refine wpAny_ready (rs := [10]) (by kernel_rfl) (by simp) (AllReady.cons rfl (fun K hK => ?_) AllReady.nil)
        go_simp; refine hK _ _ ?_; clear hK K
        refine wpAny_take (i := 11) (v := .int .u32 ((d : Nat) / 65536)) rfl (by kernel_rfl) (by kernel_rfl) (by kernel_rfl) (fun _ _ _ h => h) (Or.inl ⟨by rfl, fun _ => by go_simp⟩) ?_
        refine wpAny_take (i := 12) (v := .int .i64 ((d : Nat) / 65536)) rfl (by kernel_rfl) (by kernel_rfl) (by kernel_rfl) (fun _ _ _ h => h) (Or.inl ⟨by rfl, fun _ => by go_simp⟩) ?_
        refine wpAny_ready (rs := [13]) (by kernel_rfl) (by simp) (AllReady.cons rfl (fun K hK => ?_) AllReady.nil)
        go_simp; refine hK _ _ ?_; clear hK K
        refine wpAny_ready (rs := [14]) (by kernel_rfl) (by simp) (AllReady.cons rfl (fun K hK => ?_) AllReady.nil)
        refine step_append_out rfl (.tmp 11) (.tmp 24) 50 rfl (by rfl) (by rfl) HRUN.out ?_
        refine hK _ _ ?_; clear hK K
        refine wpAny_ready (rs := [15]) (by kernel_rfl) (by simp) (AllReady.cons rfl (fun K hK => ?_) AllReady.nil)
        go_simp; refine hK _ _ ?_; clear hK K
        refine wpAny_done (by kernel_rfl) ?_ _
        clear g1 g2 g3 g4
        go_wp2
        go_roundw
        case rel => exact ⟨k + 1, A2, c2, rfl, by simp, by omega, HOWN.out, HB.out⟩
        case measure => simp [intOf]; omega
      · go_simp; refine hK _ _ ?_; clear hK K
        refine wpAny_take (i := 11) (v := .int .u32 ((d : Nat) / 65536)) rfl (by kernel_rfl) (by kernel_rfl) (by kernel_rfl) (fun _ _ _ h => h) (Or.inl ⟨by rfl, fun _ => by go_simp⟩) ?_
        refine wpAny_take (i := 12) (v := .int .i64 ((d : Nat) / 65536)) rfl (by kernel_rfl) (by kernel_rfl) (by kernel_rfl) (fun _ _ _ h => h) (Or.inl ⟨by rfl, fun _ => by go_simp⟩) ?_
        refine wpAny_ready (rs := [4]) (by kernel_rfl) (by simp) (AllReady.cons rfl (fun K hK => ?_) AllReady.nil)
        go_simp; refine hK _ _ ?_; clear hK K
        refine wpAny_take (i := 5) (v := .int .u32 ((d : Nat) % 65536)) rfl (by kernel_rfl) (by kernel_rfl) (by kernel_rfl) (fun _ _ _ h => h) (Or.inl ⟨by rfl, fun _ => by go_simp⟩) ?_
        refine wpAny_take (i := 6) (v := .int .i64 ((d : Nat) % 65536)) rfl (by kernel_rfl) (by kernel_rfl) (by kernel_rfl) (fun _ _ _ h => h) (Or.inl ⟨by rfl, fun _ => by go_simp⟩) ?_
        refine wpAny_ready (rs := [13]) (by kernel_rfl) (by simp) (AllReady.cons rfl (fun K hK => ?_) AllReady.nil)
        go_simp; refine hK _ _ ?_; clear hK K
        refine wpAny_ready (rs := [14]) (by kernel_rfl) (by simp) (AllReady.cons rfl (fun K hK => ?_) AllReady.nil)
        refine step_append_out rfl (.tmp 11) (.tmp 24) 50 rfl (by rfl) (by rfl) HRUN.out ?_
        refine hK _ _ ?_; clear hK K
        refine wpAny_ready (rs := [15]) (by kernel_rfl) (by simp) (AllReady.cons rfl (fun K hK => ?_) AllReady.nil)
        go_simp; refine hK _ _ ?_; clear hK K
        refine wpAny_done (by kernel_rfl) ?_ _
        clear g1 g2 g3 g4
        go_wp2
        go_roundw
        case rel => exact ⟨k + 1, A2, c2, rfl, by simp, by omega, HOWN.out, HB.out⟩
        case measure => simp [intOf]; omega
    · obtain rfl : k = xs.length := by omega
      rw [List.take_of_length_le (Nat.le_refl _)] at hown
      obtain ⟨A2, c2, e2, h1, h2, h3⟩ := Sl.of_own hown
      rw [e2]
      have hdg := hw_dg HX.out.dg
      have HS := Lib.hid (Sl.trim b16_one h1 hdg h2 h3)
      rw [hw_val] at HS
      have HB := Lib.hid hb
      have HT := Lib.hid (rtrim_any A2 c2 _ _ _ h1 h2 h3)
      clear hown h1 hdg hb
      go_wp2_with fail
      refine HT.out.mono ?_
      rintro e w' ⟨rfl, rfl⟩
      go_wp2
      go_ret
      obtain ⟨A3, c3, e, t1, t2, t3⟩ := HS.out
      exact ⟨A3, c3, congrArg Ending.returned e, t1, t2, t3, HB.out⟩
end Go.Proofs.Ytlnjnoingiohjaa
