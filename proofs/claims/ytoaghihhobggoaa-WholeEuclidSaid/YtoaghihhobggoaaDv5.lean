/- Parts: RefTrim, Halves, Of, RefAdd, RefTimes, RefSmall. -/
import Derived.Test.YtoaghihhobggoaaDv1
import Derived.Test.YtoaghihhobggoaaDv4
import Derived.Maps.AppendAt
import Derived.RegionTactic
set_option linter.unusedVariables false

namespace Go.Proofs.Ytoaghihhobggoaa
open Go.RowKit

set_option maxHeartbeats 400000 in
theorem rtrim_any (A : Option Addr) (c B : Nat) (xs : List Nat) (w : World) (hr : Rd .i64 w B A xs) (hlc : xs.length ≤ c) (hc : c ≤ 9223372036854775807) :
    Calls Try.prog 70 #[.slice A xs.length c] w fun e w' => e = .returned (.slice A (trimN xs) c) ∧ w = w' := by
  go_enter Try.func70, Try.ntmps70
  go_wp2
  go_loop [3] (fun n => ∃ k : Nat, k ≤ xs.length ∧ trimN (xs.take k) = trimN xs ∧ n = .int .i64 k) (fun n => (intOf n).toNat)
  case atStart => exact ⟨xs.length, Nat.le_refl _, by rw [List.take_length], rfl⟩
  case round =>
    obtain ⟨k, hk, ht, rfl⟩ := hrel
    have HT := Lib.hid ht
    clear ht
    rcases Nat.eq_zero_or_pos k with h0 | h0
    · subst h0
      go_wp2
      go_ret
      exact ⟨ret_slice (by rw [← HT.out]; simp [trimN]), rfl⟩
    · obtain ⟨j, rfl⟩ : ∃ j, k = j + 1 := ⟨k - 1, by omega⟩
      have hj : j < xs.length := by omega
      obtain ⟨b, o, rfl, hb, hcell⟩ := hr.at_ hj
      have hcj := hcell j hj
      by_cases hz : xs[j] = 0
      · rw [hz] at hcj
        have HZ := Lib.hid hz
        clear hz hcell
        go_wp2
        go_round
        case rel => exact ⟨j, by omega, by rw [← HT.out, trimN_step_zero xs j hj HZ.out], rfl⟩
        case measure => simp [intOf]
      · have HZ := Lib.hid hz
        have hz' : ((xs[j] : Int) == 0) = false := by simp [hz]
        clear hz hcell
        go_wp2
        go_ret
        exact ⟨ret_slice (by rw [← HT.out, trimN_step xs j hj HZ.out]), rfl⟩

set_option maxHeartbeats 400000 in
theorem at_any {A : Option Addr} {c : Nat} {xs : List Nat} {w : World} (hr : Rd .i64 w w.heap.size A xs) (hl : xs.length ≤ 9223372036854775807) (i : Nat) (hi : i ≤ 9223372036854775807) :
    Calls Try.prog 71 #[.slice A xs.length c, .int .i64 (i : Nat)] w fun e w' => e = .returned (.int .i64 (xs.getD i 0 : Nat)) ∧ w = w' := by
  by_cases h : i < xs.length
  · obtain ⟨b, o, rfl, _, hc⟩ := hr.at_ h
    have h1 := hc i h
    have h2 : xs.getD i 0 = xs[i] := by simp [h]
    rw [h2]
    clear hc h2 hr
    go_enter Try.func71, Try.ntmps71
    go_wp2
    go_ret
    exact ⟨rfl, rfl⟩
  · have h2 : xs.getD i 0 = 0 := by simp [Nat.le_of_not_lt h]
    rw [h2]
    clear h2 hr
    go_enter Try.func71, Try.ntmps71
    go_wp2
    go_ret
    exact ⟨rfl, rfl⟩
end Go.Proofs.Ytoaghihhobggoaa

namespace Go.Proofs.Ytoaghihhobggoaa
open Go.RowKit Go.Shelf

def b16 : Nat := 65536
theorem b16_one : 1 < b16 := by decide

def hw : List Nat → List Nat
  | [] => []
  | d :: r => d % 65536 :: d / 65536 :: hw r

theorem hw_append (xs ys : List Nat) : hw (xs ++ ys) = hw xs ++ hw ys := by
  induction xs with
  | nil => rfl
  | cons d r ih => simp [hw, ih]
theorem hw_length (xs : List Nat) : (hw xs).length = 2 * xs.length := by
  induction xs with
  | nil => rfl
  | cons d r ih => simp [hw, ih]; omega
theorem hw_dg {xs : List Nat} (h : Dg b32 xs) : Dg b16 (hw xs) := by
  induction xs with
  | nil => exact Dg.nil
  | cons d r ih =>
    have hd := h d (by simp)
    unfold b32 at hd
    exact Dg.cons (by unfold b16; omega) (Dg.cons (by unfold b16; omega) (ih fun e he => h e (List.mem_cons_of_mem _ he)))
theorem hw_val (xs : List Nat) : val b16 (hw xs) = val b32 xs := by
  induction xs with
  | nil => rfl
  | cons d r ih =>
    rw [hw, val, val, val, ih]
    generalize val b32 r = t
    unfold b16 b32
    omega
theorem hw_take (xs : List Nat) (k : Nat) (h : k < xs.length) : hw (xs.take (k + 1)) = hw (xs.take k) ++ [xs[k] % 65536, xs[k] / 65536] := by
  rw [take_snoc xs k h, hw_append]; rfl

theorem own_shape {w : World} {base : Nat} {e : TypeId} {size n : Nat} {v : Value} {xs : List Value} (h : w.ownsRow base e size v n xs) : ∃ A c, v = .slice A n c := by
  rcases h.2 with ⟨rfl, rfl⟩ | ⟨g, cap, cur, rfl, _⟩
  · exact ⟨_, _, rfl⟩
  · exact ⟨_, _, rfl⟩

/-- append at a step of a region that draws its order, its run known (the plain walk). -/
theorem step_append_out {P : Program} {w w' : World} {ops : Array Oper} {o : Oper} {a : Act} {K : Act → World → Prop} {Q : Exit → Act → World → Prop} {E : Prop} {v u v' : Value}
    (hgd : o.guard = none) (s x : Operand) (t : TypeId) (ho : o.op = .call { callee := .builtin .append, args := #[s, x], argTypes := #[t, t] })
    (hs : a.eval s = v) (hx : a.eval x = u) (hrun : (Builtin.append_ #[t, t] o.type #[v, u]).run P w = .ok v' w') (h : K (a.put o.dst v') w') :
    if Region.wanted o (yielded ops a.tmps) = true then Oper.wp P o a w K Q else E := by
  have hw : Region.wanted o (yielded ops a.tmps) = true := by simp [Region.wanted, hgd]
  rw [if_pos hw]
  unfold Oper.wp execOp
  simp only [ho, resolve, invoke, builtin, Sem.run_bind, Sem.run_pure, Result.andThen_ok, List.map_toArray, List.map_cons, List.map_nil, hs, hx, hrun]
  exact h

theorem infoInt : (Try.prog.info? 3).map (fun i => (i.zero, i.size, i.bytes)) = some (some (.int .i64 0), 1, 8) := by kernel_rfl

set_option maxRecDepth 100000 in
set_option maxHeartbeats 4000000 in
theorem halves_any {A : Option Addr} {c : Nat} {xs : List Nat} {w : World} (hx : Arg w A c xs) :
    Calls Try.prog 46 #[.slice A xs.length c] w fun e w' => ∃ A1 c1, e = .returned (.slice A1 (dig b16 (val b32 xs)).length c1) ∧ Rd .i64 w' w'.heap.size A1 (dig b16 (val b32 xs)) ∧
      (dig b16 (val b32 xs)).length ≤ c1 ∧ c1 ≤ 9223372036854775807 ∧ Below w.heap.size w w' := by
  obtain ⟨i0, hi, hz0, hz1, hz2⟩ := info_parts infoInt
  have HX := Lib.hid hx
  have hle := hx.le
  have hcap := hx.cap
  have hsm := hx.small
  clear hx
  go_enter Try.func46, Try.ntmps46
  go_wp2
  go_loopw [3, 4] (fun v i wr => ∃ (k : Nat) (A1 : Option Addr) (c1 : Nat), v = .slice A1 (2 * k) c1 ∧ i = .int .i64 k ∧ k ≤ xs.length ∧ wr.ownsRow w.heap.size 3 1 (.slice A1 (2 * k) c1) (2 * k) (ints .i64 (hw (xs.take k))) ∧ Below w.heap.size w wr) (fun _ i _ => xs.length - (intOf i).toNat)
  case atStart => exact ⟨0, none, 0, rfl, rfl, Nat.zero_le _, by simpa [ints, hw] using World.ownsRow_nil _ _ _ _, Below.refl _ _⟩
  case round =>
    obtain ⟨k, A1, c1, rfl, rfl, hk, hown, hb⟩ := hrel
    by_cases hlt : k < xs.length
    · obtain ⟨b, o, rfl, _, hc1⟩ := (HX.out.to hb).rd.at_ hlt
      have e1 := hc1 k hlt
      have hd := HX.out.dg.at_ hlt
      unfold b32 at hd
      clear hc1
      have hki : (0 : Int) ≤ (k : Int) := by omega
      have hki' : (k : Int) < (xs.length : Int) := by omega
      obtain ⟨d, ed⟩ : ∃ d : Nat, Hid (xs[k] = d) := ⟨xs[k], rfl⟩
      rw [ed.out] at e1 hd
      have hs1 := hb.size
      obtain ⟨v', w1, hrun, hown', hgrow, _, _⟩ := run_append_own_at (P := Try.prog) (wr.drew.alloc (.cells #[.int .i64 ((d : Int) % 65536), .int .i64 ((d : Int) / 65536)] 3)) w.heap.size 50 50 3 i0 (.int .i64 0) 1 8
        Try.underlying50 hi hz0 hz1 hz2 rfl (by decide) (.slice A1 (2 * k) c1) (2 * k) _ (hown.drew.alloc _) ⟨wr.heap.size, 0, none⟩ 2 2 [.int .i64 ((d : Int) % 65536), .int .i64 ((d : Int) / 65536)] rfl (by
          intro j u hj
          have hn := Two.new wr.drew (.int .i64 ((d : Int) % 65536)) (.int .i64 ((d : Int) / 65536)) 3
          match j, hj with
          | 0, hj =>
            simp at hj; subst hj
            simpa [Addr.add] using hn.c0
          | 1, hj =>
            simp at hj; subst hj
            simpa [Addr.add] using hn.c1) (by simp [Value.oneCell']) (by unfold maxLen; omega) (by omega) (by simp; omega)
      obtain ⟨A2, c2, rfl⟩ := own_shape hown'
      rw [show 2 * k + 2 = 2 * (k + 1) from by omega] at hrun hown'
      have hnew : w1.ownsRow w.heap.size 3 1 (.slice A2 (2 * (k + 1)) c2) (2 * (k + 1)) (ints .i64 (hw (xs.take (k + 1)))) := by
        rw [hw_take xs k hlt, ed.out]
        simpa [ints] using hown'
      have hbel : Below w.heap.size w w1 := ((hb.drew).alloc (by simpa using hs1) _).grown hgrow (by simp; omega) (fun j e => (hown.lt j e).1)
      have HOWN := Lib.hid hnew
      have HB := Lib.hid hbel
      have HRUN := Lib.hid hrun
      clear hnew hbel hrun hown' hgrow hown hb hi hz0 hz1 hz2
      have g1 : ((d : Nat) : Int).tmod 65536 = (d : Int) % 65536 := IntWalk.rem_in _ _ (by omega)
      have g2 : IntKind.i64.wrap ((d : Int) % 65536) = (d : Int) % 65536 := IntWalk.i64_in _ (by omega)
      have g3 : IntKind.u32.wrap ((d : Int) / 65536) = (d : Int) / 65536 := IntWalk.u32_in _ (by omega)
      have g4 : IntKind.i64.wrap ((d : Int) / 65536) = (d : Int) / 65536 := IntWalk.i64_in _ (by omega)
      go_wp2
      refine wp_region_any (by kernel_rfl) ?_
      refine (show wpAny _ _ _ _ _ _ _ (World.drew _) from ?_)
      refine wpAny_take (i := 0) (v := .slice A1 (2 * k) c1) rfl (by kernel_rfl) (by kernel_rfl) (by kernel_rfl) (fun _ _ _ h => h) (Or.inl ⟨by rfl, fun _ => by go_simp⟩) ?_
      refine wpAny_take (i := 1) (v := .slice (some ⟨b, o, none⟩) xs.length c) rfl (by kernel_rfl) (by kernel_rfl) (by kernel_rfl) (fun _ _ _ h => h) (Or.inl ⟨by rfl, fun _ => by go_simp⟩) ?_
      refine wpAny_take (i := 2) (v := .int .i64 (k : Nat)) rfl (by kernel_rfl) (by kernel_rfl) (by kernel_rfl) (fun _ _ _ h => h) (Or.inl ⟨by rfl, fun _ => by go_simp⟩) ?_
      refine wpAny_take (i := 7) (v := .slice (some ⟨b, o, none⟩) xs.length c) rfl (by kernel_rfl) (by kernel_rfl) (by kernel_rfl) (fun _ _ _ h => h) (Or.inl ⟨by rfl, fun _ => by go_simp⟩) ?_
      refine wpAny_take (i := 8) (v := .int .i64 (k : Nat)) rfl (by kernel_rfl) (by kernel_rfl) (by kernel_rfl) (fun _ _ _ h => h) (Or.inl ⟨by rfl, fun _ => by go_simp⟩) ?_
      refine wpAny_take (i := 3) (v := .pointer (some ⟨b, o + k, none⟩)) rfl (by kernel_rfl) (by kernel_rfl) (by kernel_rfl) (fun _ _ _ h => h) (Or.inl ⟨by rfl, fun _ => by go_simp⟩) ?_
      refine wpAny_take (i := 9) (v := .pointer (some ⟨b, o + k, none⟩)) rfl (by kernel_rfl) (by kernel_rfl) (by kernel_rfl) (fun _ _ _ h => h) (Or.inl ⟨by rfl, fun _ => by go_simp⟩) ?_
      refine wpAny_ready (rs := [4, 10]) (by kernel_rfl) (by simp) (AllReady.cons rfl (fun K hK => ?_) (AllReady.cons rfl (fun K hK => ?_) AllReady.nil))
      · go_simp; refine hK _ _ ?_; clear hK K
        refine wpAny_take (i := 5) (v := .int .u32 ((d : Nat) % 65536)) rfl (by kernel_rfl) (by kernel_rfl) (by kernel_rfl) (fun _ _ _ h => h) (Or.inl ⟨by rfl, fun _ => by go_simp⟩) ?_
        refine wpAny_take (i := 6) (v := .int .i64 ((d : Nat) % 65536)) rfl (by kernel_rfl) (by kernel_rfl) (by kernel_rfl) (fun _ _ _ h => h) (Or.inl ⟨by rfl, fun _ => by go_simp⟩) ?_
        refine wpAny_ready (rs := [10]) (by kernel_rfl) (by simp) (AllReady.cons rfl (fun K hK => ?_) AllReady.nil)
        go_simp; refine hK _ _ ?_; clear hK K
        refine wpAny_take (i := 11) (v := .int .u32 ((d : Nat) / 65536)) rfl (by kernel_rfl) (by kernel_rfl) (by kernel_rfl) (fun _ _ _ h => h) (Or.inl ⟨by rfl, fun _ => by go_simp⟩) ?_
        refine wpAny_take (i := 12) (v := .int .i64 ((d : Nat) / 65536)) rfl (by kernel_rfl) (by kernel_rfl) (by kernel_rfl) (fun _ _ _ h => h) (Or.inl ⟨by rfl, fun _ => by go_simp⟩) ?_
        refine wpAny_ready (rs := [13]) (by kernel_rfl) (by simp) (AllReady.cons rfl (fun K hK => ?_) AllReady.nil)
        go_simp; refine hK _ _ ?_; clear hK K
        refine wpAny_ready (rs := [14]) (by kernel_rfl) (by simp) (AllReady.cons rfl (fun K hK => ?_) AllReady.nil)
        refine step_append_out rfl (.tmp 11) (.tmp 24) 50 rfl (by rfl) (by rfl) HRUN.out ?_
        refine hK _ _ ?_; clear hK K
        refine wpAny_ready (rs := [15]) (by kernel_rfl) (by simp) (AllReady.cons rfl (fun K hK => ?_) AllReady.nil)
        go_simp; refine hK _ _ ?_; clear hK K
        refine wpAny_done (by kernel_rfl) ?_ _
        clear g1 g2 g3 g4
        go_wp2
        go_roundw
        case rel => exact ⟨k + 1, A2, c2, rfl, by simp, by omega, HOWN.out, HB.out⟩
        case measure => simp [intOf]; omega
      · go_simp; refine hK _ _ ?_; clear hK K
        refine wpAny_take (i := 11) (v := .int .u32 ((d : Nat) / 65536)) rfl (by kernel_rfl) (by kernel_rfl) (by kernel_rfl) (fun _ _ _ h => h) (Or.inl ⟨by rfl, fun _ => by go_simp⟩) ?_
        refine wpAny_take (i := 12) (v := .int .i64 ((d : Nat) / 65536)) rfl (by kernel_rfl) (by kernel_rfl) (by kernel_rfl) (fun _ _ _ h => h) (Or.inl ⟨by rfl, fun _ => by go_simp⟩) ?_
        refine wpAny_ready (rs := [4]) (by kernel_rfl) (by simp) (AllReady.cons rfl (fun K hK => ?_) AllReady.nil)
        go_simp; refine hK _ _ ?_; clear hK K
        refine wpAny_take (i := 5) (v := .int .u32 ((d : Nat) % 65536)) rfl (by kernel_rfl) (by kernel_rfl) (by kernel_rfl) (fun _ _ _ h => h) (Or.inl ⟨by rfl, fun _ => by go_simp⟩) ?_
        refine wpAny_take (i := 6) (v := .int .i64 ((d : Nat) % 65536)) rfl (by kernel_rfl) (by kernel_rfl) (by kernel_rfl) (fun _ _ _ h => h) (Or.inl ⟨by rfl, fun _ => by go_simp⟩) ?_
        refine wpAny_ready (rs := [13]) (by kernel_rfl) (by simp) (AllReady.cons rfl (fun K hK => ?_) AllReady.nil)
        go_simp; refine hK _ _ ?_; clear hK K
        refine wpAny_ready (rs := [14]) (by kernel_rfl) (by simp) (AllReady.cons rfl (fun K hK => ?_) AllReady.nil)
        refine step_append_out rfl (.tmp 11) (.tmp 24) 50 rfl (by rfl) (by rfl) HRUN.out ?_
        refine hK _ _ ?_; clear hK K
        refine wpAny_ready (rs := [15]) (by kernel_rfl) (by simp) (AllReady.cons rfl (fun K hK => ?_) AllReady.nil)
        go_simp; refine hK _ _ ?_; clear hK K
        refine wpAny_done (by kernel_rfl) ?_ _
        clear g1 g2 g3 g4
        go_wp2
        go_roundw
        case rel => exact ⟨k + 1, A2, c2, rfl, by simp, by omega, HOWN.out, HB.out⟩
        case measure => simp [intOf]; omega
    · obtain rfl : k = xs.length := by omega
      rw [List.take_of_length_le (Nat.le_refl _)] at hown
      obtain ⟨A2, c2, e2, h1, h2, h3⟩ := Sl.of_own hown
      rw [e2]
      have hdg := hw_dg HX.out.dg
      have HS := Lib.hid (Sl.trim b16_one h1 hdg h2 h3)
      rw [hw_val] at HS
      have HB := Lib.hid hb
      have HT := Lib.hid (rtrim_any A2 c2 _ _ _ h1 h2 h3)
      clear hown h1 hdg hb
      go_wp2_with fail
      refine HT.out.mono ?_
      rintro e w' ⟨rfl, rfl⟩
      go_wp2
      go_ret
      obtain ⟨A3, c3, e, t1, t2, t3⟩ := HS.out
      exact ⟨A3, c3, congrArg Ending.returned e, t1, t2, t3, HB.out⟩
end Go.Proofs.Ytoaghihhobggoaa

namespace Go.Proofs.Ytoaghihhobggoaa
open Go.RowKit Go.Shelf

/-- The first k words that the digits t make, two digits a word. -/
def pks (t : List Nat) : Nat → List Nat
  | 0 => []
  | k + 1 => pks t k ++ [t.getD (2 * k) 0 + t.getD (2 * k + 1) 0 * 65536]

theorem pks_length (t : List Nat) : ∀ k, (pks t k).length = k
  | 0 => rfl
  | k + 1 => by simp [pks, pks_length t k]
theorem pks_dg {t : List Nat} (h : Dg b16 t) : ∀ k, Dg b32 (pks t k)
  | 0 => Dg.nil
  | k + 1 => by
    have h1 := getD_dg (by decide) h (2 * k)
    have h2 := getD_dg (by decide) h (2 * k + 1)
    unfold b16 at h1 h2
    exact (pks_dg h k).app (Dg.one (by unfold b32; omega))
theorem pow_2k (k : Nat) : b32 ^ k = b16 ^ (2 * k) := by rw [Nat.pow_mul]; rfl
theorem pks_val (t : List Nat) : ∀ k, val b32 (pks t k) = val b16 (t.take (2 * k))
  | 0 => by simp [pks, val]
  | k + 1 => by
    rw [pks, val_append, pks_length, pks_val t k, show 2 * (k + 1) = 2 * k + 1 + 1 from by omega, val_take_succ t (2 * k + 1), val_take_succ t (2 * k), pow_2k, Nat.pow_succ]
    simp only [val, Nat.mul_zero, Nat.add_zero]
    rw [Nat.mul_add, show b16 ^ (2 * k) * b16 * t.getD (2 * k + 1) 0 = b16 ^ (2 * k) * (t.getD (2 * k + 1) 0 * 65536) from by rw [Nat.mul_assoc, Nat.mul_comm b16]; rfl]
    omega

/-- A row without zeros at its end is not small. -/
theorem val_low {b : Nat} (hb : 0 < b) : ∀ {zs : List Nat}, trimN zs = zs.length → zs ≠ [] → b ^ (zs.length - 1) ≤ val b zs := by
  intro zs
  induction zs with
  | nil => intro _ h; exact absurd rfl h
  | cons d r ih =>
    intro ht _
    simp only [trimN, List.length_cons] at ht
    by_cases h0 : trimN r = 0
    · rw [if_pos h0] at ht
      by_cases hd : d = 0
      · rw [if_pos hd] at ht; omega
      · rw [if_neg hd] at ht
        have : r.length = 0 := by omega
        simp [this, val]; omega
    · rw [if_neg h0] at ht
      have hr : r ≠ [] := by rintro rfl; simp [trimN] at h0
      have h1 := ih (by omega) hr
      have h2 : 0 < r.length := List.length_pos_iff.2 hr
      simp only [val, List.length_cons, Nat.add_sub_cancel]
      have h3 : b ^ r.length = b * b ^ (r.length - 1) := by
        rw [Nat.mul_comm, ← Nat.pow_succ]; congr 1; omega
      have h4 := Nat.mul_le_mul_left b h1
      omega

/-- All words that the digits make, where the digits have no zeros at their end. -/
theorem pks_all {t : List Nat} (h : Dg b16 t) (ht : trimN t = t.length) {N : Nat} (h1 : t.length ≤ 2 * N) (h2 : 2 * N ≤ t.length + 1) : pks t N = dig b32 (val b16 t) := by
  have hv : val b32 (pks t N) = val b16 t := by rw [pks_val, List.take_of_length_le h1]
  have hd := pks_dg h N
  have he := trimL_dig b32_one hd
  rw [hv] at he
  rw [← he]
  have hl := trimL_length (pks t N)
  suffices trimN (pks t N) = N by
    unfold trimL
    rw [this, List.take_of_length_le (by rw [pks_length]; omega)]
  have hle := trimN_le (pks t N)
  rw [pks_length] at hle
  rcases Nat.lt_or_ge (trimN (pks t N)) N with hlt | hge
  · exfalso
    have h3 : val b32 (trimL (pks t N)) < b32 ^ trimN (pks t N) := by
      have := val_lt (hd.take (trimN (pks t N)))
      unfold trimL
      rwa [List.length_take, pks_length, Nat.min_eq_left hle] at this
    rw [val_trimL, hv] at h3
    have hne : t ≠ [] := by rintro rfl; simp at h1 h2; omega
    have h4 := val_low (b := b16) (by decide) ht hne
    rw [pow_2k] at h3
    have h5 : b16 ^ (2 * trimN (pks t N)) ≤ b16 ^ (t.length - 1) := Nat.pow_le_pow_right (by decide) (by omega)
    omega
  · omega

/-- Block g is just a Z's two cells, none frozen. -/
def Zat (W : World) (g : Nat) (a b : Value) : Prop := W.heap[g]? = some (.cells #[a, b] 24 (0, 0))
theorem Zat.two {W : World} {g : Nat} {a b : Value} (h : Zat W g a b) : Two W g a b := Two.of h
theorem Zat.new (W : World) (a b : Value) : Zat (W.alloc (.cells #[a, b] 24)) W.heap.size a b := World.alloc_heap_new W _
theorem Zat.kept {W V : World} {row : Option Nat} {g : Nat} {a b : Value} (h : Zat W g a b) (hg : W.grownBy V row) (hne : some g ≠ row) : Zat V g a b := (hg.block g h.two.lt hne).trans h
theorem Zat.alloc {W : World} {g : Nat} {a b : Value} (h : Zat W g a b) (o : Obj) : Zat (W.alloc o) g a b := (Below.heap_alloc W o g h.two.lt).trans h
theorem Zat.not_row {W : World} {g : Nat} {a b : Value} (h : Zat W g a b) {base : Nat} {e : TypeId} {size n : Nat} {v : Value} {xs : List Value} (hr : W.ownsRow base e size v n xs) (hne : 24 ≠ e) : some g ≠ v.ownBlock := by
  rcases hr.2 with ⟨rfl, _⟩ | ⟨g', cap, cur, rfl, _, hh, _⟩
  · simp [Value.ownBlock]
  · intro he
    obtain rfl : g = g' := by simpa [Value.ownBlock] using he
    rw [show W.heap[g]? = _ from h] at hh
    injection hh with hh
    injection hh with _ h2
    exact hne h2

theorem own_caps {w : World} {base : Nat} {e : TypeId} {size n c : Nat} {A : Option Addr} {xs : List Value} (h : w.ownsRow base e size (.slice A n c) n xs) : n ≤ c ∧ c ≤ 9223372036854775807 := by
  rcases h.2 with ⟨e, rfl⟩ | ⟨g, cap, cur, e, _, _, h1, h2, _⟩
  · injection e with _ _ e; subst e; exact ⟨by omega, by omega⟩
  · injection e with _ _ e; subst e; exact ⟨h1, by simpa [maxLen] using h2⟩

theorem at_int {A : Option Addr} {c : Nat} {xs : List Nat} {w : World} (hr : Rd .i64 w w.heap.size A xs) (hl : xs.length ≤ 9223372036854775807) (i : Int) (h0 : 0 ≤ i) (hi : i ≤ 9223372036854775807) :
    Calls Try.prog 71 #[.slice A xs.length c, .int .i64 i] w fun e w' => e = .returned (.int .i64 (xs.getD i.toNat 0 : Nat)) ∧ w = w' := by
  obtain ⟨n, rfl⟩ := Int.eq_ofNat_of_zero_le h0
  exact at_any hr hl n (by omega)

set_option maxRecDepth 100000 in
set_option maxHeartbeats 4000000 in
theorem of_any (neg : Bool) {A : Option Addr} {c : Nat} {h : List Nat} {w : World} (hr : Rd .i64 w w.heap.size A h) (hd : Dg b16 h) (hc : h.length ≤ c) (hcap : c ≤ 9223372036854775807) (hsm : h.length ≤ 8589934592) :
    Calls Try.prog 49 #[.bool neg, .slice A h.length c] w (ZRet w (zof neg (val b16 h))) := by
  obtain ⟨i0, hi, hz0, hz1, hz2⟩ := info_parts infoWord
  obtain ⟨t, et⟩ : ∃ t, Hid (trimL h = t) := ⟨_, rfl⟩
  have htl : t.length = trimN h := by rw [← et.out, trimL_length]
  have hsm' : t.length ≤ 8589934592 := by rw [htl]; exact Nat.le_trans (trimN_le h) hsm
  have dt : Dg b16 t := by rw [← et.out]; exact hd.take _
  have tt : trimN t = t.length := by rw [← et.out]; exact trim_trimmed b16_one hd
  have vt : val b16 t = val b16 h := by rw [← et.out]; exact val_trimL h
  have rt : Rd .i64 w w.heap.size A t := by rw [← et.out]; exact hr.take _
  rw [← vt]
  have t0 := Zat.new w (.bool false) (.slice none 0 0)
  have HB0 := Lib.hid ((Below.refl w.heap.size w).alloc (Nat.le_refl _) (.cells #[.bool false, .slice none 0 0] 24))
  have HT := Lib.hid (rtrim_any A c _ h _ (hr.to HB0.out) hc hcap)
  rw [← htl] at HT
  have DT := Lib.hid dt
  have TT := Lib.hid tt
  have RT := Lib.hid rt
  obtain ⟨z, ez⟩ : ∃ z, Hid (zof neg (val b16 t) = z) := ⟨_, rfl⟩
  rw [ez.out]
  have hb0 := HB0.out
  clear dt tt rt vt htl hr hd et hc
  obtain ⟨W0, hW0⟩ : ∃ W0, W0 = w.alloc (.cells #[.bool false, .slice none 0 0] 24) := ⟨_, rfl⟩
  have hs0 : W0.heap.size = w.heap.size + 1 := by rw [hW0]; simp
  rw [← hW0] at t0 HT hb0
  have HW0 := Lib.hid hW0
  clear hW0 HB0
  go_enter Try.func49, Try.ntmps49
  go_wp2_with fail
  rw [← HW0.out]
  refine HT.out.mono ?_
  rintro e w' ⟨rfl, rfl⟩
  go_wp2
  go_loopw [5, 6] (fun v i wr => ∃ (k j : Nat) (A1 : Option Addr) (c1 : Nat), v = .slice A1 k c1 ∧ i = .int .i64 j ∧ j = 2 * k ∧ j ≤ t.length + 1 ∧ wr.ownsRow w.heap.size 52 1 (.slice A1 k c1) k (ints .u32 (pks t k)) ∧ Zat wr w.heap.size (.bool false) (.slice none 0 0) ∧ Below w.heap.size w wr)
    (fun _ i _ => t.length + 1 - (intOf i).toNat)
  case atStart => exact ⟨0, 0, none, 0, rfl, rfl, rfl, by omega, by simpa [ints, pks] using World.ownsRow_nil _ _ _ _, t0, hb0⟩
  case round =>
    obtain ⟨k, j, A1, c1, rfl, rfl, hj, hk, hown, t1, hb⟩ := hrel
    by_cases hlt : j < t.length
    · have hu := getD_dg (by decide) DT.out j
      have hz := getD_dg (by decide) DT.out (j + 1)
      unfold b16 at hu hz
      have HA1 := Lib.hid (at_int (c := c) (RT.out.to hb) (by omega) (j : Int) (by omega) (by omega))
      have HA2 := Lib.hid (at_int (c := c) (RT.out.to hb) (by omega) ((j : Int) + 1) (by omega) (by omega))
      rw [show ((j : Int)).toNat = j from by omega] at HA1
      rw [show ((j : Int) + 1).toNat = j + 1 from by omega] at HA2
      obtain ⟨x, ex⟩ : ∃ x, Hid (t.getD j 0 = x) := ⟨_, rfl⟩
      obtain ⟨y, ey⟩ : ∃ y, Hid (t.getD (j + 1) 0 = y) := ⟨_, rfl⟩
      rw [ex.out] at hu HA1
      rw [ey.out] at hz HA2
      have hs1 := hb.size
      have HJ := Lib.hid hj
      have hk2 : 2 * k ≤ t.length := by omega
      clear hj
      have NEXT : ∀ v' w1, w1.ownsRow w.heap.size 52 1 v' (k + 1) (ints .u32 (pks t k) ++ [.int .u32 ((x : Int) + (y : Int) * 65536)]) → (wr.alloc (.cells #[.int .u32 ((x : Int) + (y : Int) * 65536)] 52)).grownBy w1 (Value.slice A1 k c1).ownBlock →
          ∃ (A2 : Option Addr) (c2 : Nat), v' = .slice A2 (k + 1) c2 ∧ w1.ownsRow w.heap.size 52 1 (.slice A2 (k + 1) c2) (k + 1) (ints .u32 (pks t (k + 1))) ∧ Zat w1 w.heap.size (.bool false) (.slice none 0 0) ∧ Below w.heap.size w w1 := by
        intro v' w1 hown' hgrow
        obtain ⟨A2, c2, rfl⟩ := own_shape hown'
        refine ⟨A2, c2, rfl, ?_, ?_, (hb.alloc hs1 _).grown hgrow (by simp; omega) (fun j e => (hown.lt j e).1)⟩
        · rw [pks, ← HJ.out, ex.out, ey.out]
          simpa [ints] using hown'
        · exact (t1.alloc _).kept hgrow (t1.not_row hown (by decide))
      have hownA := hown.alloc (.cells #[.int .u32 ((x : Int) + (y : Int) * 65536)] 52)
      have HN := Lib.hid NEXT
      clear NEXT t1 hb hown ex ey
      go_wp2_with fail
      refine HA1.out.mono ?_
      rintro e w' ⟨rfl, rfl⟩
      go_wp2_with fail
      refine HA2.out.mono ?_
      rintro e w' ⟨rfl, rfl⟩
      go_wp2_with (at_builtin; refine wpList_append_own _ rfl (.tmp 15) (.tmp 27) 22 rfl w.heap.size 52 i0 (.int .u32 0) 1 4 Try.underlying22 hi hz0 hz1 hz2 rfl (by decide) (.slice A1 k c1) k _ rfl hownA ⟨wr.heap.size, 0, none⟩ 1 1 [.int .u32 ((x : Int) + (y : Int) * 65536)] rfl rfl (cell_one_new _ _ _) (by simp [Value.oneCell']) (by unfold maxLen; omega) (by omega) (by simp; omega) ?_; intro v' w1 hown' hgrow _; obtain ⟨A2, c2, rfl, n1, n2, n3⟩ := HN.out _ _ hown' hgrow; have N1 := Lib.hid n1; have N2 := Lib.hid n2; have N3 := Lib.hid n3; clear n1 n2 n3 hown' hgrow)
      go_roundw
      case rel => exact ⟨k + 1, j + 2, A2, c2, rfl, by simp, by have := HJ.out; omega, by omega, N1.out, N2.out, N3.out⟩
      case measure => simp [intOf]; omega
    · have hall := pks_all DT.out TT.out (N := k) (by omega) (by omega)
      obtain ⟨hc1, hc2⟩ := own_caps hown
      rw [hall] at hown
      have hr := Rd.of_own hown (Nat.le_refl _)
      have hkl : (dig b32 (val b16 t)).length = k := by have := hown.1; simp [ints] at this; omega
      have hza : z.natAbs = val b16 t := by rw [← ez.out, zof_abs]
      have T1 := Lib.hid t1
      have t2 := t1.two
      have HRES : Hid (∀ B : Bool, decide (z < 0) = B → ZRet w z (.returned (.agg #[.bool B, .slice A1 k c1])) ((wr.setCell ⟨w.heap.size, 0, none⟩ (.bool B)).setCell ⟨w.heap.size, 1, none⟩ (.slice A1 k c1))) := by
        rintro B rfl
        have h := zret_stored (z := z) t1.two (Nat.le_refl _) (by rw [hza]; exact hr) (by rw [hza, hkl]; exact hc1) hc2 hb
        rw [hza, hkl] at h
        exact h
      have HV : Hid (val b16 t = 0 ↔ k = 0) := by
        rw [← hkl]
        exact ⟨fun h => by rw [h]; rfl, fun h => (dig_nil b32_one).1 (List.eq_nil_of_length_eq_zero h)⟩
      obtain ⟨p1, p2, p3, p4, p5⟩ := t2
      clear t1 hown hr hall hkl hza hb hj
      rcases Nat.eq_zero_or_pos k with hk0 | hk0
      · have hz0' : z = 0 := by rw [← ez.out, HV.out.2 hk0, zof_zero]
        have DZ : Hid (decide (z < 0) = false) := by rw [hz0']; rfl
        subst hk0
        clear hz0'
        cases neg
        · go_wp2
          have tF := T1.out.two.set (.bool false) (.slice A1 0 c1)
          refine bodyPost_ret (v := .agg #[.bool false, .slice A1 0 c1]) (by simp [results, Try.f49, go_sem, tF.c0, tF.c1]) rfl (HRES.out false DZ.out)
        · go_wp2
          have tF := T1.out.two.set (.bool false) (.slice A1 0 c1)
          refine bodyPost_ret (v := .agg #[.bool false, .slice A1 0 c1]) (by simp [results, Try.f49, go_sem, tF.c0, tF.c1]) rfl (HRES.out false DZ.out)
      · have DZ : Hid (decide (z < 0) = neg) := by
          rw [← ez.out]
          exact zof_neg neg (fun h => by have := HV.out.1 h; omega)
        cases neg
        · go_wp2
          have tF := T1.out.two.set (.bool false) (.slice A1 k c1)
          refine bodyPost_ret (v := .agg #[.bool false, .slice A1 k c1]) (by simp [results, Try.f49, go_sem, tF.c0, tF.c1]) rfl (HRES.out false DZ.out)
        · go_wp2
          have tF := T1.out.two.set (.bool true) (.slice A1 k c1)
          refine bodyPost_ret (v := .agg #[.bool true, .slice A1 k c1]) (by simp [results, Try.f49, go_sem, tF.c0, tF.c1]) rfl (HRES.out true DZ.out)
end Go.Proofs.Ytoaghihhobggoaa

namespace Go.Proofs.Ytoaghihhobggoaa
open Go.RowKit Go.Shelf

/-- A magnitude in base 2^16 that a function is given. -/
structure Hr (w : World) (A : Option Addr) (c : Nat) (xs : List Nat) : Prop where
  rd : Rd .i64 w w.heap.size A xs
  dg : Dg b16 xs
  le : xs.length ≤ c
  cap : c ≤ 9223372036854775807
  small : xs.length ≤ 4294967296

theorem Hr.to {w w' : World} {A : Option Addr} {c : Nat} {xs : List Nat} (h : Hr w A c xs) (hb : Below w.heap.size w w') : Hr w' A c xs := ⟨h.rd.to hb, h.dg, h.le, h.cap, h.small⟩

/-- A call hands back the magnitude n, trimmed. -/
def HRet (w : World) (n : Nat) (e : Ending) (w' : World) : Prop := ∃ A c, e = .returned (.slice A (dig b16 n).length c) ∧ Rd .i64 w' w'.heap.size A (dig b16 n) ∧ (dig b16 n).length ≤ c ∧ c ≤ 9223372036854775807 ∧ Below w.heap.size w w'

theorem val_le_take {b : Nat} (xs : List Nat) (k : Nat) (h : xs.length ≤ k) : xs.take k = xs := List.take_of_length_le h

theorem tmod16 (d : Nat) : ((d : Nat) : Int).tmod 65536 = ((d % 65536 : Nat) : Int) := by rw [Int.tmod_eq_emod_of_nonneg (by omega)]; omega
theorem tdiv16 (d : Nat) : ((d : Nat) : Int).tdiv 65536 = ((d / 65536 : Nat) : Int) := by rw [Int.tdiv_eq_ediv_of_nonneg (by omega)]; omega
theorem wrap_nat (d : Nat) (h : d < 9223372036854775808) : IntKind.i64.wrap ((d : Nat) : Int) = (d : Int) := IntWalk.i64_in _ (by omega)

/-- One digit more. -/
theorem digit_step {b k v T : Nat} {S : List Nat} (hl : S.length = k) {N r d : Nat} (h : val b S + b ^ k * r = N) (hv : v = d + r) (hT : T = N + b ^ k * d) : val b (S ++ [v % b]) + b ^ (k + 1) * (v / b) = T := by
  rw [val_append, hl, hT, ← h, Nat.pow_succ]
  simp only [val, Nat.mul_zero, Nat.add_zero]
  have h1 : v = v % b + b * (v / b) := (Nat.mod_add_div v b).symm
  have h2 : b ^ k * v = b ^ k * (v % b) + b ^ k * b * (v / b) := by
    rw [Nat.mul_assoc, ← Nat.mul_add]; rw [← h1]
  rw [hv, Nat.mul_add, ← hv] at h2
  omega

set_option maxRecDepth 100000 in
set_option maxHeartbeats 4000000 in
theorem radd_any {A A' : Option Addr} {c c' : Nat} {xs ys : List Nat} {w : World} (hx : Hr w A c xs) (hy : Hr w A' c' ys) :
    Calls Try.prog 51 #[.slice A xs.length c, .slice A' ys.length c'] w (HRet w (val b16 xs + val b16 ys)) := by
  obtain ⟨i0, hi, hz0, hz1, hz2⟩ := info_parts infoInt
  obtain ⟨n, en⟩ : ∃ n, Hid (val b16 xs + val b16 ys = n) := ⟨_, rfl⟩
  rw [en.out]
  have HX := Lib.hid hx
  have HY := Lib.hid hy
  have hxs := hx.small
  have hys := hy.small
  have hxl := hx.le
  have hxc := hx.cap
  have hyl := hy.le
  have hyc := hy.cap
  clear hx hy
  obtain ⟨m, em⟩ : ∃ m, m = max xs.length ys.length := ⟨_, rfl⟩
  have hm1 : xs.length ≤ m := by omega
  have hm2 : ys.length ≤ m := by omega
  have hm3 : m ≤ 4294967296 := by omega
  have EM := Lib.hid em
  clear em
  go_enter Try.func51, Try.ntmps51
  go_wp2
  go_loopw [5, 6, 7] (fun v q i wr => ∃ (k r : Nat) (S : List Nat) (A1 : Option Addr) (c1 : Nat), v = .slice A1 k c1 ∧ q = .int .i64 r ∧ i = .int .i64 k ∧ r ≤ 1 ∧ k ≤ m + 1 ∧ S.length = k ∧ Dg b16 S ∧ val b16 S + b16 ^ k * r = val b16 (xs.take k) + val b16 (ys.take k) ∧
      wr.ownsRow w.heap.size 3 1 (.slice A1 k c1) k (ints .i64 S) ∧ Below w.heap.size w wr) (fun _ _ i _ => m + 1 - (intOf i).toNat)
  case atStart => exact ⟨0, 0, [], none, 0, rfl, rfl, rfl, by omega, by omega, rfl, Dg.nil, by simp [val], by simpa [ints] using World.ownsRow_nil _ _ _ _, Below.refl _ _⟩
  case round =>
    obtain ⟨k, r, S, A1, c1, rfl, rfl, rfl, hr, hk, hS, hdg, hval, hown, hb⟩ := hrel
    by_cases hend : ¬ k < xs.length ∧ ¬ k < ys.length ∧ ¬ 0 < r
    · obtain ⟨h1, h2, h3⟩ := hend
      obtain rfl : r = 0 := by omega
      have hv : val b16 S = n := by rw [← en.out, val_le_take (b := b16) xs k (by omega), val_le_take (b := b16) ys k (by omega)] at *; omega
      obtain ⟨hc1, hc2⟩ := own_caps hown
      have hrd := Rd.of_own hown (Nat.le_refl _)
      have HT := Lib.hid (rtrim_any A1 c1 _ S wr hrd (by omega) hc2)
      have hta := trimL_dig b16_one hdg
      rw [hv] at hta
      have htn : trimN S = (dig b16 n).length := by rw [← hta, trimL_length]
      have hrt : Rd .i64 wr wr.heap.size A1 (dig b16 n) := by rw [← hta]; exact hrd.take _
      have hle : (dig b16 n).length ≤ c1 := by rw [← htn]; have := trimN_le S; omega
      rw [hS, htn] at HT
      have HF := Lib.hid hrt
      have HB := Lib.hid hb
      clear hrt hb hown hrd hta hval hdg htn hv
      go_wp2_with fail
      refine HT.out.mono ?_
      rintro e w' ⟨rfl, rfl⟩
      go_wp2
      go_ret
      exact ⟨A1, c1, rfl, HF.out, hle, hc2, HB.out⟩
    · have hkm : k ≤ m := by
        refine Classical.byContradiction fun hgt => ?_
        have hk1 : k = m + 1 := by omega
        rw [val_le_take (b := b16) xs k (by omega), val_le_take (b := b16) ys k (by omega)] at hval
        have h1 := val_lt HX.out.dg
        have h2 := val_lt HY.out.dg
        have h3 : b16 ^ xs.length ≤ b16 ^ m := Nat.pow_le_pow_right (by decide) hm1
        have h4 : b16 ^ ys.length ≤ b16 ^ m := Nat.pow_le_pow_right (by decide) hm2
        have h5 : b16 ^ k = b16 ^ m * 65536 := by rw [hk1, Nat.pow_succ]; rfl
        have h6 : 1 ≤ r := by omega
        have h7 : b16 ^ k * 1 ≤ b16 ^ k * r := Nat.mul_le_mul_left _ h6
        omega
      obtain ⟨x, ex⟩ : ∃ x, Hid (xs.getD k 0 = x) := ⟨_, rfl⟩
      obtain ⟨y, ey⟩ : ∃ y, Hid (ys.getD k 0 = y) := ⟨_, rfl⟩
      have hu := getD_dg (by decide) HX.out.dg k
      have hz := getD_dg (by decide) HY.out.dg k
      have HA1 := Lib.hid (at_int (c := c) (HX.out.to hb).rd (by omega) (k : Int) (by omega) (by omega))
      have HA2 := Lib.hid (at_int (c := c') (HY.out.to hb).rd (by omega) (k : Int) (by omega) (by omega))
      rw [show ((k : Int)).toNat = k from by omega] at HA1 HA2
      rw [ex.out] at hu HA1
      rw [ey.out] at hz HA2
      unfold b16 at hu hz
      obtain ⟨d, ed⟩ : ∃ d, d = x + y + r := ⟨_, rfl⟩
      have hd : d < 131072 := by omega
      have hd2 : d / 65536 ≤ 1 := by omega
      have hsum : (x : Int) + (y : Int) + (r : Int) = (d : Int) := by omega
      have g1 := tmod16 d
      have g2 := tdiv16 d
      have g3 := wrap_nat (d % 65536) (by omega)
      have g4 := wrap_nat (d / 65536) (by omega)
      have NEXTV : val b16 (S ++ [d % 65536]) + b16 ^ (k + 1) * (d / 65536) = val b16 (xs.take (k + 1)) + val b16 (ys.take (k + 1)) := by
        refine digit_step (d := x + y) hS hval (by omega) ?_
        rw [val_take_succ, val_take_succ, ex.out, ey.out, Nat.mul_add]; omega
      have NV := Lib.hid NEXTV
      have hs1 := hb.size
      have NEXT : ∀ v' w1, w1.ownsRow w.heap.size 3 1 v' (k + 1) (ints .i64 S ++ [.int .i64 ((d % 65536 : Nat) : Int)]) → (wr.alloc (.cells #[.int .i64 ((d % 65536 : Nat) : Int)] 3)).grownBy w1 (Value.slice A1 k c1).ownBlock →
          ∃ (A2 : Option Addr) (c2 : Nat), v' = .slice A2 (k + 1) c2 ∧ w1.ownsRow w.heap.size 3 1 (.slice A2 (k + 1) c2) (k + 1) (ints .i64 (S ++ [d % 65536])) ∧ Below w.heap.size w w1 := by
        intro v' w1 hown' hgrow
        obtain ⟨A2, c2, rfl⟩ := own_shape hown'
        refine ⟨A2, c2, rfl, ?_, (hb.alloc hs1 _).grown hgrow (by simp; omega) (fun j e => (hown.lt j e).1)⟩
        simpa [ints] using hown'
      have hownA := hown.alloc (.cells #[.int .i64 ((d % 65536 : Nat) : Int)] 3)
      have HN := Lib.hid NEXT
      have HSD := Lib.hid hdg
      have hcase : k < xs.length ∨ (¬ k < xs.length ∧ k < ys.length) ∨ (¬ k < xs.length ∧ ¬ k < ys.length ∧ 0 < r) := by omega
      clear NEXT NEXTV hb hown ex ey ed hval hdg hend
      rcases hcase with t1 | ⟨t1, t2⟩ | ⟨t1, t2, t3⟩
      all_goals
        go_wp2_with fail
        refine HA1.out.mono ?_
        rintro e w' ⟨rfl, rfl⟩
        go_wp2_with fail
        refine HA2.out.mono ?_
        rintro e w' ⟨rfl, rfl⟩
        go_wp2_with (at_builtin; refine wpList_append_own _ rfl (.tmp 34) (.tmp 37) 50 rfl w.heap.size 3 i0 (.int .i64 0) 1 8 Try.underlying50 hi hz0 hz1 hz2 rfl (by decide) (.slice A1 k c1) k _ rfl hownA ⟨wr.heap.size, 0, none⟩ 1 1 [.int .i64 ((d % 65536 : Nat) : Int)] rfl rfl (cell_one_new _ _ _) (by simp [Value.oneCell']) (by unfold maxLen; omega) (by omega) (by simp; omega) ?_; intro v' w1 hown' hgrow _; obtain ⟨A2, c2, rfl, n1, n2⟩ := HN.out _ _ hown' hgrow; have N1 := Lib.hid n1; have N2 := Lib.hid n2; clear n1 n2 hown' hgrow)
        go_roundw
        case rel => exact ⟨k + 1, d / 65536, S ++ [d % 65536], A2, c2, rfl, by simp, by simp, by omega, by omega, by simp [hS], HSD.out.app (Dg.one (by unfold b16; omega)), NV.out, N1.out, N2.out⟩
        case measure => simp [intOf]; omega
end Go.Proofs.Ytoaghihhobggoaa

namespace Go.Proofs.Ytoaghihhobggoaa
open Go.RowKit Go.Shelf

set_option maxRecDepth 100000 in
set_option maxHeartbeats 4000000 in
theorem times_any {A : Option Addr} {c : Nat} {xs : List Nat} {w : World} (hx : Hr w A c xs) (f : Nat) (hf : f ≤ 1024) :
    Calls Try.prog 69 #[.slice A xs.length c, .int .i64 (f : Nat)] w (HRet w (val b16 xs * f)) := by
  obtain ⟨i0, hi, hz0, hz1, hz2⟩ := info_parts infoInt
  obtain ⟨n, en⟩ : ∃ n, Hid (val b16 xs * f = n) := ⟨_, rfl⟩
  rw [en.out]
  have HX := Lib.hid hx
  have hxs := hx.small
  have hxl := hx.le
  have hxc := hx.cap
  clear hx
  obtain ⟨m, em⟩ : ∃ m, m = xs.length := ⟨_, rfl⟩
  have hm1 : xs.length ≤ m := by omega
  have hm3 : m ≤ 4294967296 := by omega
  have EM := Lib.hid em
  clear em
  go_enter Try.func69, Try.ntmps69
  go_wp2
  go_loopw [5, 6, 7] (fun v q i wr => ∃ (k r : Nat) (S : List Nat) (A1 : Option Addr) (c1 : Nat), v = .slice A1 k c1 ∧ q = .int .i64 r ∧ i = .int .i64 k ∧ r ≤ f ∧ k ≤ m + 1 ∧ S.length = k ∧ Dg b16 S ∧ val b16 S + b16 ^ k * r = val b16 (xs.take k) * f ∧
      wr.ownsRow w.heap.size 3 1 (.slice A1 k c1) k (ints .i64 S) ∧ Below w.heap.size w wr) (fun _ _ i _ => m + 1 - (intOf i).toNat)
  case atStart => exact ⟨0, 0, [], none, 0, rfl, rfl, rfl, by omega, by omega, rfl, Dg.nil, by simp [val], by simpa [ints] using World.ownsRow_nil _ _ _ _, Below.refl _ _⟩
  case round =>
    obtain ⟨k, r, S, A1, c1, rfl, rfl, rfl, hr, hk, hS, hdg, hval, hown, hb⟩ := hrel
    by_cases hend : ¬ k < xs.length ∧ ¬ 0 < r
    · obtain ⟨h1, h3⟩ := hend
      obtain rfl : r = 0 := by omega
      have hv : val b16 S = n := by rw [val_le_take (b := b16) xs k (by omega)] at hval; have := en.out; omega
      obtain ⟨hc1, hc2⟩ := own_caps hown
      have hrd := Rd.of_own hown (Nat.le_refl _)
      have HT := Lib.hid (rtrim_any A1 c1 _ S wr hrd (by omega) hc2)
      have hta := trimL_dig b16_one hdg
      rw [hv] at hta
      have htn : trimN S = (dig b16 n).length := by rw [← hta, trimL_length]
      have hrt : Rd .i64 wr wr.heap.size A1 (dig b16 n) := by rw [← hta]; exact hrd.take _
      have hle : (dig b16 n).length ≤ c1 := by rw [← htn]; have := trimN_le S; omega
      rw [hS, htn] at HT
      have HF := Lib.hid hrt
      have HB := Lib.hid hb
      clear hrt hb hown hrd hta hval hdg htn hv
      go_wp2_with fail
      refine HT.out.mono ?_
      rintro e w' ⟨rfl, rfl⟩
      go_wp2
      go_ret
      exact ⟨A1, c1, rfl, HF.out, hle, hc2, HB.out⟩
    · have hkm : k ≤ m := by
        refine Classical.byContradiction fun hgt => ?_
        have hk1 : k = m + 1 := by omega
        rw [val_le_take (b := b16) xs k (by omega)] at hval
        have h1 := val_lt HX.out.dg
        have h3 : b16 ^ xs.length ≤ b16 ^ m := Nat.pow_le_pow_right (by decide) hm1
        have h5 : b16 ^ k = b16 ^ m * 65536 := by rw [hk1, Nat.pow_succ]; rfl
        have h6 : 1 ≤ r := by omega
        have h7 : b16 ^ k * 1 ≤ b16 ^ k * r := Nat.mul_le_mul_left _ h6
        have h8 : val b16 xs * f ≤ val b16 xs * 1024 := Nat.mul_le_mul_left _ hf
        omega
      obtain ⟨x, ex⟩ : ∃ x, Hid (xs.getD k 0 = x) := ⟨_, rfl⟩
      have hu := getD_dg (by decide) HX.out.dg k
      have HA1 := Lib.hid (at_int (c := c) (HX.out.to hb).rd (by omega) (k : Int) (by omega) (by omega))
      rw [show ((k : Int)).toNat = k from by omega] at HA1
      rw [ex.out] at hu HA1
      unfold b16 at hu
      have hxf : x * f ≤ 65535 * f := Nat.mul_le_mul_right _ (by omega)
      obtain ⟨p, ep⟩ : ∃ p, p = x * f := ⟨_, rfl⟩
      rw [← ep] at hxf
      obtain ⟨d, ed⟩ : ∃ d, d = p + r := ⟨_, rfl⟩
      have hd : d < 67200000 := by omega
      have hd2 : d / 65536 ≤ f := by omega
      have hmul : (x : Int) * (f : Int) = (p : Int) := by rw [ep]; simp
      have hsum : (p : Int) + (r : Int) = (d : Int) := by omega
      have g0 := wrap_nat p (by omega)
      have g5 := wrap_nat d (by omega)
      have g1 := tmod16 d
      have g2 := tdiv16 d
      have g3 := wrap_nat (d % 65536) (by omega)
      have g4 := wrap_nat (d / 65536) (by omega)
      have NEXTV : val b16 (S ++ [d % 65536]) + b16 ^ (k + 1) * (d / 65536) = val b16 (xs.take (k + 1)) * f := by
        refine digit_step (d := p) hS hval (by omega) ?_
        rw [val_take_succ, ex.out, Nat.add_mul, ep, Nat.mul_assoc]
      have NV := Lib.hid NEXTV
      have hs1 := hb.size
      have NEXT : ∀ v' w1, w1.ownsRow w.heap.size 3 1 v' (k + 1) (ints .i64 S ++ [.int .i64 ((d % 65536 : Nat) : Int)]) → (wr.alloc (.cells #[.int .i64 ((d % 65536 : Nat) : Int)] 3)).grownBy w1 (Value.slice A1 k c1).ownBlock →
          ∃ (A2 : Option Addr) (c2 : Nat), v' = .slice A2 (k + 1) c2 ∧ w1.ownsRow w.heap.size 3 1 (.slice A2 (k + 1) c2) (k + 1) (ints .i64 (S ++ [d % 65536])) ∧ Below w.heap.size w w1 := by
        intro v' w1 hown' hgrow
        obtain ⟨A2, c2, rfl⟩ := own_shape hown'
        refine ⟨A2, c2, rfl, ?_, (hb.alloc hs1 _).grown hgrow (by simp; omega) (fun j e => (hown.lt j e).1)⟩
        simpa [ints] using hown'
      have hownA := hown.alloc (.cells #[.int .i64 ((d % 65536 : Nat) : Int)] 3)
      have HN := Lib.hid NEXT
      have HSD := Lib.hid hdg
      have hcase : k < xs.length ∨ (¬ k < xs.length ∧ 0 < r) := by omega
      clear NEXT NEXTV hb hown ex ed hval ep hdg hend
      rcases hcase with t1 | ⟨t1, t2⟩
      all_goals
        go_wp2_with fail
        refine HA1.out.mono ?_
        rintro e w' ⟨rfl, rfl⟩
        go_wp2_with (at_builtin; refine wpList_append_own _ rfl (.tmp 26) (.tmp 29) 50 rfl w.heap.size 3 i0 (.int .i64 0) 1 8 Try.underlying50 hi hz0 hz1 hz2 rfl (by decide) (.slice A1 k c1) k _ rfl hownA ⟨wr.heap.size, 0, none⟩ 1 1 [.int .i64 ((d % 65536 : Nat) : Int)] rfl rfl (cell_one_new _ _ _) (by simp [Value.oneCell']) (by unfold maxLen; omega) (by omega) (by simp; omega) ?_; intro v' w1 hown' hgrow _; obtain ⟨A2, c2, rfl, n1, n2⟩ := HN.out _ _ hown' hgrow; have N1 := Lib.hid n1; have N2 := Lib.hid n2; clear n1 n2 hown' hgrow)
        go_roundw
        case rel => exact ⟨k + 1, d / 65536, S ++ [d % 65536], A2, c2, rfl, by simp, by simp, by omega, by omega, by simp [hS], HSD.out.app (Dg.one (by unfold b16; omega)), NV.out, N1.out, N2.out⟩
        case measure => simp [intOf]; omega
end Go.Proofs.Ytoaghihhobggoaa

namespace Go.Proofs.Ytoaghihhobggoaa
open Go.RowKit Go.Shelf

theorem val_drop {b : Nat} {xs : List Nat} {q : Nat} (h : q < xs.length) : val b (xs.drop q) = xs[q] + b * val b (xs.drop (q + 1)) := by
  rw [List.drop_eq_getElem_cons h]; rfl

theorem Dg.drop {b : Nat} {xs : List Nat} (h : Dg b xs) (n : Nat) : Dg b (xs.drop n) := fun d hd => h d (List.mem_of_mem_drop hd)

theorem val_lt3 {xs : List Nat} (h : Dg b16 xs) (hl : xs.length ≤ 3) : val b16 xs < 281474976710656 :=
  Nat.lt_of_lt_of_le (val_lt h) (Nat.le_trans (Nat.pow_le_pow_right (by decide) hl) (by decide))

set_option maxHeartbeats 2000000 in
theorem small_any {A : Option Addr} {c : Nat} {xs : List Nat} {w : World} (hx : Hr w A c xs) (hl : xs.length ≤ 3) :
    Calls Try.prog 74 #[.slice A xs.length c] w fun e w' => e = .returned (.int .i64 (val b16 xs : Nat)) ∧ w' = w := by
  obtain ⟨n, en⟩ : ∃ n, Hid (val b16 xs = n) := ⟨_, rfl⟩
  rw [en.out]
  have HX := Lib.hid hx
  clear hx
  go_enter Try.func74, Try.ntmps74
  go_wp2
  go_loopw [3, 4] (fun v i wr => ∃ k : Nat, v = .int .i64 (val b16 (xs.drop k) : Nat) ∧ i = .int .i64 ((k : Int) - 1) ∧ k ≤ xs.length ∧ wr = w) (fun _ i _ => ((intOf i) + 1).toNat)
  case atStart => exact ⟨xs.length, by simp [val], rfl, Nat.le_refl _, rfl⟩
  case round =>
    obtain ⟨k, hv, hik, hk, rfl⟩ := hrel
    rcases Nat.eq_zero_or_pos k with rfl | hk0
    · rw [List.drop_zero, en.out] at hv
      subst hv hik
      clear hk
      go_wp2
      go_ret
      exact ⟨rfl, rfl⟩
    · obtain ⟨q, rfl⟩ : ∃ q, k = q + 1 := ⟨k - 1, by omega⟩
      rw [show (((q + 1 : Nat) : Int) - 1) = (q : Int) from by omega] at hik
      subst hv hik
      have hq : q < xs.length := by omega
      obtain ⟨b, o, rfl, _, hc1⟩ := HX.out.rd.at_ hq
      have e1 := hc1 q hq
      have hd := HX.out.dg.at_ hq
      have hvd := val_drop (b := b16) hq
      have hlt := val_lt3 (HX.out.dg.drop q) (by rw [List.length_drop]; omega)
      have hlt2 := val_lt3 (HX.out.dg.drop (q + 1)) (by rw [List.length_drop]; omega)
      obtain ⟨x, ex⟩ : ∃ x, Hid (xs[q] = x) := ⟨xs[q], rfl⟩
      obtain ⟨T, eT⟩ : ∃ T, Hid (val b16 (xs.drop (q + 1)) = T) := ⟨_, rfl⟩
      rw [ex.out] at e1 hd hvd
      rw [eT.out] at hvd hlt2 ⊢
      unfold b16 at hd
      have hvd2 : val b16 (xs.drop q) = x + 65536 * T := hvd
      rw [hvd2] at hlt
      have HV := Lib.hid hvd2
      have hki : (0 : Int) ≤ (q : Int) := by omega
      have hki' : (q : Int) < (xs.length : Int) := by omega
      clear hc1 hvd hvd2
      go_wp2
      go_roundw
      case rel => exact ⟨q, by rw [HV.out]; congr 1; omega, by simp, by omega, trivial⟩
      case measure => simp [intOf]

set_option maxHeartbeats 2000000 in
theorem back_any (v : Nat) (hv : v < 281474976710656) (w : World) :
    Calls Try.prog 73 #[.int .i64 (v : Nat)] w (HRet w v) := by
  have hr := Rd.new .i64 w 3 [v % 65536, v / 65536 % 65536, v / 65536 / 65536]
  have hdg : Dg b16 [v % 65536, v / 65536 % 65536, v / 65536 / 65536] := Dg.cons (by unfold b16; omega) (Dg.cons (by unfold b16; omega) (Dg.one (by unfold b16; omega)))
  have hval : val b16 [v % 65536, v / 65536 % 65536, v / 65536 / 65536] = v := by simp only [val, b16]; omega
  have hta := trimL_dig b16_one hdg
  rw [hval] at hta
  have hT := rtrim_any (some ⟨w.heap.size, 0, none⟩) 3 (w.heap.size + 1) [v % 65536, v / 65536 % 65536, v / 65536 / 65536] _ hr (by simp) (by decide)
  rw [← trimL_length, hta] at hT
  have hrt := hr.take (trimN [v % 65536, v / 65536 % 65536, v / 65536 / 65536])
  rw [show [v % 65536, v / 65536 % 65536, v / 65536 / 65536].take (trimN [v % 65536, v / 65536 % 65536, v / 65536 / 65536]) = dig b16 v from hta] at hrt
  have hle : (dig b16 v).length ≤ 3 := by rw [← hta]; exact trimL_le _
  have g1 := tmod16 v
  have g2 := tdiv16 v
  have g3 := tmod16 (v / 65536)
  have g4 := tdiv16 (v / 65536)
  have g5 := wrap_nat (v / 65536) (by omega)
  have g6 := wrap_nat (v / 65536 / 65536) (by omega)
  have g7 := wrap_nat (v % 65536) (by omega)
  have g8 := wrap_nat (v / 65536 % 65536) (by omega)
  obtain ⟨W0, hW0⟩ : ∃ W0, W0 = w.alloc (.cells (ints .i64 [v % 65536, v / 65536 % 65536, v / 65536 / 65536]).toArray 3) := ⟨_, rfl⟩
  have hsz : W0.heap.size = w.heap.size + 1 := by rw [hW0]; simp
  have hb : Below w.heap.size w W0 := by rw [hW0]; exact (Below.refl _ _).alloc (Nat.le_refl _) _
  rw [← hW0] at hT hrt
  rw [← hsz] at hrt
  have HT := Lib.hid hT
  have HR := Lib.hid hrt
  have HB := Lib.hid hb
  have hW1 : W0 = w.alloc (.cells #[.int .i64 ((v : Int) % 65536), .int .i64 ((v : Int) / 65536 % 65536), .int .i64 ((v : Int) / 65536 / 65536)] 3) := by rw [hW0]; simp [ints]
  have HW := Lib.hid hW1
  clear hr hdg hval hta hT hrt hW0 hW1 hb
  go_enter Try.func73, Try.ntmps73
  go_wp2_with fail
  rw [← HW.out]
  refine HT.out.mono ?_
  rintro e w' ⟨rfl, rfl⟩
  go_wp2
  go_ret
  exact ⟨_, _, rfl, HR.out, hle, by decide, HB.out⟩
end Go.Proofs.Ytoaghihhobggoaa
