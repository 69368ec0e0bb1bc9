/- whole.compare. -/
import Derived.Test.YtlnjnoingiohjaaBackward
import Derived.Test.YtlnjnoingiohjaaMath
import Derived.Outline
import Derived.Shelf.Abstract
namespace Go.Proofs.Ytlnjnoingiohjaa
open Go.RowKit Go.Shelf
attribute [local go_sem] Oper.semAt_some

set_option maxHeartbeats 400000 in
theorem cmpInt_any (a b : Nat) (w : World) (ha : a ≤ 9223372036854775807) (hb : b ≤ 9223372036854775807) :
    Calls Try.prog 57 #[.int .i64 (a : Nat), .int .i64 (b : Nat)] w fun e w' => e = .returned (.int .i64 (cmpN a b)) ∧ w = w' := by
  unfold cmpN
  have h1 : ((a : Int) != (a : Int)) = false := by simp
  have h2 : ((b : Int) != (b : Int)) = false := by simp
  rcases Nat.lt_trichotomy a b with h | h | h
  · rw [if_pos h]
    go_enter Try.func57, Try.ntmps57
    go_wp2
    go_ret
    exact ⟨rfl, rfl⟩
  · subst h
    rw [if_neg (by omega), if_neg (by omega)]
    go_enter Try.func57, Try.ntmps57
    go_wp2
    go_ret
    exact ⟨rfl, rfl⟩
  · rw [if_neg (by omega), if_pos h]
    go_enter Try.func57, Try.ntmps57
    go_wp2
    go_ret
    exact ⟨rfl, rfl⟩

set_option maxHeartbeats 400000 in
theorem cmpWord_any (a b : Nat) (w : World) (ha : a < 4294967296) (hb : b < 4294967296) :
    Calls Try.prog 77 #[.int .u32 (a : Nat), .int .u32 (b : Nat)] w fun e w' => e = .returned (.int .i64 (cmpN a b)) ∧ w = w' := by
  unfold cmpN
  have h1 : ((a : Int) != (a : Int)) = false := by simp
  have h2 : ((b : Int) != (b : Int)) = false := by simp
  rcases Nat.lt_trichotomy a b with h | h | h
  · rw [if_pos h]
    go_enter Try.func77, Try.ntmps77
    go_wp2
    go_ret
    exact ⟨rfl, rfl⟩
  · subst h
    rw [if_neg (by omega), if_neg (by omega)]
    go_enter Try.func77, Try.ntmps77
    go_wp2
    go_ret
    exact ⟨rfl, rfl⟩
  · rw [if_neg (by omega), if_pos h]
    go_enter Try.func77, Try.ntmps77
    go_wp2
    go_ret
    exact ⟨rfl, rfl⟩

set_option maxHeartbeats 1000000 in
theorem compare_short (A A' : Option Addr) (c c' n n' : Nat) (w : World) (hn : n ≤ 9223372036854775807) (hn' : n' ≤ 9223372036854775807) (hne : n ≠ n') :
    Calls Try.prog 58 #[.slice A n c, .slice A' n' c'] w fun e w' => e = .returned (.int .i64 (cmpN n n')) ∧ Below w.heap.size w w' := by
  have h1 : ((n : Int) != (n' : Int)) = true := by rw [bne_iff_ne]; omega
  have HNE := Lib.hid hne
  clear hne
  go_enter Try.func58, Try.ntmps58
  go_wp2_with (go_at_call 57; refine (cmpInt_any _ _ _ hn hn').mono ?_; rintro e w' ⟨rfl, rfl⟩)
  exact bodyPost_ret (v := .int .i64 (cmpN n n')) (by simp [results, Try.f58, go_sem]) rfl ⟨rfl, ((Below.refl _ _).alloc (Nat.le_refl _) _).alloc (by simp) _⟩

set_option maxRecDepth 100000 in
set_option maxHeartbeats 2000000 in
theorem compare_same (A A' : Option Addr) (c c' : Nat) (xs ys : List Nat) (w : World) (hx : Rd .u32 w w.heap.size A xs) (hy : Rd .u32 w w.heap.size A' ys) (hl : xs.length = ys.length)
    (dx : Dg b32 xs) (dy : Dg b32 ys) (hxc : xs.length ≤ c) (hc : c ≤ 9223372036854775807) (hyc : ys.length ≤ c') (hc' : c' ≤ 9223372036854775807) :
    CallsIn Fence.wide 3 Try.prog 58 #[.slice A xs.length c, .slice A' xs.length c'] w fun e w' => e = .returned (.int .i64 (cmpN (val b32 xs) (val b32 ys))) ∧ Below w.heap.size w w' := by
  have h1 : ((xs.length : Int) != (xs.length : Int)) = false := by simp
  have HL := Lib.hid hl
  have hl63 : xs.length ≤ 9223372036854775807 := by omega
  clear hl
  refine callsIn_of_wp_marks Try.func58 rfl trivial ?_ rfl
  simp only [Try.ntmps58, List.size_toArray, List.length_cons, List.length_nil, Nat.reduceAdd, Nat.reduceSub, Array.replicate_succ, Array.replicate_zero, List.push_toArray, List.append_toArray, List.nil_append, List.cons_append]
  gi_wp2_with (refine ⟨trivial, ?_⟩; gi_at_call 76; refine (callsIn_wide.2 (backward_any _ _ _ _)).mono ?_; rintro e w' ⟨rfl, rfl⟩)
  have bY : Boxed (((w.alloc (.cells #[.slice A' xs.length c'] 22)).alloc (.cells #[.int .i64 0] 3)).alloc (.cells #[.slice A xs.length c] 22)) w.heap.size 22 (.slice A' xs.length c') := ((Boxed.new w _ _).alloc _).alloc _
  have bR : Boxed (((w.alloc (.cells #[.slice A' xs.length c'] 22)).alloc (.cells #[.int .i64 0] 3)).alloc (.cells #[.slice A xs.length c] 22)) (w.heap.size + 1) 3 (.int .i64 0) := by
    have h := Boxed.new (w.alloc (.cells #[.slice A' xs.length c'] 22)) 3 (.int .i64 0)
    rw [World.size_alloc] at h
    exact h.alloc _
  have bX : Boxed (((w.alloc (.cells #[.slice A' xs.length c'] 22)).alloc (.cells #[.int .i64 0] 3)).alloc (.cells #[.slice A xs.length c] 22)) (w.heap.size + 2) 22 (.slice A xs.length c) := by
    have h := Boxed.new ((w.alloc (.cells #[.slice A' xs.length c'] 22)).alloc (.cells #[.int .i64 0] 3)) 22 (.slice A xs.length c)
    rw [World.size_alloc, World.size_alloc] at h
    exact h
  have hb0 : Below w.heap.size w (((w.alloc (.cells #[.slice A' xs.length c'] 22)).alloc (.cells #[.int .i64 0] 3)).alloc (.cells #[.slice A xs.length c] 22)) :=
    (((Below.refl _ _).alloc (Nat.le_refl _) _).alloc (by simp) _).alloc (by simp; omega) _
  have hsz : (((w.alloc (.cells #[.slice A' xs.length c'] 22)).alloc (.cells #[.int .i64 0] 3)).alloc (.cells #[.slice A xs.length c] 22)).heap.size = w.heap.size + 3 := by simp
  generalize (((w.alloc (.cells #[.slice A' xs.length c'] 22)).alloc (.cells #[.int .i64 0] 3)).alloc (.cells #[.slice A xs.length c] 22)) = W0 at bY bR bX hb0 hsz ⊢
  refine wp_rounds (gf := 87) (lb := #[.pointer (some ⟨w.heap.size + 2, 0, none⟩)]) ?hg (enters_of Try.func87 (by kernel_rfl) rfl)
    (N := xs.length) (enc := backE xs) (Keep := fun k => KeepAt (backS (w.heap.size + 2) A (xs.length - 1 - k)))
    (fun W hW => backward_gives (w.heap.size + 2) w.heap.size c A xs hxc hc W ((hW.cell (p := ⟨w.heap.size + 2, 0, none⟩) (by show w.heap.size + 2 < _; omega)).trans bX.cell) (hx.below (hb0.trans (hW.mono (by omega)))))
    (fun k A₁ B₁ o o' _ h => keepAt_round (backS_lt hx (by omega) (by omega) (by omega)) o o' h)
    ?hps
    (fun k W => (∀ j, xs.length - k ≤ j → j < xs.length → xs.getD j 0 = ys.getD j 0) ∧ Boxed W w.heap.size 22 (.slice A' xs.length c') ∧ Boxed W (w.heap.size + 1) 3 (.int .i64 0) ∧ Below w.heap.size w W)
    (fun jmp k W => jmp = .ret ∧ Boxed W (w.heap.size + 1) 3 (.int .i64 (cmpN (val b32 xs) (val b32 ys))) ∧ Below w.heap.size w W)
    ?hI ?hIx ⟨fun j h1 h2 => by omega, bY, bR, hb0⟩
    (fun k => { tmps := #[.slice A xs.length c, .slice A' xs.length c', undef, .pointer (some ⟨w.heap.size, 0, none⟩), .pointer (some ⟨w.heap.size + 1, 0, none⟩), .int .i64 ((xs.length - 1 - k : Nat) : Int), .int .u32 ((xs.getD (xs.length - 1 - k) 0 : Nat) : Int),
      .slice A xs.length c, .int .i64 (xs.length : Nat), .slice A' xs.length c', .int .i64 (xs.length : Nat), .bool false, undef, undef, undef, undef, undef, .slice A xs.length c,
      .func (.func 87) #[] #[.pointer (some ⟨w.heap.size + 1 + 1, 0, none⟩)], .int .i64 ((xs.length - 1 - k : Nat) : Int), .int .u32 ((xs.getD (xs.length - 1 - k) 0 : Nat) : Int), undef, undef, undef, undef, undef, undef, undef, undef, undef, undef, undef, undef], defers := [] }) ?assign ?body ?done ?stop
  case hg => rfl
  case hps => exact fun _ => rfl
  case hI =>
    exact OwnFrom.and (ownFrom_pure _ _) (OwnFrom.and (Own.from (boxed_own _ _ _) _) (OwnFrom.and (Own.from (boxed_own _ _ _) _) (ownFrom_below (Nat.le_refl _) (by omega))))
  case hIx =>
    exact fun jmp => OwnFrom.and (ownFrom_pure _ _) (OwnFrom.and (Own.from (boxed_own _ _ _) _) (ownFrom_below (Nat.le_refl _) (by omega)))
  case assign =>
    intro l k W K hK
    unfold backE
    gi_wp2
    exact hK
  case body =>
    rintro l k W hlt ⟨hs, bY1, bR1, hb1⟩ hk
    obtain ⟨m, hm⟩ : ∃ m, xs.length - 1 - k = m := ⟨_, rfl⟩
    simp only [hm]
    have hmx : m < xs.length := by omega
    have hmy : m < ys.length := by have := HL.out; omega
    obtain ⟨b', o', rfl, hB, hcell⟩ := (hy.below hb1).at_ hmy
    have hcy := hcell m hmy
    rw [← getD_at hmy] at hcy
    have hxl : xs.getD m 0 < 4294967296 := by rw [getD_at hmx]; exact dx.at_ hmx
    have hyl : ys.getD m 0 < 4294967296 := by rw [getD_at hmy]; exact dy.at_ hmy
    have HX := Lib.hid (cmpN_of (b := b32) (m := m) dx dy HL.out hmx (fun j h1 h2 => hs j (by omega) h2))
    obtain ⟨x, hX⟩ : ∃ x, Hid (xs.getD m 0 = x) := ⟨_, rfl⟩
    obtain ⟨y, hY⟩ : ∃ y, Hid (ys.getD m 0 = y) := ⟨_, rfl⟩
    rw [hX.out] at HX hxl ⊢
    rw [hY.out] at HX hcy hyl
    have HM := Lib.hid hm
    have HS := Lib.hid hs
    have cY := bY1.cell
    have cR := bR1.cell
    have fR := bR1.frozen
    clear hm hs hcell hx dx dy hb0 bY bR bX hsz hy
    by_cases hxy : x = y
    · have ht : ((x : Int) != (y : Int)) = false := by subst hxy; simp
      have HXY := Lib.hid hxy
      clear hxy
      gi_wp2
      refine ⟨KeepsFrom.refl _ _, fun p _ => rfl, fun j h1 h2 => ?_, bY1, bR1, hb1⟩
      by_cases hjm : j = m
      · subst hjm; rw [hX.out, hY.out]; exact HXY.out
      · exact HS.out j (by have := HM.out; omega) h2
    · have ht : ((x : Int) != (y : Int)) = true := by rw [bne_iff_ne]; omega
      have HXY := Lib.hid hxy
      clear hxy
      gi_wp2_with (refine ⟨trivial, ?_⟩; gi_at_call 77; refine (CallsIn.inRound l (callsIn_wide.2 (cmpWord_any x y _ hxl hyl))).mono ?_; rintro e w' ⟨rfl, rfl⟩)
      refine ⟨(KeepsOthers.setCell _ _ _).from _, rfl, ?_, hb1.setCell (p := ⟨w.heap.size + 1, 0, none⟩) (by simp) _⟩
      rw [HX.out HXY.out]
      exact bR1.set _
  case done =>
    rintro W ⟨hs, bY1, bR1, hb1⟩ hK
    have he : xs = ys := eq_of_getD HL.out fun j hj => hs j (by omega) hj
    have HE : Hid (cmpN (val b32 xs) (val b32 ys) = 0) := by rw [he]; exact cmpN_refl _
    have cR := bR1.cell
    have fR := bR1.frozen
    clear hs he hb0 bY bR bX
    gi_wp2
    have hK' := (KeepsOthers.setCell W ⟨w.heap.size + 1, 0, none⟩ (.int .i64 0)).same _ _ hK rfl
    have bR2 := (bR1.set (.int .i64 0)).kept (grownBy_putObj' _ W0.heap.size (.deferred none)) (by simp; omega)
    refine ⟨by simp, .inl ⟨_, _, rfl, run_takeDeferred hK', ?_⟩⟩
    refine ⟨.int .i64 0, ?_, by rw [HE.out], (hb1.setCell (p := ⟨w.heap.size + 1, 0, none⟩) (by simp) _).grown (grownBy_putObj' _ _ _) (by have := hb1.size; simpa [World.setCell] using this) (fun k e => by cases e; omega)⟩
    have hc5 := bR2.cell
    simp [results, Try.f58, go_sem, hc5]
  case stop =>
    rintro jmp k W hk ⟨rfl, bR1, hb1⟩ hK
    clear hb0 bY bR bX
    gi_wp2
    have bR2 := bR1.kept (grownBy_putObj' _ W0.heap.size (.deferred none)) (by simp; omega)
    refine ⟨by simp, .inl ⟨_, _, rfl, run_takeDeferred hK, ?_⟩⟩
    refine ⟨.int .i64 (cmpN (val b32 xs) (val b32 ys)), ?_, rfl, hb1.grown (grownBy_putObj' _ _ _) hb1.size (fun k e => by cases e; omega)⟩
    have hc5 := bR2.cell
    simp [results, Try.f58, go_sem, hc5]

/-- On rows without zeros at the end compare says how their numbers are ordered. -/
theorem compare_any (A A' : Option Addr) (c c' : Nat) (xs ys : List Nat) (w : World) (hx : Rd .u32 w w.heap.size A xs) (hy : Rd .u32 w w.heap.size A' ys) (tx : trimN xs = xs.length) (ty : trimN ys = ys.length)
    (dx : Dg b32 xs) (dy : Dg b32 ys) (hxc : xs.length ≤ c) (hc : c ≤ 9223372036854775807) (hyc : ys.length ≤ c') (hc' : c' ≤ 9223372036854775807) :
    Calls Try.prog 58 #[.slice A xs.length c, .slice A' ys.length c'] w fun e w' => e = .returned (.int .i64 (cmpN (val b32 xs) (val b32 ys))) ∧ Below w.heap.size w w' := by
  by_cases hl : xs.length = ys.length
  · have h := callsIn_wide.1 (compare_same A A' c c' xs ys w hx hy hl dx dy hxc hc hyc hc')
    rw [hl] at h
    rw [hl]
    exact h
  · rw [cmpN_len (by decide) dx dy tx ty hl]
    exact compare_short A A' c c' _ _ w (by omega) (by omega) hl
end Go.Proofs.Ytlnjnoingiohjaa
