/- Parts: Divs, DivWord, Reverse, Dec, Format. -/
import Derived.Test.YtbpeekhbmabibaaFa1
import Derived.Test.YtbpeekhbmabibaaFa2
import Derived.Test.YtbpeekhbmabibaaFa4
import Derived.Test.YtbpeekhbmabibaaFa5
import Derived.Test.YtbpeekhbmabibaaFa6
import Derived.Laws.IdiomStrings
set_option linter.unusedVariables false

namespace Go.Proofs.Ytbpeekhbmabibaa

/-- Quotient words and remainder. -/
def divs (d : Nat) : List Nat → List Nat × Nat
  | [] => ([], 0)
  | x :: r => (((divs d r).2 * 4294967296 + x) / d :: (divs d r).1, ((divs d r).2 * 4294967296 + x) % d)

theorem divs_length (d : Nat) : ∀ xs, (divs d xs).1.length = xs.length
  | [] => rfl
  | x :: r => by simp [divs, divs_length d r]

theorem divs_lt {d : Nat} (hd : 0 < d) : ∀ xs, (divs d xs).2 < d
  | [] => hd
  | x :: r => Nat.mod_lt _ hd

theorem divs_dg {d : Nat} (hd : 0 < d) : ∀ {xs}, Dg b32 xs → Dg b32 (divs d xs).1
  | [], _ => Dg.nil
  | x :: r, h => by
    have h1 := h x (by simp)
    have h2 := divs_lt hd r
    refine Dg.cons ?_ (divs_dg hd fun e he => h e (List.mem_cons_of_mem _ he))
    unfold b32 at h1 ⊢
    rw [Nat.div_lt_iff_lt_mul hd]
    have h3 : ((divs d r).2 + 1) * 4294967296 ≤ d * 4294967296 := Nat.mul_le_mul_right _ h2
    rw [Nat.mul_comm 4294967296 d]
    omega

theorem divs_val {d : Nat} : ∀ xs, val b32 xs = val b32 (divs d xs).1 * d + (divs d xs).2
  | [] => by simp [divs, val]
  | x :: r => by
    have ih := divs_val (d := d) r
    have h := Nat.div_add_mod ((divs d r).2 * 4294967296 + x) d
    simp only [divs, val]
    rw [ih, Nat.add_mul, Nat.mul_assoc b32, Nat.mul_add]
    generalize val b32 (divs d r).1 * d = a
    rw [Nat.mul_comm d] at h
    generalize ((divs d r).2 * 4294967296 + x) / d * d = b at h ⊢
    generalize ((divs d r).2 * 4294967296 + x) % d = e at h ⊢
    have h2 : b32 * (divs d r).2 = (divs d r).2 * 4294967296 := Nat.mul_comm _ _
    rw [h2]
    omega

theorem divs_quot {d : Nat} (hd : 0 < d) (xs : List Nat) : val b32 (divs d xs).1 = val b32 xs / d ∧ (divs d xs).2 = val b32 xs % d := by
  have h1 := divs_val (d := d) xs
  have h2 := divs_lt hd xs
  rw [h1]
  constructor
  · rw [Nat.add_comm, Nat.add_mul_div_right _ _ hd, Nat.div_eq_of_lt h2]; omega
  · rw [Nat.add_comm, Nat.add_mul_mod_self_right, Nat.mod_eq_of_lt h2]

/-- The row when the words from place m on have been divided. -/
def divRow (d : Nat) (xs : List Nat) (m : Nat) : List Nat := xs.take m ++ (divs d (xs.drop m)).1

theorem divRow_length (d : Nat) (xs : List Nat) (m : Nat) (h : m ≤ xs.length) : (divRow d xs m).length = xs.length := by
  simp [divRow, divs_length]; omega
theorem divRow_full (d : Nat) (xs : List Nat) : divRow d xs xs.length = xs := by simp [divRow, divs]
theorem divRow_zero (d : Nat) (xs : List Nat) : divRow d xs 0 = (divs d xs).1 := by simp [divRow]
theorem divRow_low (d : Nat) (xs : List Nat) (m j : Nat) (hm : m ≤ xs.length) (h : j < m) : (divRow d xs m)[j]? = xs[j]? := by
  unfold divRow
  rw [List.getElem?_append_left (by simp; omega), List.getElem?_take, if_pos h]

theorem divs_step (d : Nat) (xs : List Nat) (m : Nat) (h : m < xs.length) : divs d (xs.drop m) =
    (((divs d (xs.drop (m + 1))).2 * 4294967296 + xs[m]) / d :: (divs d (xs.drop (m + 1))).1, ((divs d (xs.drop (m + 1))).2 * 4294967296 + xs[m]) % d) := by
  rw [List.drop_eq_getElem_cons h]; rfl

theorem divRow_step (d : Nat) (xs : List Nat) (m : Nat) (h : m < xs.length) : divRow d xs m = (divRow d xs (m + 1)).set m (((divs d (xs.drop (m + 1))).2 * 4294967296 + xs[m]) / d) := by
  unfold divRow
  rw [divs_step d xs m h, take_snoc xs m h, List.append_assoc, List.set_append_right _ _ (List.length_take_le _ _)]
  have hl : (xs.take m).length = m := by simp; omega
  rw [hl, Nat.sub_self]
  rfl
end Go.Proofs.Ytbpeekhbmabibaa

namespace Go.Proofs.Ytbpeekhbmabibaa
open Go.RowKit Go.Shelf
attribute [local go_sem] Oper.semAt_some

theorem or_shift (r x : Nat) (hr : r < 4294967296) (hx : x < 4294967296) : (r * 4294967296) ||| x = r * 4294967296 + x := by
  have h := Nat.two_pow_add_eq_or_of_lt (i := 32) (b := x) (by simpa using hx) r
  rw [Nat.mul_comm] at h
  simpa using h.symm

set_option maxRecDepth 100000 in
set_option maxHeartbeats 4000000 in
theorem divWord_any (g sz c d : Nat) (xs : List Nat) (w : World) (hb : Buf .u32 73 g sz xs w) (dx : Dg b32 xs) (hd : 0 < d) (hd2 : d < 4294967296) (hxc : xs.length ≤ c) (hc : c ≤ 9223372036854775807) :
    CallsIn Fence.wide 3 Try.prog 66 #[.slice (some ⟨g, 0, none⟩) xs.length c, .int .u32 (d : Nat)] w fun e w' => e = .returned (.int .u32 ((divs d xs).2 : Nat)) ∧ Buf .u32 73 g sz (divs d xs).1 w' ∧ w.grownBy w' (some g) := by
  have hg := hb.lt
  refine callsIn_of_wp_marks Try.func66 rfl trivial ?_ rfl
  simp only [Try.ntmps66, List.size_toArray, List.length_cons, List.length_nil, Nat.reduceAdd, Nat.reduceSub, Array.replicate_succ, Array.replicate_zero, List.push_toArray, List.append_toArray, List.nil_append, List.cons_append]
  gi_wp2_with (refine ⟨trivial, ?_⟩; gi_at_call 69; refine (callsIn_wide.2 (backward_any _ _ _ _)).mono ?_; rintro e w' ⟨rfl, rfl⟩)
  obtain ⟨W0, hW0⟩ : ∃ W0, W0 = (((w.alloc (.cells #[.slice (some ⟨g, 0, none⟩) xs.length c] 22)).alloc (.cells #[.int .u32 (d : Nat)] 73)).alloc (.cells #[.int .u64 0] 67)).alloc (.cells #[.slice (some ⟨g, 0, none⟩) xs.length c] 22) := ⟨_, rfl⟩
  rw [← hW0]
  have bX : Boxed W0 w.heap.size 22 (.slice (some ⟨g, 0, none⟩) xs.length c) := by rw [hW0]; exact (((Boxed.new w _ _).alloc _).alloc _).alloc _
  have bD : Boxed W0 (w.heap.size + 1) 73 (.int .u32 (d : Nat)) := by
    have h := Boxed.new (w.alloc (.cells #[.slice (some ⟨g, 0, none⟩) xs.length c] 22)) 73 (.int .u32 (d : Nat))
    rw [World.size_alloc] at h
    rw [hW0]; exact (h.alloc _).alloc _
  have bR : Boxed W0 (w.heap.size + 1 + 1) 67 (.int .u64 0) := by
    have h := Boxed.new ((w.alloc (.cells #[.slice (some ⟨g, 0, none⟩) xs.length c] 22)).alloc (.cells #[.int .u32 (d : Nat)] 73)) 67 (.int .u64 0)
    rw [World.size_alloc, World.size_alloc] at h
    rw [hW0]; exact h.alloc _
  have bB : Boxed W0 (w.heap.size + 1 + 1 + 1) 22 (.slice (some ⟨g, 0, none⟩) xs.length c) := by
    have h := Boxed.new (((w.alloc (.cells #[.slice (some ⟨g, 0, none⟩) xs.length c] 22)).alloc (.cells #[.int .u32 (d : Nat)] 73)).alloc (.cells #[.int .u64 0] 67)) 22 (.slice (some ⟨g, 0, none⟩) xs.length c)
    rw [World.size_alloc, World.size_alloc, World.size_alloc] at h
    rw [hW0]; exact h
  have hg0 : w.grownBy W0 (some g) := by
    rw [hW0]
    exact Grown.trans (Grown.trans (Grown.trans (World.grownBy_alloc _ _ _) (World.grownBy_alloc _ _ _)) (World.grownBy_alloc _ _ _)) (World.grownBy_alloc _ _ _)
  have hbuf0 : Buf .u32 73 g sz xs W0 := by
    rw [hW0]
    exact (((hb.kept (World.grownBy_alloc _ _ none) (by simp)).kept (World.grownBy_alloc _ _ none) (by simp)).kept (World.grownBy_alloc _ _ none) (by simp)).kept (World.grownBy_alloc _ _ none) (by simp)
  have hs0 : W0.heap.size = w.heap.size + 4 := by rw [hW0]; simp
  clear hW0
  refine wp_rounds (gf := 80) (lb := #[.pointer (some ⟨w.heap.size + 1 + 1 + 1, 0, none⟩)]) ?hg (enters_of Try.func80 (by kernel_rfl) rfl)
    (N := xs.length) (enc := backE xs) (Keep := fun k => KeepAt (backS (w.heap.size + 1 + 1 + 1) (some ⟨g, 0, none⟩) (xs.length - 1 - k)))
    (fun W hW => backward_gives (w.heap.size + 1 + 1 + 1) w.heap.size c (some ⟨g, 0, none⟩) xs hxc hc W ((hW.cell (p := ⟨w.heap.size + 1 + 1 + 1, 0, none⟩) (by show w.heap.size + 1 + 1 + 1 < _; omega)).trans bB.cell) ((hbuf0.rd hg).below (hW.mono (by omega))))
    (fun k A₁ B₁ o o' _ h => keepAt_round (backS_lt (hbuf0.rd hg) (by omega) (by omega) (by omega)) o o' h)
    ?hps
    (fun k W => Buf .u32 73 g sz (divRow d xs (xs.length - k)) W ∧ Boxed W w.heap.size 22 (.slice (some ⟨g, 0, none⟩) xs.length c) ∧ Boxed W (w.heap.size + 1) 73 (.int .u32 (d : Nat)) ∧
      Boxed W (w.heap.size + 1 + 1) 67 (.int .u64 ((divs d (xs.drop (xs.length - k))).2 : Nat)) ∧ Boxed W (w.heap.size + 1 + 1 + 1) 22 (.slice (some ⟨g, 0, none⟩) xs.length c) ∧ w.grownBy W (some g))
    (fun _ _ _ => False)
    ?hI ?hIx ⟨by rw [Nat.sub_zero, divRow_full]; exact hbuf0, bX, bD, by rw [Nat.sub_zero, List.drop_length]; exact bR, bB, hg0⟩
    (fun k => { tmps := #[.slice (some ⟨g, 0, none⟩) xs.length c, .int .u32 (d : Nat), .pointer (some ⟨w.heap.size, 0, none⟩), .pointer (some ⟨w.heap.size + 1, 0, none⟩), .int .u32 0, .pointer (some ⟨w.heap.size + 1 + 1, 0, none⟩), .int .i64 ((xs.length - 1 - k : Nat) : Int), .int .u32 ((xs.getD (xs.length - 1 - k) 0 : Nat) : Int), undef,
      .slice (some ⟨g, 0, none⟩) xs.length c, .func (.func 80) #[] #[.pointer (some ⟨w.heap.size + 1 + 1 + 1, 0, none⟩)], .int .i64 ((xs.length - 1 - k : Nat) : Int), .int .u32 ((xs.getD (xs.length - 1 - k) 0 : Nat) : Int),
      undef, undef, undef, undef, undef, undef, undef, undef, undef, undef, undef, undef, undef, undef, undef, undef, undef, undef, undef], defers := [] }) ?assign ?body ?done ?stop
  case hg => rfl
  case hps => exact fun _ => rfl
  case hI =>
    exact OwnFrom.and (Own.from (buf_own _ _ _ _ _) _) (OwnFrom.and (Own.from (boxed_own _ _ _) _) (OwnFrom.and (Own.from (boxed_own _ _ _) _) (OwnFrom.and (Own.from (boxed_own _ _ _) _) (OwnFrom.and (Own.from (boxed_own _ _ _) _) (ownFrom_grown (by omega))))))
  case hIx => exact fun _ _ _ _ _ h _ _ => h
  case assign =>
    intro l k W K hK
    unfold backE
    gi_wp2
    exact hK
  case body =>
    rintro l k W hlt ⟨hbf, cX, cD, cR, cB, hgr⟩ hk
    obtain ⟨m, hm⟩ : ∃ m, xs.length - 1 - k = m := ⟨_, rfl⟩
    have hm1 : xs.length - k = m + 1 := by omega
    have hm2 : xs.length - (k + 1) = m := by omega
    simp only [hm, hm1, hm2] at hbf cR ⊢
    have hmx : m < xs.length := by omega
    have hx : xs.getD m 0 < 4294967296 := by rw [getD_at hmx]; exact dx.at_ hmx
    have hr := divs_lt hd (xs.drop (m + 1))
    have HST := Lib.hid (divs_step d xs m hmx)
    have HRW := Lib.hid (divRow_step d xs m hmx)
    rw [← getD_at hmx] at HST HRW
    have hml : m < (divRow d xs (m + 1)).length := by rw [divRow_length d xs _ (by omega)]; exact hmx
    have cM := hbf.cell hml
    have fM := hbf.frozen m
    obtain ⟨x, HX⟩ : ∃ x, Hid (xs.getD m 0 = x) := ⟨_, rfl⟩
    obtain ⟨r, HR⟩ : ∃ r, Hid ((divs d (xs.drop (m + 1))).2 = r) := ⟨_, rfl⟩
    rw [HX.out] at hx HST HRW ⊢
    rw [HR.out] at hr HST HRW cR
    obtain ⟨o, HO⟩ : ∃ o, (divRow d xs (m + 1))[m] = o := ⟨_, rfl⟩
    rw [HO] at cM
    have eX := cX.cell
    have eD := cD.cell
    have eR := cR.cell
    have fR := cR.frozen
    obtain ⟨t, ht⟩ : ∃ t, r * 4294967296 + x = t := ⟨_, rfl⟩
    have HT : Hid (bits .or .u64 ((r : Int) * 4294967296) (x : Int) = (t : Int)) := by
      show _ = _
      have h := bits_or_u64_nat (r * 4294967296) x (by omega) (by omega)
      rw [or_shift r x (by omega) hx, ht] at h
      simpa using h
    have hrm : (r + 1) * 4294967296 ≤ d * 4294967296 := Nat.mul_le_mul_right _ hr
    have htd : t < d * 4294967296 := by omega
    have htl : t < 18446744073709551616 := by omega
    rw [ht] at HST HRW
    obtain ⟨q, hq⟩ : ∃ q, t / d = q := ⟨_, rfl⟩
    obtain ⟨e, he⟩ : ∃ e, t % d = e := ⟨_, rfl⟩
    have hql : q < 4294967296 := by rw [← hq]; rw [Nat.div_lt_iff_lt_mul hd, Nat.mul_comm]; exact htd
    have hel : e < d := by rw [← he]; exact Nat.mod_lt _ hd
    have TQ : Int.tdiv (t : Int) (d : Int) = (q : Int) := by rw [← hq]; rfl
    have TM : Int.tmod (t : Int) (d : Int) = (e : Int) := by rw [← he]; rfl
    have hd0 : ((d : Int) == 0) = false := by simp; omega
    have hd1 : ¬ d = 0 := by omega
    have WD : IntKind.u64.wrap (d : Int) = (d : Int) := by rw [IntKind.wrap_u64]; omega
    have WQ : IntKind.u64.wrap (q : Int) = (q : Int) := by rw [IntKind.wrap_u64]; omega
    have WQ2 : IntKind.u32.wrap (q : Int) = (q : Int) := IntWalk.u32_in _ (by omega)
    have WE : IntKind.u64.wrap (e : Int) = (e : Int) := by rw [IntKind.wrap_u64]; omega
    rw [hq, he] at HST
    rw [hq] at HRW
    have FIN : leftBy W0.heap.size (KeepAt (backS (w.heap.size + 1 + 1 + 1) (some ⟨g, 0, none⟩) m)) (fun V => Buf .u32 73 g sz (divRow d xs m) V ∧ Boxed V w.heap.size 22 (.slice (some ⟨g, 0, none⟩) xs.length c) ∧ Boxed V (w.heap.size + 1) 73 (.int .u32 (d : Nat)) ∧
        Boxed V (w.heap.size + 1 + 1) 67 (.int .u64 ((divs d (xs.drop m)).2 : Nat)) ∧ Boxed V (w.heap.size + 1 + 1 + 1) 22 (.slice (some ⟨g, 0, none⟩) xs.length c) ∧ w.grownBy V (some g)) (fun _ _ => False) W .normal { tmps := #[], defers := [] } ((W.drew.setCell ⟨g, m, none⟩ (.int .u32 (q : Nat))).setCell ⟨w.heap.size + 1 + 1, 0, none⟩ (.int .u64 (e : Nat))) := by
      have g1 : W.grownBy (W.drew.setCell ⟨g, m, none⟩ (.int .u32 (q : Nat))) (some g) := Grown.trans (Grown.drew (World.grownBy.refl W _)) (grownBy_at _ _ _ _)
      have g2 := grownBy_at (W.drew.setCell ⟨g, m, none⟩ (.int .u32 (q : Nat))) (w.heap.size + 1 + 1) 0 (.int .u64 (e : Nat))
      have n1 : some w.heap.size ≠ some g := by simp; omega
      have n2 : some (w.heap.size + 1) ≠ some g := by simp; omega
      have n3 : some (w.heap.size + 1 + 1) ≠ some g := by simp; omega
      have n4 : some (w.heap.size + 1 + 1 + 1) ≠ some g := by simp; omega
      have dB := (cB.kept g1 n4).kept g2 (by simp)
      refine ⟨(((KeepsOthers.drew W).trans (KeepsOthers.setCell _ _ _)).trans (KeepsOthers.setCell _ _ _)).from _, ?_, ?_, (cX.kept g1 n1).kept g2 (by simp; omega), (cD.kept g1 n2).kept g2 (by simp), ?_, dB, ?_⟩
      · rintro p (rfl | ⟨b, o, j, e1, hj, rfl⟩)
        · rw [dB.cell, cB.cell]
        · simp only [Option.some.injEq, Addr.mk.injEq] at e1
          obtain ⟨rfl, rfl, _⟩ := e1
          have hbf2 : Buf .u32 73 g sz ((divRow d xs (m + 1)).set m q) ((W.drew.setCell ⟨g, m, none⟩ (.int .u32 (q : Nat))).setCell ⟨w.heap.size + 1 + 1, 0, none⟩ (.int .u64 (e : Nat))) := ((hbf.kept (w' := W.drew) (Grown.drew (World.grownBy.refl W none)) (by simp)).set m q).kept g2 (by simp; omega)
          have hj2 : j < (divRow d xs (m + 1)).length := by omega
          rw [Nat.zero_add, hbf.cell hj2, hbf2.cell (by simpa using hj2)]
          simp [Nat.ne_of_gt hj]
      · rw [HRW.out]
        exact ((hbf.kept (w' := W.drew) (Grown.drew (World.grownBy.refl W none)) (by simp)).set m q).kept g2 (by simp; omega)
      · rw [HST.out]
        exact (cR.kept g1 n3).set _
      · exact Grown.later (Grown.trans hgr g1) g2 (by simp; omega)
    have FINH := Lib.hid FIN
    clear FIN HST HRW HX HR HO hbf cX cD cR cB hgr bX bD bR bB hg0 hbuf0 dx hq he ht
    gi_wp2_with fail
    rw [HT.out]
    refine region_round follows (by kernel_rfl) ?_
    refine wpAnyIn_take (i := 1) (v := .int .i64 (m : Nat)) rfl rfl (by kernel_rfl) (by kernel_rfl) (by kernel_rfl) (fun _ _ _ h => h) ⟨Or.inl ⟨by rfl, fun _ => by go_simp⟩, fun _ => rfl⟩ ?_
    refine wpAnyIn_take (i := 2) (v := .int .u64 (t : Nat)) rfl rfl (by kernel_rfl) (by kernel_rfl) (by kernel_rfl) (fun _ _ _ h => h) ⟨Or.inl ⟨by rfl, fun _ => by go_simp⟩, fun _ => rfl⟩ ?_
    refine wpAnyIn_ready (rs := [0, 3]) (by kernel_rfl) (by simp) (AllReadyIn.cons rfl (fun K hK => ?_) (AllReadyIn.cons rfl (fun K hK => ?_) AllReadyIn.nil))
    · go_simp; refine hK _ _ ?_; clear hK K
      refine wpAnyIn_ready (rs := [3]) (by kernel_rfl) (by simp) (AllReadyIn.cons rfl (fun K hK => ?_) AllReadyIn.nil)
      go_simp; refine hK _ _ ?_; clear hK K
      refine wpAnyIn_take (i := 4) (v := .int .u64 (d : Nat)) rfl rfl (by kernel_rfl) (by kernel_rfl) (by kernel_rfl) (fun _ _ _ h => h) ⟨Or.inl ⟨by rfl, fun _ => by go_simp⟩, fun _ => rfl⟩ ?_
      refine wpAnyIn_take (i := 5) (v := .int .u64 (q : Nat)) rfl rfl (by kernel_rfl) (by kernel_rfl) (by kernel_rfl) (fun _ _ _ h => h) ⟨Or.inl ⟨by rfl, fun _ => by go_simp⟩, fun _ => rfl⟩ ?_
      refine wpAnyIn_take (i := 6) (v := .int .u32 (q : Nat)) rfl rfl (by kernel_rfl) (by kernel_rfl) (by kernel_rfl) (fun _ _ _ h => h) ⟨Or.inl ⟨by rfl, fun _ => by go_simp⟩, fun _ => rfl⟩ ?_
      refine wpAnyIn_ready (rs := [7]) (by kernel_rfl) (by simp) (AllReadyIn.cons rfl (fun K hK => ?_) AllReadyIn.nil)
      go_simp; refine hK _ _ ?_; clear hK K
      refine wpAnyIn_ready (rs := [8]) (by kernel_rfl) (by simp) (AllReadyIn.cons rfl (fun K hK => ?_) AllReadyIn.nil)
      go_simp; refine hK _ _ ?_; clear hK K
      refine wpAnyIn_done (by kernel_rfl) ?_ _
      gi_wp2_with fail
      exact FINH.out
    · go_simp; refine hK _ _ ?_; clear hK K
      refine wpAnyIn_take (i := 4) (v := .int .u64 (d : Nat)) rfl rfl (by kernel_rfl) (by kernel_rfl) (by kernel_rfl) (fun _ _ _ h => h) ⟨Or.inl ⟨by rfl, fun _ => by go_simp⟩, fun _ => rfl⟩ ?_
      refine wpAnyIn_take (i := 5) (v := .int .u64 (q : Nat)) rfl rfl (by kernel_rfl) (by kernel_rfl) (by kernel_rfl) (fun _ _ _ h => h) ⟨Or.inl ⟨by rfl, fun _ => by go_simp⟩, fun _ => rfl⟩ ?_
      refine wpAnyIn_take (i := 6) (v := .int .u32 (q : Nat)) rfl rfl (by kernel_rfl) (by kernel_rfl) (by kernel_rfl) (fun _ _ _ h => h) ⟨Or.inl ⟨by rfl, fun _ => by go_simp⟩, fun _ => rfl⟩ ?_
      refine wpAnyIn_ready (rs := [0]) (by kernel_rfl) (by simp) (AllReadyIn.cons rfl (fun K hK => ?_) AllReadyIn.nil)
      go_simp; refine hK _ _ ?_; clear hK K
      refine wpAnyIn_ready (rs := [7]) (by kernel_rfl) (by simp) (AllReadyIn.cons rfl (fun K hK => ?_) AllReadyIn.nil)
      go_simp; refine hK _ _ ?_; clear hK K
      refine wpAnyIn_ready (rs := [8]) (by kernel_rfl) (by simp) (AllReadyIn.cons rfl (fun K hK => ?_) AllReadyIn.nil)
      go_simp; refine hK _ _ ?_; clear hK K
      refine wpAnyIn_done (by kernel_rfl) ?_ _
      gi_wp2_with fail
      exact FINH.out
  case done =>
    rintro W ⟨hbf, cX, cD, cR, cB, hgr⟩ hK
    rw [Nat.sub_self] at hbf cR
    rw [divRow_zero] at hbf
    rw [List.drop_zero] at cR
    have hr := divs_lt hd xs
    obtain ⟨r, HR⟩ : ∃ r, Hid ((divs d xs).2 = r) := ⟨_, rfl⟩
    rw [HR.out] at hr cR
    have WR : IntKind.u32.wrap (r : Int) = (r : Int) := IntWalk.u32_in _ (by omega)
    have eR := cR.cell
    have HEND : Hid (Buf .u32 73 g sz (divs d xs).1 W ∧ w.grownBy W (some g) ∧ W.heap[W0.heap.size]? = some (.deferred (some []))) := ⟨hbf, hgr, hK⟩
    clear hbf cX cD cR cB hgr bX bD bR bB hg0 hbuf0 dx hK
    gi_wp2
    obtain ⟨e1, e2, e3⟩ := HEND.out
    refine ⟨by simp, .inl ⟨_, _, rfl, run_takeDeferred e3, ?_⟩⟩
    exact ⟨_, results_tmp rfl _ _ _, by rw [HR.out]; rfl, e1.kept (grownBy_putObj' _ _ _) (by simp; omega), Grown.later e2 (grownBy_putObj' _ _ _) (by simp; omega)⟩
  case stop => exact fun _ _ _ _ h _ => h.elim
end Go.Proofs.Ytbpeekhbmabibaa

namespace Go.Proofs.Ytbpeekhbmabibaa
open Go.RowKit Go.Shelf

/-- The row when k pairs from its ends have changed places. -/
def revK (xs : List Nat) (k : Nat) : List Nat := (List.range xs.length).map fun i => if i < k ∨ xs.length - 1 - i < k then xs.getD (xs.length - 1 - i) 0 else xs.getD i 0

theorem revK_length (xs : List Nat) (k : Nat) : (revK xs k).length = xs.length := by simp [revK]
theorem revK_at (xs : List Nat) (k i : Nat) (h : i < (revK xs k).length) : (revK xs k)[i] = if i < k ∨ xs.length - 1 - i < k then xs.getD (xs.length - 1 - i) 0 else xs.getD i 0 := by simp [revK]

theorem revK_zero (xs : List Nat) : revK xs 0 = xs := by
  apply List.ext_getElem (revK_length xs 0)
  intro i h1 h2
  rw [revK_at, if_neg (by omega), getD_at h2]

theorem revK_all (xs : List Nat) (k : Nat) (h : xs.length ≤ 2 * k + 1) : revK xs k = xs.reverse := by
  apply List.ext_getElem (by rw [revK_length, List.length_reverse])
  intro i h1 h2
  rw [List.length_reverse] at h2
  rw [revK_at, List.getElem_reverse]
  split
  · exact getD_at (by omega)
  · have e : xs.length - 1 - i = i := by omega
    rw [getD_at h2]
    simp only [e]

theorem revK_step (xs : List Nat) (k : Nat) (h : k < xs.length - 1 - k) : revK xs (k + 1) = ((revK xs k).set k (xs.getD (xs.length - 1 - k) 0)).set (xs.length - 1 - k) (xs.getD k 0) := by
  apply List.ext_getElem (by simp [revK_length])
  intro i h1 h2
  rw [revK_length] at h1
  rw [revK_at, List.getElem_set, List.getElem_set, revK_at]
  by_cases e1 : xs.length - 1 - k = i
  · subst e1
    rw [if_pos rfl, if_pos (by omega)]
    congr 1
    omega
  · rw [if_neg e1]
    by_cases e2 : k = i
    · subst e2
      rw [if_pos rfl, if_pos (by omega)]
    · rw [if_neg e2]
      by_cases e3 : i < k ∨ xs.length - 1 - i < k
      · rw [if_pos e3, if_pos (by omega)]
      · rw [if_neg e3, if_neg (by omega)]

set_option maxRecDepth 100000 in
set_option maxHeartbeats 4000000 in
theorem reverse_any (g sz c : Nat) (xs : List Nat) (w : World) (hb : Buf .u8 5 g sz xs w) (hxc : xs.length ≤ c) (hc : c ≤ 9223372036854775807) :
    Calls Try.prog 67 #[.slice (some ⟨g, 0, none⟩) xs.length c] w fun e w' => (∃ v, e = .returned v) ∧ Buf .u8 5 g sz xs.reverse w' ∧ w.grownBy w' (some g) := by
  go_enter Try.func67, Try.ntmps67
  go_wp2
  go_loopw [2, 3] (fun i j wr => ∃ (k : Nat) (j' : Int), i = .int .i64 (k : Nat) ∧ j = .int .i64 j' ∧ j' = (xs.length : Int) - 1 - k ∧ 2 * k ≤ xs.length + 1 ∧ Buf .u8 5 g sz (revK xs k) wr ∧ w.grownBy wr (some g)) (fun i j _ => (intOf j + 1).toNat)
  case atStart => exact ⟨0, _, rfl, rfl, by simp, by omega, by rw [revK_zero]; exact hb, World.grownBy.refl _ _⟩
  case round =>
    obtain ⟨k, j', rfl, rfl, hj, hk, hbf, hgr⟩ := hrel
    by_cases hlt : (k : Int) < j'
    · obtain ⟨m, hm⟩ : ∃ m, xs.length - 1 - k = m := ⟨_, rfl⟩
      obtain rfl : j' = (m : Int) := by omega
      have hkm : k < m := by omega
      have HST := Lib.hid (revK_step xs k (by omega))
      rw [hm] at HST
      have c1 := hbf.cell (j := k) (by rw [revK_length]; omega)
      have c2 := hbf.cell (j := m) (by rw [revK_length]; omega)
      rw [revK_at, if_neg (by omega)] at c1
      rw [revK_at, if_neg (by omega)] at c2
      have f1 := hbf.frozen k
      have f2 := hbf.frozen m
      obtain ⟨p, HP⟩ : ∃ p, Hid (xs.getD k 0 = p) := ⟨_, rfl⟩
      obtain ⟨q, HQ⟩ : ∃ q, Hid (xs.getD m 0 = q) := ⟨_, rfl⟩
      rw [HP.out] at HST c1
      rw [HQ.out] at HST c2
      have hb2 := (hbf.kept (w' := wr.drew) (Grown.drew (World.grownBy.refl wr none)) (by simp)).set k q
      have c3 := hb2.cell (j := m) (by rw [List.length_set, revK_length]; omega)
      have f3 := hb2.frozen m
      obtain ⟨o, HO⟩ : ∃ o, ((revK xs k).set k q)[m]'(by rw [List.length_set, revK_length]; omega) = o := ⟨_, rfl⟩
      rw [HO] at c3
      have FIN : Buf .u8 5 g sz (revK xs (k + 1)) ((wr.drew.setCell ⟨g, k, none⟩ (.int .u8 (q : Nat))).setCell ⟨g, m, none⟩ (.int .u8 (p : Nat))) ∧ w.grownBy ((wr.drew.setCell ⟨g, k, none⟩ (.int .u8 (q : Nat))).setCell ⟨g, m, none⟩ (.int .u8 (p : Nat))) (some g) := by
        rw [HST.out]
        exact ⟨hb2.set m p, Grown.trans (Grown.trans (Grown.drew hgr) (grownBy_at _ _ _ _)) (grownBy_at _ _ _ _)⟩
      have FINH := Lib.hid FIN
      have hk0 : (0 : Int) ≤ (k : Int) := by omega
      have hk1 : (k : Int) < (xs.length : Int) := by omega
      have hm0 : (0 : Int) ≤ (m : Int) := by omega
      have hm1 : (m : Int) < (xs.length : Int) := by omega
      have HJ := Lib.hid hj
      have HM := Lib.hid hm
      clear FIN HO hb2 hbf hgr HST HP HQ hb hj hm
      go_wp2_with fail
      refine wp_region_any (by kernel_rfl) ?_
      refine (show wpAny _ _ _ _ _ _ _ (World.drew _) from ?_)
      refine wpAny_take (i := 0) (v := .slice (some ⟨g, 0, none⟩) xs.length c) rfl (by kernel_rfl) (by kernel_rfl) (by kernel_rfl) (fun _ _ _ h => h) (Or.inl ⟨by rfl, fun _ => by go_simp⟩) ?_
      refine wpAny_take (i := 1) (v := .int .i64 (k : Nat)) rfl (by kernel_rfl) (by kernel_rfl) (by kernel_rfl) (fun _ _ _ h => h) (Or.inl ⟨by rfl, fun _ => by go_simp⟩) ?_
      refine wpAny_take (i := 4) (v := .slice (some ⟨g, 0, none⟩) xs.length c) rfl (by kernel_rfl) (by kernel_rfl) (by kernel_rfl) (fun _ _ _ h => h) (Or.inl ⟨by rfl, fun _ => by go_simp⟩) ?_
      refine wpAny_take (i := 5) (v := .int .i64 (m : Nat)) rfl (by kernel_rfl) (by kernel_rfl) (by kernel_rfl) (fun _ _ _ h => h) (Or.inl ⟨by rfl, fun _ => by go_simp⟩) ?_
      refine wpAny_take (i := 8) (v := .slice (some ⟨g, 0, none⟩) xs.length c) rfl (by kernel_rfl) (by kernel_rfl) (by kernel_rfl) (fun _ _ _ h => h) (Or.inl ⟨by rfl, fun _ => by go_simp⟩) ?_
      refine wpAny_take (i := 9) (v := .int .i64 (k : Nat)) rfl (by kernel_rfl) (by kernel_rfl) (by kernel_rfl) (fun _ _ _ h => h) (Or.inl ⟨by rfl, fun _ => by go_simp⟩) ?_
      refine wpAny_take (i := 2) (v := .slice (some ⟨g, 0, none⟩) xs.length c) rfl (by kernel_rfl) (by kernel_rfl) (by kernel_rfl) (fun _ _ _ h => h) (Or.inl ⟨by rfl, fun _ => by go_simp⟩) ?_
      refine wpAny_take (i := 3) (v := .int .i64 (m : Nat)) rfl (by kernel_rfl) (by kernel_rfl) (by kernel_rfl) (fun _ _ _ h => h) (Or.inl ⟨by rfl, fun _ => by go_simp⟩) ?_
      refine wpAny_take (i := 6) (v := .pointer (some ⟨g, m, none⟩)) rfl (by kernel_rfl) (by kernel_rfl) (by kernel_rfl) (fun _ _ _ h => h) (Or.inl ⟨by rfl, fun _ => by go_simp⟩) ?_
      refine wpAny_take (i := 10) (v := .pointer (some ⟨g, k, none⟩)) rfl (by kernel_rfl) (by kernel_rfl) (by kernel_rfl) (fun _ _ _ h => h) (Or.inl ⟨by rfl, fun _ => by go_simp⟩) ?_
      refine wpAny_ready (rs := [7, 11]) (by kernel_rfl) (by simp) (AllReady.cons rfl (fun K hK => ?_) (AllReady.cons rfl (fun K hK => ?_) AllReady.nil))
      · go_simp; refine hK _ _ ?_; clear hK K
        refine wpAny_ready (rs := [11]) (by kernel_rfl) (by simp) (AllReady.cons rfl (fun K hK => ?_) AllReady.nil)
        go_simp; refine hK _ _ ?_; clear hK K
        refine wpAny_ready (rs := [12]) (by kernel_rfl) (by simp) (AllReady.cons rfl (fun K hK => ?_) AllReady.nil)
        go_simp; refine hK _ _ ?_; clear hK K
        refine wpAny_ready (rs := [13]) (by kernel_rfl) (by simp) (AllReady.cons rfl (fun K hK => ?_) AllReady.nil)
        go_simp; refine hK _ _ ?_; clear hK K
        refine wpAny_ready (rs := [14]) (by kernel_rfl) (by simp) (AllReady.cons rfl (fun K hK => ?_) AllReady.nil)
        go_simp; refine hK _ _ ?_; clear hK K
        refine wpAny_ready (rs := [15]) (by kernel_rfl) (by simp) (AllReady.cons rfl (fun K hK => ?_) AllReady.nil)
        go_simp; refine hK _ _ ?_; clear hK K
        refine wpAny_done (by kernel_rfl) ?_ _
        go_wp2
        go_roundw
        case rel => exact ⟨k + 1, _, by simp, rfl, by have := HJ.out; omega, by have := HM.out; omega, FINH.out.1, FINH.out.2⟩
        case measure => simp [intOf]
      · go_simp; refine hK _ _ ?_; clear hK K
        refine wpAny_ready (rs := [7]) (by kernel_rfl) (by simp) (AllReady.cons rfl (fun K hK => ?_) AllReady.nil)
        go_simp; refine hK _ _ ?_; clear hK K
        refine wpAny_ready (rs := [12]) (by kernel_rfl) (by simp) (AllReady.cons rfl (fun K hK => ?_) AllReady.nil)
        go_simp; refine hK _ _ ?_; clear hK K
        refine wpAny_ready (rs := [13]) (by kernel_rfl) (by simp) (AllReady.cons rfl (fun K hK => ?_) AllReady.nil)
        go_simp; refine hK _ _ ?_; clear hK K
        refine wpAny_ready (rs := [14]) (by kernel_rfl) (by simp) (AllReady.cons rfl (fun K hK => ?_) AllReady.nil)
        go_simp; refine hK _ _ ?_; clear hK K
        refine wpAny_ready (rs := [15]) (by kernel_rfl) (by simp) (AllReady.cons rfl (fun K hK => ?_) AllReady.nil)
        go_simp; refine hK _ _ ?_; clear hK K
        refine wpAny_done (by kernel_rfl) ?_ _
        go_wp2
        go_roundw
        case rel => exact ⟨k + 1, _, by simp, rfl, by have := HJ.out; omega, by have := HM.out; omega, FINH.out.1, FINH.out.2⟩
        case measure => simp [intOf]
    · have HR := Lib.hid (revK_all xs k (by omega))
      rw [HR.out] at hbf
      have HB := Lib.hid hbf
      have HG := Lib.hid hgr
      clear hbf hgr hb
      go_wp2
      go_end0
      exact ⟨⟨_, rfl⟩, HB.out, HG.out⟩
end Go.Proofs.Ytbpeekhbmabibaa

namespace Go.Proofs.Ytbpeekhbmabibaa

/-- The n lowest digits of v, the lowest first. -/
def low (v : Nat) : Nat → List Nat
  | 0 => []
  | n + 1 => low v n ++ [v / 10 ^ n % 10]

theorem low_length (v : Nat) : ∀ n, (low v n).length = n
  | 0 => rfl
  | n + 1 => by simp [low, low_length v n]

theorem low_dg (v : Nat) : ∀ n, Dg 10 (low v n)
  | 0 => Dg.nil
  | n + 1 => by
    intro d hd
    rcases List.mem_append.1 hd with h | h
    · exact low_dg v n d h
    · obtain rfl : d = v / 10 ^ n % 10 := by simpa using h
      exact Nat.mod_lt _ (by decide)

theorem low_val (v : Nat) : ∀ n, val 10 (low v n) = v % 10 ^ n
  | 0 => by simp [low, val, Nat.mod_one]
  | n + 1 => by
    rw [low, val_append, low_val v n, low_length]
    simp only [val, Nat.mul_zero, Nat.add_zero]
    rw [Nat.pow_succ, Nat.mod_mul]

theorem low_dig {v j : Nat} (h : v < 10 ^ j) (h2 : 10 ^ (j - 1) ≤ v) (hj : 0 < j) : low v j = dig 10 v := by
  have h3 := trimL_dig (b := 10) (by decide) (low_dg v j)
  rw [low_val, Nat.mod_eq_of_lt h] at h3
  have h4 : (trimL (low v j)).length = j := by
    have h5 := trimL_le (low v j)
    rw [low_length] at h5
    by_cases h6 : (trimL (low v j)).length = j
    · exact h6
    · exfalso
      have h7 := val_lt (b := 10) (xs := trimL (low v j)) (by rw [h3]; exact Dg_dig (by decide) v)
      rw [val_trimL, low_val, Nat.mod_eq_of_lt h] at h7
      have h8 : 10 ^ (trimL (low v j)).length ≤ 10 ^ (j - 1) := Nat.pow_le_pow_right (by decide) (by omega)
      omega
  rw [trimL_length] at h4
  rw [← h3, trimL, h4]
  exact (List.take_of_length_le (by rw [low_length]; exact Nat.le_refl _)).symm

theorem low_take (v : Nat) {n : Nat} : ∀ {m : Nat}, n ≤ m → (low v m).take n = low v n
  | 0, h => by obtain rfl : n = 0 := by omega
               rfl
  | m + 1, h => by
    by_cases h2 : n = m + 1
    · subst h2; exact List.take_of_length_le (by rw [low_length]; omega)
    · rw [low, List.take_append_of_le_length (by rw [low_length]; omega)]
      exact low_take v (by omega)

/-- The low digits of what is left once n of them are gone. -/
theorem low_shift (v n i : Nat) : v / 10 ^ n % 10 ^ 9 / 10 ^ i % 10 = if i < 9 then v / 10 ^ (n + i) % 10 else 0 := by
  by_cases h : i < 9
  · rw [if_pos h, Nat.pow_add, ← Nat.div_div_eq_div_mul]
    have e : (10 : Nat) ^ 9 = 10 ^ i * (10 * 10 ^ (8 - i)) := by
      rw [← Nat.mul_assoc, ← Nat.pow_succ, ← Nat.pow_add]
      congr 1
      omega
    generalize v / 10 ^ n = a
    rw [e, Nat.mod_mul_right_div_self, Nat.mod_mul_right_mod]
  · rw [if_neg h, Nat.div_eq_of_lt (Nat.lt_of_lt_of_le (Nat.mod_lt _ (by decide)) (Nat.pow_le_pow_right (by decide) (by omega)))]

/-- The bytes of the decimal representation, the last one first. -/
def revB (neg : Bool) (ds : List Nat) : List Nat := ds.map (48 + ·) ++ (if neg then [45] else [])
end Go.Proofs.Ytbpeekhbmabibaa

namespace Go.Proofs.Ytbpeekhbmabibaa
open Go.RowKit Go.Shelf

theorem infoByte : (Try.prog.info? 5).map (fun i => (i.zero, i.size, i.bytes)) = some (some (.int .u8 0), 1, 1) := by kernel_rfl

/-- The bytes of the decimal representation. -/
def decB (neg : Bool) (m : Nat) : List Nat := if m = 0 then [48] else (revB neg (dig 10 m)).reverse
def decS (neg : Bool) (m : Nat) : ByteArray := ⟨((decB neg m).map UInt8.ofNat).toArray⟩

theorem Buf.of_own {kd : IntKind} {w : World} {base : Nat} {e : TypeId} {g n cap : Nat} {xs : List Nat} (hn : xs.length = n) (h : w.ownsRow base e 1 (.slice (some ⟨g, 0, none⟩) n cap) n (ints kd xs)) : Buf kd e g cap xs w ∧ base ≤ g ∧ n ≤ cap ∧ cap ≤ 9223372036854775807 := by
  rcases h.2 with ⟨e, _⟩ | ⟨g', cap', cur, e, hb, hg, h1, h2, h3, h4⟩
  · cases e
  · injection e with e1 e2 e3
    injection e1 with e1
    injection e1 with e1
    subst e1 e3 hn
    exact ⟨⟨cur, hg, by omega, by rw [← h4, Nat.mul_one]⟩, hb, h1, by simpa [maxLen] using h2⟩

theorem Buf.own {kd : IntKind} {ty : TypeId} {g sz : Nat} {xs : List Nat} {w : World} (h : Buf kd ty g sz xs w) {base : Nat} (hb : base ≤ g) (hs : sz ≤ 9223372036854775807) : w.ownsRow base ty 1 (.slice (some ⟨g, 0, none⟩) xs.length sz) xs.length (ints kd xs) := by
  have hl := h.le
  obtain ⟨cur, h1, h2, h3⟩ := h
  exact ⟨by simp [ints], .inr ⟨g, sz, cur, rfl, hb, h1, hl, by simpa [maxLen] using hs, by omega, by rw [Nat.mul_one]; exact h3⟩⟩

theorem Buf.take {kd : IntKind} {ty : TypeId} {g sz : Nat} {xs : List Nat} {w : World} (h : Buf kd ty g sz xs w) (n : Nat) : Buf kd ty g sz (xs.take n) w := by
  obtain ⟨cur, h1, h2, h3⟩ := h
  refine ⟨cur, h1, h2, ?_⟩
  have h4 := congrArg (List.take n) h3
  rw [List.take_take] at h4
  rw [List.length_take, h4]
  simp [ints, List.map_take]

theorem Buf.not_row {kd : IntKind} {ty e : TypeId} {g sz : Nat} {xs : List Nat} {w : World} (h : Buf kd ty g sz xs w) (hte : ty ≠ e) {base size n : Nat} {v : Value} {ys : List Value} (hr : w.ownsRow base e size v n ys) : some g ≠ v.ownBlock := by
  obtain ⟨cur, h1, _⟩ := h
  rcases hr.2 with ⟨rfl, _⟩ | ⟨g', cap, cur', rfl, _, hgb, _⟩
  · simp [Value.ownBlock]
  · intro e'
    obtain rfl : g = g' := by simpa [Value.ownBlock] using e'
    have := h1.symm.trans hgb
    simp at this
    exact hte this.2

theorem pow_bound {a n V : Nat} (h1 : 10 ^ a ≤ V) (h2 : V < b32 ^ n) : a < 10 * n := by
  have h3 : b32 ^ n ≤ (10 ^ 10) ^ n := Nat.pow_le_pow_left (by decide) n
  rw [← Nat.pow_mul] at h3
  exact (Nat.pow_lt_pow_iff_right (by decide)).1 (Nat.lt_of_le_of_lt h1 (Nat.lt_of_lt_of_le h2 h3))

/-- The text so far: the last byte first. -/
def tx (V n : Nat) : List Nat := (low V n).map (48 + ·)
theorem tx_length (V n : Nat) : (tx V n).length = n := by simp [tx, low_length]
theorem tx_succ (V n : Nat) : tx V (n + 1) = tx V n ++ [48 + V / 10 ^ n % 10] := by simp [tx, low]

/-- How long a slice is. -/
def lenV : Value → Nat
  | .slice _ n _ => n
  | _ => 0

theorem conv_any {g sz cap : Nat} {ys : List Nat} {w : World} (h : Buf .u8 5 g sz ys w) (hy : Dg 256 ys) :
    (convert 86 9 (.slice (some ⟨g, 0, none⟩) ys.length cap)).run Try.prog w = .ok (.string ⟨(ys.map UInt8.ofNat).toArray⟩) w := by
  have h1 := run_convert_bytes_back (P := Try.prog) w 86 9 5 ⟨g, 0, none⟩ cap (ys.map UInt8.ofNat) Try.underlying86 Try.underlying5 Try.underlying9 (by
    intro j hj
    have hj2 : j < ys.length := by simpa using hj
    have h2 := h.cell hj2
    have h3 : ys[j] < 256 := hy.at_ hj2
    have h4 : (⟨g, 0, none⟩ : Addr).add j = ⟨g, j, none⟩ := by cases j <;> simp [Addr.add]
    rw [h4, h2]
    simp
    omega)
  simpa using h1

theorem Dg.append {b : Nat} {xs ys : List Nat} (h : Dg b xs) (k : Dg b ys) : Dg b (xs ++ ys) := fun d hd => (List.mem_append.1 hd).elim (h d) (k d)

theorem tx_dg (V n : Nat) : Dg 256 (tx V n) := by
  intro d hd
  obtain ⟨e, he, rfl⟩ := List.mem_map.1 hd
  have := low_dg V n e he
  omega

theorem tx_at (V : Nat) {n j : Nat} (h : j < n) : (tx V n).getD j 0 = 48 + V / 10 ^ j % 10 := by
  have h1 : (tx V n).take (j + 1) = tx V (j + 1) := by
    unfold tx
    rw [← List.map_take, low_take V (by omega)]
  have h2 : ((tx V n).take (j + 1)).getD j 0 = (tx V n).getD j 0 := by simp [List.getD]
  rw [← h2, h1, tx_succ, List.getD, List.getElem?_append_right (by rw [tx_length]; omega), tx_length, Nat.sub_self]
  rfl

/-- What the text holds once its zeros are gone. -/
theorem tx_dec {V j : Nat} (neg : Bool) (h : V < 10 ^ (j + 1)) (h2 : V / 10 ^ j ≠ 0) (hV : V ≠ 0) : (tx V (j + 1) ++ (if neg then [45] else [])).reverse = decB neg V := by
  have h3 : 10 ^ j ≤ V := Nat.le_of_not_lt fun h => h2 (Nat.div_eq_of_lt h)
  unfold decB revB
  rw [if_neg hV, ← low_dig h (by simpa using h3) (by omega)]
  rfl

theorem div_step (V k : Nat) : V / 10 ^ (9 * k) / 1000000000 = V / 10 ^ (9 * (k + 1)) := by
  rw [Nat.mul_add, Nat.pow_add, ← Nat.div_div_eq_div_mul]

theorem digit_at (V k i : Nat) (h : i < 9) : V / 10 ^ (9 * k) % 1000000000 / 10 ^ i % 10 = V / 10 ^ (9 * k + i) % 10 := by
  have h1 := low_shift V (9 * k) i
  rwa [if_pos h] at h1

set_option maxHeartbeats 1000000 in
theorem format_zero (neg : Bool) {A : Option Addr} {c : Nat} {xs : List Nat} {w : World} (hx : Arg w A c xs) (h0 : val b32 xs = 0) :
    Calls Try.prog 42 #[.agg #[.bool neg, .slice A xs.length c]] w fun e w' => e = .returned (.string (decS neg (val b32 xs))) ∧ Below w.heap.size w w' := by
  have hx1 := hx.to ((Below.refl w.heap.size w).alloc (Nat.le_refl _) (.cells #[.bool neg, .slice A xs.length c] 24))
  have ht : trimL xs = [] := by rw [trimL_dig b32_one hx.dg, h0]; rfl
  have HS : Hid (decS neg (val b32 xs) = ⟨#[48]⟩) := by show _ = _; rw [h0]; rfl
  have HT := Lib.hid (trim_q hx1)
  have HC := Lib.hid (clone_any c hx1.trim.rd (by rw [ht]; simp))
  rw [ht] at HT HC
  have hb1 := Lib.hid ((Below.refl w.heap.size w).alloc (Nat.le_refl _) (.cells #[.bool neg, .slice A xs.length c] 24))
  clear hx1 hx h0 ht
  go_enter Try.func42, Try.ntmps42
  go_wp2_with fail
  refine HT.out.mono ?_
  rintro e w' ⟨rfl, rfl⟩
  go_wp2_with fail
  refine HC.out.mono ?_
  rintro e w2 ⟨v, rfl, hown, hb2⟩
  obtain ⟨A2, c2, rfl⟩ := own_shape hown
  have HB := Lib.hid (hb1.out.trans (hb2.mono hb1.out.size))
  clear hown hb2
  go_wp2
  go_ret
  exact ⟨by rw [HS.out]; rfl, HB.out⟩

set_option maxRecDepth 100000 in
set_option maxHeartbeats 4000000 in
theorem format_pos (neg : Bool) {A : Option Addr} {c : Nat} {xs : List Nat} {w : World} (hx : Arg w A c xs) (h0 : val b32 xs ≠ 0) :
    Calls Try.prog 42 #[.agg #[.bool neg, .slice A xs.length c]] w fun e w' => e = .returned (.string (decS neg (val b32 xs))) ∧ Below w.heap.size w w' := by
  obtain ⟨i0, hi', hz0, hz1, hz2⟩ := info_parts infoByte
  have hx1 := hx.to ((Below.refl w.heap.size w).alloc (Nat.le_refl _) (.cells #[.bool neg, .slice A xs.length c] 24))
  have tZ := Zat.new w (.bool neg) (.slice A xs.length c)
  have hsm := hx1.trim.small
  have ht : trimL xs = dig b32 (val b32 xs) := trimL_dig b32_one hx.dg
  have HT := Lib.hid (trim_q hx1)
  have HC := Lib.hid (clone_any c hx1.trim.rd (by omega))
  rw [ht] at HT HC hsm
  obtain ⟨V, eV⟩ : ∃ V, val b32 xs = V := ⟨_, rfl⟩
  rw [eV] at h0 hsm HT HC ⊢
  obtain ⟨n, hn⟩ : ∃ n, (dig b32 V).length = n := ⟨_, rfl⟩
  have hn0 : 0 < n := by rw [← hn, List.length_pos_iff]; exact fun h => h0 ((dig_nil b32_one).1 h)
  have hVn : V < b32 ^ n := by
    have h := val_lt (Dg_dig b32_one V)
    rwa [val_dig b32_one, hn] at h
  rw [hn] at hsm HT
  have HN := Lib.hid hn
  have hb1 := (Below.refl w.heap.size w).alloc (Nat.le_refl _) (.cells #[.bool neg, .slice A xs.length c] 24)
  have HB1 := Lib.hid hb1
  have TZ := Lib.hid tZ
  clear hx1 hx ht eV hn hb1 tZ
  go_enter Try.func42, Try.ntmps42
  go_wp2_with fail
  refine HT.out.mono ?_
  rintro e w' ⟨rfl, rfl⟩
  go_wp2_with fail
  rw [← HN.out]
  refine HC.out.mono ?_
  rintro e w2 ⟨v, rfl, hown, hb2⟩
  rw [HN.out] at hown
  obtain ⟨m, rfl⟩ : ∃ m, n = m + 1 := ⟨n - 1, by omega⟩
  obtain ⟨g, cap, rfl⟩ := ownsRow_succ hown
  obtain ⟨hbuf, hg1, hg2, hg3⟩ := Buf.of_own HN.out hown
  have tZ2 : Zat w2 w.heap.size (.bool neg) (.slice A xs.length c) := (hb2.block w.heap.size (by simp)).trans TZ.out
  have hbw : Below w.heap.size w w2 := HB1.out.trans (hb2.mono (by simp))
  have hs2 := hbw.size
  have hq : (((m + 1 : Nat) : Int) == 0) = false := by rw [beq_eq_false_iff_ne]; omega
  have hgw : w.heap.size + 1 ≤ g := by simpa using hg1
  clear hown hb2 HT HC HB1 TZ hg1
  go_wp2_with (at_make; refine wpList_make_own _ rfl _ _ 86 rfl w.heap.size 5 i0 (.int .u8 0) 1 Try.underlying86 hi' hz0 hz1 .i64 .i64 _ (10 * (m + 1) + 9 + 1) rfl rfl (by omega) (by rw [hz2]; omega) (by unfold maxLen; omega) hs2 ?_; intro w4 hown4 hgrow4)
  have tZ4 := tZ2.kept hgrow4 (by simp)
  have hbuf4 := hbuf.kept hgrow4 (by simp)
  have hb4 : Below w.heap.size w w4 := hbw.grown hgrow4 hs2 (fun k e => by cases e)
  clear hgrow4 tZ2 hbuf hbw hs2 hq
  go_loopw [3, 4] (fun rv tv wr => ∃ (k : Nat) (tA : Option Addr) (tc : Nat), rv = .slice (some ⟨g, 0, none⟩) (dig b32 (V / 10 ^ (9 * k))).length cap ∧ tv = .slice tA (9 * k) tc ∧ (V / 10 ^ (9 * k) = 0 → 0 < k) ∧ (1 < k → 9 * k ≤ 10 * (m + 1) + 9) ∧ Buf .u32 73 g cap (dig b32 (V / 10 ^ (9 * k))) wr ∧ wr.ownsRow w.heap.size 5 1 (.slice tA (9 * k) tc) (9 * k) (ints .u8 (tx V (9 * k))) ∧ Zat wr w.heap.size (.bool neg) (.slice A xs.length c) ∧ Below w.heap.size w wr)
    (fun _ tv _ => 10 * (m + 1) + 18 - lenV tv)
  case atStart => exact ⟨0, some ⟨w2.heap.size, 0, none⟩, 10 * (m + 1) + 9 + 1, by simp [HN.out], by rfl, by simp [h0], by omega, by simpa using hbuf4, by simpa [tx, low, ints] using hown4, tZ4, hb4⟩
  case round =>
    obtain ⟨k, tA, tc, rfl, rfl, hk0, hkp, hbf, hot, tZ5, hb5⟩ := hrel
    by_cases hz : V / 10 ^ (9 * k) = 0
    · have hk1 := hk0 hz
      have hVk : V < 10 ^ (9 * k) := Nat.lt_of_not_le fun h => absurd (Nat.div_pos h (Nat.pow_pos (by decide))) (by omega)
      have hz2 : (dig b32 (V / 10 ^ (9 * k))).length = 0 := by rw [hz]; rfl
      rw [hz2]
      have hkb : 9 * k ≤ 10 * (m + 1) + 9 := by
        by_cases h1 : k = 1
        · omega
        · have h2 := hkp (by omega)
          omega
      obtain ⟨N, hN⟩ : ∃ N, 9 * k = N + 1 := ⟨9 * k - 1, by omega⟩
      rw [hN] at hot hVk hkb ⊢
      obtain ⟨g2, c2, e2⟩ := ownsRow_succ hot
      injection e2 with e3 _ e4
      subst e3 e4
      obtain ⟨hbt, hg4, hg5, hg6⟩ := Buf.of_own (tx_length V (N + 1)) hot
      have HBT := Lib.hid hbt
      have HV := Lib.hid hVk
      have hs5 := hb5.size
      have HB5 := Lib.hid hb5
      have TZ5 := Lib.hid tZ5
      clear hbf hot hbt hVk hb5 tZ5 hz hz2 hk0 hN
      go_wp2
      go_loop [4] (fun tv => ∃ j, tv = .slice (some ⟨g2, 0, none⟩) (j + 1) tc ∧ j ≤ N ∧ Hid (V < 10 ^ (j + 1))) (fun tv => lenV tv)
      case atStart => exact ⟨N, rfl, Nat.le_refl _, HV⟩
      case round =>
        obtain ⟨j, rfl, hjN, hVj⟩ := hrel
        have hc := HBT.out.cell (j := j) (by rw [tx_length]; omega)
        have hdl : V / 10 ^ j < 10 := by rw [Nat.div_lt_iff_lt_mul (Nat.pow_pos (by decide)), Nat.mul_comm]; exact hVj.out
        rw [← getD_at, tx_at V (by omega), Nat.mod_eq_of_lt hdl] at hc
        obtain ⟨d, ed⟩ : ∃ d, Hid (V / 10 ^ j = d) := ⟨_, rfl⟩
        rw [ed.out] at hdl hc
        by_cases hd0 : d = 0
        · subst hd0
          have hj1 : 0 < j := by
            rcases Nat.eq_zero_or_pos j with h | h
            · have h2 := ed.out
              rw [h, Nat.pow_zero, Nat.div_one] at h2
              exact absurd h2 h0
            · exact h
          obtain ⟨i, rfl⟩ : ∃ i, j = i + 1 := ⟨j - 1, by omega⟩
          have HVI : Hid (V < 10 ^ (i + 1)) := Nat.lt_of_not_le fun h => absurd (Nat.div_pos h (Nat.pow_pos (by decide))) (by have := ed.out; omega)
          go_wp2
          go_round
          case rel => exact ⟨i, by simp, by omega, HVI⟩
          case measure => simp [lenV]
        · have hE : ((48 + (d : Int)) == 48) = false := by rw [beq_eq_false_iff_ne]; omega
          have hE2 : ¬ (48 + (d : Int)) = 48 := by omega
          have hbj := HBT.out.take (j + 1)
          have e5 : (tx V (N + 1)).take (j + 1) = tx V (j + 1) := by unfold tx; rw [← List.map_take, low_take V (by omega)]
          rw [e5] at hbj
          have HDEC := fun neg => tx_dec neg hVj.out (by rw [ed.out]; exact hd0) h0
          have HDECH := Lib.hid HDEC
          have cN := TZ5.out.two.c0
          have hlj : (tx V (j + 1)).length = j + 1 := tx_length V (j + 1)
          have hlr : (tx V (j + 1)).reverse.length = j + 1 := by rw [List.length_reverse]; exact hlj
          have hjc : j + 1 ≤ tc := by omega
          have HBJ := Lib.hid hbj
          clear HDEC e5 hbj hd0
          cases neg with
          | false =>
            have HR := reverse_any g2 tc tc (tx V (j + 1)) wr HBJ.out (by rw [hlj]; exact hjc) hg6
            rw [hlj] at HR
            have HRH := Lib.hid HR
            have HLR := Lib.hid hlr
            clear HR hlj hlr
            go_wp2_with fail
            refine HRH.out.mono ?_
            rintro e w8 ⟨⟨v8, rfl⟩, hb8, hg8⟩
            have hcv := conv_any (cap := tc) hb8 (fun e he => tx_dg V (j + 1) e (List.mem_reverse.1 he))
            rw [HLR.out] at hcv
            have HRES : Hid (.string ⟨((tx V (j + 1)).reverse.map UInt8.ofNat).toArray⟩ = Value.string (decS false V)) := by
              have h := HDECH.out false
              simp only [Bool.false_eq_true, if_false, List.append_nil] at h
              show _ = _
              rw [h]; rfl
            have HBEL := Lib.hid (HB5.out.trans (Grown.below hg8 hg4 hs5))
            rw [HRES.out] at hcv
            clear hb8 hg8
            go_wp2
            go_ret
            exact ⟨rfl, HBEL.out⟩
          | true =>
            have hot2 := (Buf.own HBJ.out hg4 hg6).alloc (.cells #[.int .u8 45] 5)
            rw [hlj] at hot2
            have HBA := Lib.hid (HB5.out.alloc hs5 (.cells #[.int .u8 45] 5))
            have hlt : (Value.slice (some ⟨g2, 0, none⟩) (j + 1) tc).ownBlock = some g2 := rfl
            clear hlr
            go_wp2_with (at_builtin; revert hot2)
            intro hot2
            (refine wpList_append_own _ rfl (.tmp 52) (.tmp 53) 86 rfl w.heap.size 5 i0 (.int .u8 0) 1 1 Try.underlying86 hi' hz0 hz1 hz2 rfl (by decide) (.slice (some ⟨g2, 0, none⟩) (j + 1) tc) (j + 1) _ rfl hot2 ⟨wr.heap.size, 0, none⟩ 1 1 [.int .u8 45] rfl rfl ?c2 (by simp [Value.oneCell']) (by unfold maxLen; omega) (by omega) (by simp; omega) ?_)
            case c2 =>
              intro j' u' hj
              match j', hj with
              | 0, hj =>
                simp at hj
                subst hj
                simp [Addr.add]
            · intro v' w1 hown' hgrow _
              obtain ⟨g3, c3, rfl⟩ := ownsRow_succ hown'
              have hl3 : (tx V (j + 1) ++ [45]).length = j + 1 + 1 := by rw [List.length_append, hlj]; rfl
              obtain ⟨hb3, hg7, hg8, hg9⟩ := Buf.of_own (kd := .u8) (xs := tx V (j + 1) ++ [45]) hl3 (by simpa [ints] using hown')
              have hbel3 := HBA.out.grown hgrow (by simp; omega) (fun j e => by rw [hlt] at e; cases e; exact hg4)
              have HR := reverse_any g3 c3 c3 (tx V (j + 1) ++ [45]) w1 hb3 (by rw [hl3]; exact hg8) hg9
              rw [hl3] at HR
              have HRH := Lib.hid HR
              have hs3 := hbel3.size
              have HB3 := Lib.hid hbel3
              have HL3 : Hid ((tx V (j + 1) ++ [45]).reverse.length = j + 1 + 1) := by show _ = _; rw [List.length_reverse]; exact hl3
              clear HR hlj hl3 hb3 hbel3 hown' hgrow hot2
              go_wp2_with fail
              refine HRH.out.mono ?_
              rintro e w8 ⟨⟨v8, rfl⟩, hb8, hg10⟩
              have hcv := conv_any (cap := c3) hb8 (fun e he => by
                rcases List.mem_append.1 (List.mem_reverse.1 he) with h | h
                · exact tx_dg V (j + 1) e h
                · obtain rfl : e = 45 := by simpa using h
                  decide)
              rw [HL3.out] at hcv
              have HRES : Hid (.string ⟨((tx V (j + 1) ++ [45]).reverse.map UInt8.ofNat).toArray⟩ = Value.string (decS true V)) := by
                have h := HDECH.out true
                simp only [if_true] at h
                show _ = _
                rw [h]; rfl
              have HBEL := Lib.hid (HB3.out.trans (Grown.below hg10 hg7 hs3))
              rw [HRES.out] at hcv
              clear hb8 hg10
              go_wp2
              go_ret
              exact ⟨rfl, HBEL.out⟩
    · have hpk : 10 ^ (9 * k) ≤ V := Nat.le_of_not_lt fun h => hz (Nat.div_eq_of_lt h)
      have hkb := pow_bound hpk hVn
      have HST := Lib.hid (div_step V k)
      have HDG := fun i (h : i < 9) => digit_at V k i h
      have HDGH := Lib.hid HDG
      clear HDG
      obtain ⟨u, eu⟩ : ∃ u, Hid (V / 10 ^ (9 * k) = u) := ⟨_, rfl⟩
      rw [eu.out] at hz hbf HST HDGH ⊢
      have hl : 0 < (dig b32 u).length := List.length_pos_iff.2 fun h => hz ((dig_nil b32_one).1 h)
      have HDW := callsIn_wide.1 (divWord_any g cap cap 1000000000 (dig b32 u) wr hbf (Dg_dig b32_one u) (by decide) (by decide) hbf.le hg3)
      obtain ⟨hq1, hq2⟩ := divs_quot (d := 1000000000) (by decide) (dig b32 u)
      rw [val_dig b32_one] at hq1 hq2
      have hPl : u % 1000000000 < 1000000000 := Nat.mod_lt _ (by decide)
      obtain ⟨P, eP⟩ : ∃ P, Hid (u % 1000000000 = P) := ⟨_, rfl⟩
      rw [eP.out] at hPl HDGH hq2
      have hdq := divs_dg (d := 1000000000) (by decide) (Dg_dig b32_one u)
      have hlq := divs_length 1000000000 (dig b32 u)
      obtain ⟨qs, hqs⟩ : ∃ qs, (divs 1000000000 (dig b32 u)).1 = qs := ⟨_, rfl⟩
      rw [hqs] at hq1 hdq hlq HDW
      rw [hq2] at HDW
      have htr : trimL qs = dig b32 (u / 1000000000) := by rw [trimL_dig b32_one hdq, hq1]
      have hnr : some g ≠ (Value.slice tA (9 * k) tc).ownBlock := hbf.not_row (by decide) hot
      have HDWH := Lib.hid HDW
      have hlz : (0 : Int) < ((dig b32 u).length : Int) := by omega
      clear HDW hq1 hq2 hqs
      go_wp2_with fail
      refine HDWH.out.mono ?_
      rintro e w6 ⟨rfl, hbf6, hgr6⟩
      have hot6 := hot.kept hgr6 (.inr (Ne.symm hnr))
      have tZ6 := tZ5.kept hgr6 (by simp; omega)
      have hb6 := hb5.trans (Grown.below hgr6 (by omega) hb5.size)
      have HTR := Lib.hid (trim_any (some ⟨g, 0, none⟩) cap w6.heap.size qs w6 (hbf6.rd hbf6.lt) hbf6.le hg3)
      rw [hlq, ← trimL_length, htr] at HTR
      have hbf7 := hbf6.take (trimN qs)
      change Buf _ _ _ _ (trimL qs) _ at hbf7
      rw [htr] at hbf7
      clear hbf hot tZ5 hb5 hgr6 hbf6 hnr htr hdq hlq HDWH
      go_wp2_with fail
      refine HTR.out.mono ?_
      rintro e w' ⟨rfl, rfl⟩
      clear HTR hl hlz
      obtain ⟨wo, hwo⟩ : ∃ wo : World, wo = wr := ⟨_, rfl⟩
      go_wp2
      go_loopw [4, 5, 26] (fun tv pv iv wi => ∃ (i : Nat) (sA : Option Addr) (sc : Nat), iv = .int .i64 i ∧ i ≤ 9 ∧ pv = .int .u32 (P / 10 ^ i : Nat) ∧ tv = .slice sA (9 * k + i) sc ∧ Buf .u32 73 g cap (dig b32 (u / 1000000000)) wi ∧ wi.ownsRow w.heap.size 5 1 (.slice sA (9 * k + i) sc) (9 * k + i) (ints .u8 (tx V (9 * k + i))) ∧ Zat wi w.heap.size (.bool neg) (.slice A xs.length c) ∧ Below w.heap.size w wi)
        (fun _ _ iv _ => 9 - (intOf iv).toNat)
      case atStart => exact ⟨0, tA, tc, rfl, by omega, by simp, rfl, hbf7, hot6, tZ6, hb6⟩
      case round =>
        obtain ⟨i, sA, sc, rfl, hi9, rfl, rfl, hbi, hoi, tZi, hbel⟩ := hrel
        by_cases hi : i < 9
        · have HD := Lib.hid (HDGH.out i hi)
          obtain ⟨p, hp⟩ : ∃ p, P / 10 ^ i = p := ⟨_, rfl⟩
          have hp2 : P / 10 ^ (i + 1) = p / 10 := by rw [Nat.pow_succ, ← Nat.div_div_eq_div_mul, hp]
          have hpl : p < 1000000000 := by rw [← hp]; exact Nat.lt_of_le_of_lt (Nat.div_le_self _ _) hPl
          rw [hp] at HD ⊢
          have HP2 := Lib.hid hp2
          have d1 : p % 10 < 10 := Nat.mod_lt _ (by decide)
          obtain ⟨r, hr⟩ : ∃ r, p % 10 = r := ⟨_, rfl⟩
          obtain ⟨q, hq⟩ : ∃ q, p / 10 = q := ⟨_, rfl⟩
          rw [hr] at HD d1
          rw [hq] at HP2
          have hql : q < 1000000000 := by rw [← hq]; omega
          have T1 : Int.tmod (p : Int) 10 = (r : Int) := by rw [← hr]; rfl
          have T2 : Int.tdiv (p : Int) 10 = (q : Int) := by rw [← hq]; rfl
          have W1 : IntKind.u32.wrap (r : Int) = (r : Int) := IntWalk.u32_in _ (by omega)
          have W2 : IntKind.u32.wrap (48 + (r : Int)) = 48 + (r : Int) := IntWalk.u32_in _ (by omega)
          have W3 : IntKind.u8.wrap (48 + (r : Int)) = 48 + (r : Int) := by simp [IntKind.wrap, IntKind.bits, IntKind.signed]; omega
          have W4 : IntKind.u32.wrap (q : Int) = (q : Int) := IntWalk.u32_in _ (by omega)
          have hiz : (i : Int) < 9 := by omega
          have W5 : IntKind.i64.wrap ((i : Int) + 1) = (i : Int) + 1 := IntWalk.i64_in _ (by omega)
          have hs1 := hbel.size
          have hb1 := hbel.alloc hs1 (.cells #[.int .u8 (48 + (r : Int))] 5)
          have ho1 := hoi.alloc (.cells #[.int .u8 (48 + (r : Int))] 5)
          have hnr := hbi.not_row (by decide) hoi
          have hnz := tZi.not_row hoi (by decide)
          have NEXT : ∀ v' w1, w1.ownsRow w.heap.size 5 1 v' (9 * k + i + 1) (ints .u8 (tx V (9 * k + i)) ++ [.int .u8 (48 + (r : Int))]) → (wr.alloc (.cells #[.int .u8 (48 + (r : Int))] 5)).grownBy w1 (Value.slice sA (9 * k + i) sc).ownBlock →
              ∃ (A2 : Option Addr) (c2 : Nat), v' = .slice A2 (9 * k + (i + 1)) c2 ∧ Buf .u32 73 g cap (dig b32 (u / 1000000000)) w1 ∧ w1.ownsRow w.heap.size 5 1 (.slice A2 (9 * k + (i + 1)) c2) (9 * k + (i + 1)) (ints .u8 (tx V (9 * k + (i + 1)))) ∧ Zat w1 w.heap.size (.bool neg) (.slice A xs.length c) ∧ Below w.heap.size w w1 := by
            intro v' w1 hown' hgrow
            obtain ⟨A2, c2, rfl⟩ := own_shape hown'
            refine ⟨A2, c2, rfl, (hbi.kept (World.grownBy_alloc _ _ none) (by simp)).kept hgrow hnr, ?_, (tZi.alloc _).kept hgrow hnz, hb1.grown hgrow (by simp; omega) (fun j e => (hoi.lt j e).1)⟩
            rw [← Nat.add_assoc, tx_succ, ← HD.out]
            simpa [ints] using hown'
          have HNX := Lib.hid NEXT
          clear NEXT hr hq hp hp2 hbi hoi tZi hbel hb1 hnr hnz
          go_wp2_with (at_builtin; refine wpList_append_own _ rfl (.tmp 28) (.tmp 33) 86 rfl w.heap.size 5 i0 (.int .u8 0) 1 1 Try.underlying86 hi' hz0 hz1 hz2 rfl (by decide) (.slice sA (9 * k + i) sc) (9 * k + i) _ rfl ho1 ⟨wr.heap.size, 0, none⟩ 1 1 [.int .u8 (48 + (r : Int))] rfl rfl ?c1 (by simp [Value.oneCell']) (by unfold maxLen; omega) (by omega) (by simp; omega) ?_)
          case c1 =>
            intro j u' hj
            match j, hj with
            | 0, hj =>
              simp at hj
              subst hj
              simp [Addr.add]
          · intro v' w1 hown' hgrow _
            obtain ⟨A2, c2, rfl, n1, n2, n3, n4⟩ := HNX.out v' w1 hown' hgrow
            clear hown' hgrow ho1
            go_wp2
            go_roundw
            case rel => exact ⟨i + 1, A2, c2, by simp, by omega, by rw [HP2.out], rfl, n1, n2, n3, n4⟩
            case measure => simp [intOf]; omega
        · obtain rfl : i = 9 := by omega
          have e9 : 9 * k + 9 = 9 * (k + 1) := by omega
          rw [e9] at hoi ⊢
          have HB := Lib.hid hbi
          have HO := Lib.hid hoi
          have HZ := Lib.hid tZi
          have HL := Lib.hid hbel
          rw [HST.out] at HB
          clear hbi hoi tZi hbel e9
          go_wp2
          go_roundw
          case rel => exact ⟨k + 1, sA, sc, by rw [HST.out], rfl, fun _ => by omega, fun _ => by omega, HB.out, HO.out, HZ.out, HL.out⟩
          case measure => simp [lenV]; omega

theorem format_any (neg : Bool) {A : Option Addr} {c : Nat} {xs : List Nat} {w : World} (hx : Arg w A c xs) :
    Calls Try.prog 42 #[.agg #[.bool neg, .slice A xs.length c]] w fun e w' => e = .returned (.string (decS neg (val b32 xs))) ∧ Below w.heap.size w w' := by
  by_cases h0 : val b32 xs = 0
  · exact format_zero neg hx h0
  · exact format_pos neg hx h0
end Go.Proofs.Ytbpeekhbmabibaa
