/- whole.divideByWord: the words are divided where they lie. -/
import Derived.Test.YtlnjnoingiohjaaBackward
import Derived.Test.YtlnjnoingiohjaaDivs
import Derived.Test.YtlnjnoingiohjaaBuf
import Derived.Test.YtlnjnoingiohjaaU64
namespace Go.Proofs.Ytlnjnoingiohjaa
open Go.RowKit Go.Shelf
attribute [local go_sem] Oper.semAt_some

theorem or_shift (r x : Nat) (hr : r < 4294967296) (hx : x < 4294967296) : (r * 4294967296) ||| x = r * 4294967296 + x := by
  have h := Nat.two_pow_add_eq_or_of_lt (i := 32) (b := x) (by simpa using hx) r
  rw [Nat.mul_comm] at h
  simpa using h.symm

set_option maxRecDepth 100000 in
set_option maxHeartbeats 4000000 in
theorem divWord_any (g sz c d : Nat) (xs : List Nat) (w : World) (hb : Buf .u32 52 g sz xs w) (dx : Dg b32 xs) (hd : 0 < d) (hd2 : d < 4294967296) (hxc : xs.length ≤ c) (hc : c ≤ 9223372036854775807) :
    CallsIn Fence.wide 3 Try.prog 64 #[.slice (some ⟨g, 0, none⟩) xs.length c, .int .u32 (d : Nat)] w fun e w' => e = .returned (.int .u32 ((divs d xs).2 : Nat)) ∧ Buf .u32 52 g sz (divs d xs).1 w' ∧ w.grownBy w' (some g) := by
  have hg := hb.lt
  refine callsIn_of_wp_marks Try.func64 rfl trivial ?_ rfl
  simp only [Try.ntmps64, List.size_toArray, List.length_cons, List.length_nil, Nat.reduceAdd, Nat.reduceSub, Array.replicate_succ, Array.replicate_zero, List.push_toArray, List.append_toArray, List.nil_append, List.cons_append]
  gi_wp2_with (refine ⟨trivial, ?_⟩; gi_at_call 76; refine (callsIn_wide.2 (backward_any _ _ _ _)).mono ?_; rintro e w' ⟨rfl, rfl⟩)
  obtain ⟨W0, hW0⟩ : ∃ W0, W0 = (((w.alloc (.cells #[.slice (some ⟨g, 0, none⟩) xs.length c] 22)).alloc (.cells #[.int .u32 (d : Nat)] 52)).alloc (.cells #[.int .u64 0] 48)).alloc (.cells #[.slice (some ⟨g, 0, none⟩) xs.length c] 22) := ⟨_, rfl⟩
  rw [← hW0]
  have bX : Boxed W0 w.heap.size 22 (.slice (some ⟨g, 0, none⟩) xs.length c) := by rw [hW0]; exact (((Boxed.new w _ _).alloc _).alloc _).alloc _
  have bD : Boxed W0 (w.heap.size + 1) 52 (.int .u32 (d : Nat)) := by
    have h := Boxed.new (w.alloc (.cells #[.slice (some ⟨g, 0, none⟩) xs.length c] 22)) 52 (.int .u32 (d : Nat))
    rw [World.size_alloc] at h
    rw [hW0]; exact (h.alloc _).alloc _
  have bR : Boxed W0 (w.heap.size + 1 + 1) 48 (.int .u64 0) := by
    have h := Boxed.new ((w.alloc (.cells #[.slice (some ⟨g, 0, none⟩) xs.length c] 22)).alloc (.cells #[.int .u32 (d : Nat)] 52)) 48 (.int .u64 0)
    rw [World.size_alloc, World.size_alloc] at h
    rw [hW0]; exact h.alloc _
  have bB : Boxed W0 (w.heap.size + 1 + 1 + 1) 22 (.slice (some ⟨g, 0, none⟩) xs.length c) := by
    have h := Boxed.new (((w.alloc (.cells #[.slice (some ⟨g, 0, none⟩) xs.length c] 22)).alloc (.cells #[.int .u32 (d : Nat)] 52)).alloc (.cells #[.int .u64 0] 48)) 22 (.slice (some ⟨g, 0, none⟩) xs.length c)
    rw [World.size_alloc, World.size_alloc, World.size_alloc] at h
    rw [hW0]; exact h
  have hg0 : w.grownBy W0 (some g) := by
    rw [hW0]
    exact Grown.trans (Grown.trans (Grown.trans (World.grownBy_alloc _ _ _) (World.grownBy_alloc _ _ _)) (World.grownBy_alloc _ _ _)) (World.grownBy_alloc _ _ _)
  have hbuf0 : Buf .u32 52 g sz xs W0 := by
    rw [hW0]
    exact (((hb.kept (World.grownBy_alloc _ _ none) (by simp)).kept (World.grownBy_alloc _ _ none) (by simp)).kept (World.grownBy_alloc _ _ none) (by simp)).kept (World.grownBy_alloc _ _ none) (by simp)
  have hs0 : W0.heap.size = w.heap.size + 4 := by rw [hW0]; simp
  clear hW0
  refine wp_rounds (gf := 87) (lb := #[.pointer (some ⟨w.heap.size + 1 + 1 + 1, 0, none⟩)]) ?hg (enters_of Try.func87 (by kernel_rfl) rfl)
    (N := xs.length) (enc := backE xs) (Keep := fun k => KeepAt (backS (w.heap.size + 1 + 1 + 1) (some ⟨g, 0, none⟩) (xs.length - 1 - k)))
    (fun W hW => backward_gives (w.heap.size + 1 + 1 + 1) w.heap.size c (some ⟨g, 0, none⟩) xs hxc hc W ((hW.cell (p := ⟨w.heap.size + 1 + 1 + 1, 0, none⟩) (by show w.heap.size + 1 + 1 + 1 < _; omega)).trans bB.cell) ((hbuf0.rd hg).below (hW.mono (by omega))))
    (fun k A₁ B₁ o o' _ h => keepAt_round (backS_lt (hbuf0.rd hg) (by omega) (by omega) (by omega)) o o' h)
    ?hps
    (fun k W => Buf .u32 52 g sz (divRow d xs (xs.length - k)) W ∧ Boxed W w.heap.size 22 (.slice (some ⟨g, 0, none⟩) xs.length c) ∧ Boxed W (w.heap.size + 1) 52 (.int .u32 (d : Nat)) ∧
      Boxed W (w.heap.size + 1 + 1) 48 (.int .u64 ((divs d (xs.drop (xs.length - k))).2 : Nat)) ∧ Boxed W (w.heap.size + 1 + 1 + 1) 22 (.slice (some ⟨g, 0, none⟩) xs.length c) ∧ w.grownBy W (some g))
    (fun _ _ _ => False)
    ?hI ?hIx ⟨by rw [Nat.sub_zero, divRow_full]; exact hbuf0, bX, bD, by rw [Nat.sub_zero, List.drop_length]; exact bR, bB, hg0⟩
    (fun k => { tmps := #[.slice (some ⟨g, 0, none⟩) xs.length c, .int .u32 (d : Nat), .pointer (some ⟨w.heap.size, 0, none⟩), .pointer (some ⟨w.heap.size + 1, 0, none⟩), .int .u32 0, .pointer (some ⟨w.heap.size + 1 + 1, 0, none⟩), .int .i64 ((xs.length - 1 - k : Nat) : Int), .int .u32 ((xs.getD (xs.length - 1 - k) 0 : Nat) : Int), undef,
      .slice (some ⟨g, 0, none⟩) xs.length c, .func (.func 87) #[] #[.pointer (some ⟨w.heap.size + 1 + 1 + 1, 0, none⟩)], .int .i64 ((xs.length - 1 - k : Nat) : Int), .int .u32 ((xs.getD (xs.length - 1 - k) 0 : Nat) : Int),
      undef, undef, undef, undef, undef, undef, undef, undef, undef, undef, undef, undef, undef, undef, undef, undef, undef, undef, undef], defers := [] }) ?assign ?body ?done ?stop
  case hg => rfl
  case hps => exact fun _ => rfl
  case hI =>
    exact OwnFrom.and (Own.from (buf_own _ _ _ _ _) _) (OwnFrom.and (Own.from (boxed_own _ _ _) _) (OwnFrom.and (Own.from (boxed_own _ _ _) _) (OwnFrom.and (Own.from (boxed_own _ _ _) _) (OwnFrom.and (Own.from (boxed_own _ _ _) _) (ownFrom_grown (by omega))))))
  case hIx => exact fun _ _ _ _ _ h _ _ => h
  case assign =>
    intro l k W K hK
    unfold backE
    gi_wp2
    exact hK
  case body =>
    rintro l k W hlt ⟨hbf, cX, cD, cR, cB, hgr⟩ hk
    obtain ⟨m, hm⟩ : ∃ m, xs.length - 1 - k = m := ⟨_, rfl⟩
    have hm1 : xs.length - k = m + 1 := by omega
    have hm2 : xs.length - (k + 1) = m := by omega
    simp only [hm, hm1, hm2] at hbf cR ⊢
    have hmx : m < xs.length := by omega
    have hx : xs.getD m 0 < 4294967296 := by rw [getD_at hmx]; exact dx.at_ hmx
    have hr := divs_lt hd (xs.drop (m + 1))
    have HST := Lib.hid (divs_step d xs m hmx)
    have HRW := Lib.hid (divRow_step d xs m hmx)
    rw [← getD_at hmx] at HST HRW
    have hml : m < (divRow d xs (m + 1)).length := by rw [divRow_length d xs _ (by omega)]; exact hmx
    have cM := hbf.cell hml
    have fM := hbf.frozen m
    obtain ⟨x, HX⟩ : ∃ x, Hid (xs.getD m 0 = x) := ⟨_, rfl⟩
    obtain ⟨r, HR⟩ : ∃ r, Hid ((divs d (xs.drop (m + 1))).2 = r) := ⟨_, rfl⟩
    rw [HX.out] at hx HST HRW ⊢
    rw [HR.out] at hr HST HRW cR
    obtain ⟨o, HO⟩ : ∃ o, (divRow d xs (m + 1))[m] = o := ⟨_, rfl⟩
    rw [HO] at cM
    have eX := cX.cell
    have eD := cD.cell
    have eR := cR.cell
    have fR := cR.frozen
    obtain ⟨t, ht⟩ : ∃ t, r * 4294967296 + x = t := ⟨_, rfl⟩
    have HT : Hid (bits .or .u64 ((r : Int) * 4294967296) (x : Int) = (t : Int)) := by
      show _ = _
      have h := bits_or_u64_nat (r * 4294967296) x (by omega) (by omega)
      rw [or_shift r x (by omega) hx, ht] at h
      simpa using h
    have hrm : (r + 1) * 4294967296 ≤ d * 4294967296 := Nat.mul_le_mul_right _ hr
    have htd : t < d * 4294967296 := by omega
    have htl : t < 18446744073709551616 := by omega
    rw [ht] at HST HRW
    obtain ⟨q, hq⟩ : ∃ q, t / d = q := ⟨_, rfl⟩
    obtain ⟨e, he⟩ : ∃ e, t % d = e := ⟨_, rfl⟩
    have hql : q < 4294967296 := by rw [← hq]; rw [Nat.div_lt_iff_lt_mul hd, Nat.mul_comm]; exact htd
    have hel : e < d := by rw [← he]; exact Nat.mod_lt _ hd
    have TQ : Int.tdiv (t : Int) (d : Int) = (q : Int) := by rw [← hq]; rfl
    have TM : Int.tmod (t : Int) (d : Int) = (e : Int) := by rw [← he]; rfl
    have hd0 : ((d : Int) == 0) = false := by simp; omega
    have hd1 : ¬ d = 0 := by omega
    have WD : IntKind.u64.wrap (d : Int) = (d : Int) := by rw [IntKind.wrap_u64]; omega
    have WQ : IntKind.u64.wrap (q : Int) = (q : Int) := by rw [IntKind.wrap_u64]; omega
    have WQ2 : IntKind.u32.wrap (q : Int) = (q : Int) := IntWalk.u32_in _ (by omega)
    have WE : IntKind.u64.wrap (e : Int) = (e : Int) := by rw [IntKind.wrap_u64]; omega
    rw [hq, he] at HST
    rw [hq] at HRW
    have FIN : leftBy W0.heap.size (KeepAt (backS (w.heap.size + 1 + 1 + 1) (some ⟨g, 0, none⟩) m)) (fun V => Buf .u32 52 g sz (divRow d xs m) V ∧ Boxed V w.heap.size 22 (.slice (some ⟨g, 0, none⟩) xs.length c) ∧ Boxed V (w.heap.size + 1) 52 (.int .u32 (d : Nat)) ∧
        Boxed V (w.heap.size + 1 + 1) 48 (.int .u64 ((divs d (xs.drop m)).2 : Nat)) ∧ Boxed V (w.heap.size + 1 + 1 + 1) 22 (.slice (some ⟨g, 0, none⟩) xs.length c) ∧ w.grownBy V (some g)) (fun _ _ => False) W .normal { tmps := #[], defers := [] } ((W.drew.setCell ⟨g, m, none⟩ (.int .u32 (q : Nat))).setCell ⟨w.heap.size + 1 + 1, 0, none⟩ (.int .u64 (e : Nat))) := by
      have g1 : W.grownBy (W.drew.setCell ⟨g, m, none⟩ (.int .u32 (q : Nat))) (some g) := Grown.trans (Grown.drew (World.grownBy.refl W _)) (grownBy_at _ _ _ _)
      have g2 := grownBy_at (W.drew.setCell ⟨g, m, none⟩ (.int .u32 (q : Nat))) (w.heap.size + 1 + 1) 0 (.int .u64 (e : Nat))
      have n1 : some w.heap.size ≠ some g := by simp; omega
      have n2 : some (w.heap.size + 1) ≠ some g := by simp; omega
      have n3 : some (w.heap.size + 1 + 1) ≠ some g := by simp; omega
      have n4 : some (w.heap.size + 1 + 1 + 1) ≠ some g := by simp; omega
      have dB := (cB.kept g1 n4).kept g2 (by simp)
      refine ⟨(((KeepsOthers.drew W).trans (KeepsOthers.setCell _ _ _)).trans (KeepsOthers.setCell _ _ _)).from _, ?_, ?_, (cX.kept g1 n1).kept g2 (by simp; omega), (cD.kept g1 n2).kept g2 (by simp), ?_, dB, ?_⟩
      · rintro p (rfl | ⟨b, o, j, e1, hj, rfl⟩)
        · rw [dB.cell, cB.cell]
        · simp only [Option.some.injEq, Addr.mk.injEq] at e1
          obtain ⟨rfl, rfl, _⟩ := e1
          have hbf2 : Buf .u32 52 g sz ((divRow d xs (m + 1)).set m q) ((W.drew.setCell ⟨g, m, none⟩ (.int .u32 (q : Nat))).setCell ⟨w.heap.size + 1 + 1, 0, none⟩ (.int .u64 (e : Nat))) := ((hbf.kept (w' := W.drew) (Grown.drew (World.grownBy.refl W none)) (by simp)).set m q).kept g2 (by simp; omega)
          have hj2 : j < (divRow d xs (m + 1)).length := by omega
          rw [Nat.zero_add, hbf.cell hj2, hbf2.cell (by simpa using hj2)]
          simp [Nat.ne_of_gt hj]
      · rw [HRW.out]
        exact ((hbf.kept (w' := W.drew) (Grown.drew (World.grownBy.refl W none)) (by simp)).set m q).kept g2 (by simp; omega)
      · rw [HST.out]
        exact (cR.kept g1 n3).set _
      · exact Grown.later (Grown.trans hgr g1) g2 (by simp; omega)
    have FINH := Lib.hid FIN
    clear FIN HST HRW HX HR HO hbf cX cD cR cB hgr bX bD bR bB hg0 hbuf0 dx hq he ht
    gi_wp2_with fail
    rw [HT.out]
    refine region_round follows (by kernel_rfl) ?_
    refine wpAnyIn_take (i := 1) (v := .int .i64 (m : Nat)) rfl rfl (by kernel_rfl) (by kernel_rfl) (by kernel_rfl) (fun _ _ _ h => h) ⟨Or.inl ⟨by rfl, fun _ => by go_simp⟩, fun _ => rfl⟩ ?_
    refine wpAnyIn_take (i := 2) (v := .int .u64 (t : Nat)) rfl rfl (by kernel_rfl) (by kernel_rfl) (by kernel_rfl) (fun _ _ _ h => h) ⟨Or.inl ⟨by rfl, fun _ => by go_simp⟩, fun _ => rfl⟩ ?_
    refine wpAnyIn_ready (rs := [0, 3]) (by kernel_rfl) (by simp) (AllReadyIn.cons rfl (fun K hK => ?_) (AllReadyIn.cons rfl (fun K hK => ?_) AllReadyIn.nil))
    · go_simp; refine hK _ _ ?_; clear hK K
      refine wpAnyIn_ready (rs := [3]) (by kernel_rfl) (by simp) (AllReadyIn.cons rfl (fun K hK => ?_) AllReadyIn.nil)
      go_simp; refine hK _ _ ?_; clear hK K
      refine wpAnyIn_take (i := 4) (v := .int .u64 (d : Nat)) rfl rfl (by kernel_rfl) (by kernel_rfl) (by kernel_rfl) (fun _ _ _ h => h) ⟨Or.inl ⟨by rfl, fun _ => by go_simp⟩, fun _ => rfl⟩ ?_
      refine wpAnyIn_take (i := 5) (v := .int .u64 (q : Nat)) rfl rfl (by kernel_rfl) (by kernel_rfl) (by kernel_rfl) (fun _ _ _ h => h) ⟨Or.inl ⟨by rfl, fun _ => by go_simp⟩, fun _ => rfl⟩ ?_
      refine wpAnyIn_take (i := 6) (v := .int .u32 (q : Nat)) rfl rfl (by kernel_rfl) (by kernel_rfl) (by kernel_rfl) (fun _ _ _ h => h) ⟨Or.inl ⟨by rfl, fun _ => by go_simp⟩, fun _ => rfl⟩ ?_
      refine wpAnyIn_ready (rs := [7]) (by kernel_rfl) (by simp) (AllReadyIn.cons rfl (fun K hK => ?_) AllReadyIn.nil)
      go_simp; refine hK _ _ ?_; clear hK K
      refine wpAnyIn_ready (rs := [8]) (by kernel_rfl) (by simp) (AllReadyIn.cons rfl (fun K hK => ?_) AllReadyIn.nil)
      go_simp; refine hK _ _ ?_; clear hK K
      refine wpAnyIn_done (by kernel_rfl) ?_ _
      gi_wp2_with fail
      exact FINH.out
    · go_simp; refine hK _ _ ?_; clear hK K
      refine wpAnyIn_take (i := 4) (v := .int .u64 (d : Nat)) rfl rfl (by kernel_rfl) (by kernel_rfl) (by kernel_rfl) (fun _ _ _ h => h) ⟨Or.inl ⟨by rfl, fun _ => by go_simp⟩, fun _ => rfl⟩ ?_
      refine wpAnyIn_take (i := 5) (v := .int .u64 (q : Nat)) rfl rfl (by kernel_rfl) (by kernel_rfl) (by kernel_rfl) (fun _ _ _ h => h) ⟨Or.inl ⟨by rfl, fun _ => by go_simp⟩, fun _ => rfl⟩ ?_
      refine wpAnyIn_take (i := 6) (v := .int .u32 (q : Nat)) rfl rfl (by kernel_rfl) (by kernel_rfl) (by kernel_rfl) (fun _ _ _ h => h) ⟨Or.inl ⟨by rfl, fun _ => by go_simp⟩, fun _ => rfl⟩ ?_
      refine wpAnyIn_ready (rs := [0]) (by kernel_rfl) (by simp) (AllReadyIn.cons rfl (fun K hK => ?_) AllReadyIn.nil)
      go_simp; refine hK _ _ ?_; clear hK K
      refine wpAnyIn_ready (rs := [7]) (by kernel_rfl) (by simp) (AllReadyIn.cons rfl (fun K hK => ?_) AllReadyIn.nil)
      go_simp; refine hK _ _ ?_; clear hK K
      refine wpAnyIn_ready (rs := [8]) (by kernel_rfl) (by simp) (AllReadyIn.cons rfl (fun K hK => ?_) AllReadyIn.nil)
      go_simp; refine hK _ _ ?_; clear hK K
      refine wpAnyIn_done (by kernel_rfl) ?_ _
      gi_wp2_with fail
      exact FINH.out
  case done =>
    rintro W ⟨hbf, cX, cD, cR, cB, hgr⟩ hK
    rw [Nat.sub_self] at hbf cR
    rw [divRow_zero] at hbf
    rw [List.drop_zero] at cR
    have hr := divs_lt hd xs
    obtain ⟨r, HR⟩ : ∃ r, Hid ((divs d xs).2 = r) := ⟨_, rfl⟩
    rw [HR.out] at hr cR
    have WR : IntKind.u32.wrap (r : Int) = (r : Int) := IntWalk.u32_in _ (by omega)
    have eR := cR.cell
    have HEND : Hid (Buf .u32 52 g sz (divs d xs).1 W ∧ w.grownBy W (some g) ∧ W.heap[W0.heap.size]? = some (.deferred (some []))) := ⟨hbf, hgr, hK⟩
    clear hbf cX cD cR cB hgr bX bD bR bB hg0 hbuf0 dx hK
    gi_wp2
    obtain ⟨e1, e2, e3⟩ := HEND.out
    refine ⟨by simp, .inl ⟨_, _, rfl, run_takeDeferred e3, ?_⟩⟩
    exact ⟨_, results_tmp rfl _ _ _, by rw [HR.out]; rfl, e1.kept (grownBy_putObj' _ _ _) (by simp; omega), Grown.later e2 (grownBy_putObj' _ _ _) (by simp; omega)⟩
  case stop => exact fun _ _ _ _ h _ => h.elim
end Go.Proofs.Ytlnjnoingiohjaa
