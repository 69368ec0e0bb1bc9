/- Parts: Long, ParseEx, Divs, DivWord, Reverse, Dec. -/
import Derived.Test.YtoaghihhobggoaaDv1
import Derived.Test.YtoaghihhobggoaaDv2
import Derived.Test.YtoaghihhobggoaaDv5
import Derived.Test.YtoaghihhobggoaaDv7
import Derived.Test.YtoaghihhobggoaaDv9
import Derived.Test.YtoaghihhobggoaaDv10
set_option linter.unusedVariables false
set_option linter.unusedSimpArgs false

namespace Go.Proofs.Ytoaghihhobggoaa
open Go.RowKit Go.Shelf

set_option maxHeartbeats 1000000 in
theorem long_any (g : Nat) (ns : List Nat) (cap : Nat) (w : World) (h : ∀ (k : Nat) (hk : k < ns.length), ∃ A c, w.cell? ⟨g, k * 2 + 1, none⟩ = some (.slice A ns[k] c)) (hs : ∀ (k : Nat) (hk : k < ns.length), ns[k] ≤ 9223372036854775807) (hl : ns.length ≤ 1000) :
    Calls Try.prog 9 #[.slice (some ⟨g, 0, none⟩) ns.length cap] w fun e w' => e = .returned (.bool (ns.any fun n => decide (12 < n))) ∧ w' = w := by
  have H := Lib.hid h
  have HS := Lib.hid hs
  clear h hs
  go_enter Try.func9, Try.ntmps9
  go_wp2
  go_loopw [3] (fun i wr => ∃ k : Nat, i = .int .i64 k ∧ k ≤ ns.length ∧ (∀ j (hj : j < ns.length), j < k → ns[j] ≤ 12) ∧ wr = w) (fun i _ => ns.length - (intOf i).toNat)
  case atStart => exact ⟨0, rfl, Nat.zero_le _, (fun j _ hj => by omega), rfl⟩
  case round =>
    obtain ⟨k, rfl, hk, ht, rfl⟩ := hrel
    have HT := Lib.hid ht
    clear ht
    by_cases hlt : k < ns.length
    · obtain ⟨A, c, hc⟩ := H.out k hlt
      have hsm := HS.out k hlt
      have HN : Hid (ns[k] = ns[k]) := rfl
      generalize hn : ns[k] = n at hc hsm HN
      have HN2 := Lib.hid hn
      clear hn HN
      have hki : (0 : Int) ≤ (k : Int) := by omega
      have hki' : (k : Int) < (ns.length : Int) := by omega
      by_cases he : 12 < n
      · go_wp2
        go_ret
        refine ⟨?_, rfl⟩
        have : (ns.any fun n => decide (12 < n)) = true := by
          rw [List.any_eq_true]
          exact ⟨ns[k], List.getElem_mem hlt, by rw [HN2.out]; exact decide_eq_true he⟩
        rw [this]
        rfl
      · go_wp2
        go_roundw
        case rel => exact ⟨k + 1, by simp, by omega, (fun j hj hjk => by
          rcases Nat.lt_or_ge j k with h1 | h1
          · exact HT.out j hj h1
          · obtain rfl : j = k := by omega
            rw [HN2.out]; omega), trivial⟩
        case measure => simp [intOf]; omega
    · obtain rfl : k = ns.length := by omega
      clear hlt
      go_wp2
      go_ret
      refine ⟨?_, rfl⟩
      have : (ns.any fun n => decide (12 < n)) = false := by
        rw [List.any_eq_false]
        intro x hx
        obtain ⟨j, hj, rfl⟩ := List.getElem_of_mem hx
        have := HT.out j hj hj
        simpa using this
      rw [this]
      rfl
end Go.Proofs.Ytoaghihhobggoaa

namespace Go.Proofs.Ytoaghihhobggoaa
open Go.RowKit Go.Shelf

set_option maxHeartbeats 1000000 in
theorem cut_minus (w : World) : Calls Try.prog 66 #[.string ⟨#[45, 48]⟩, .string ⟨#[45]⟩] w fun e w' => e = .returned (.tuple #[.string ⟨#[48]⟩, .bool true]) ∧ w = w' := by
  have e1 : ((({ data := #[45, 48] } : ByteArray).extract 0 1).toList == [45]) = true := by decide +kernel
  have e2 : (({ data := #[45, 48] } : ByteArray).extract 1 2) = ⟨#[48]⟩ := by decide +kernel
  go_enter Try.func66, Try.ntmps66
  go_wp2
  go_ret2
  exact ⟨by simp [e2], rfl⟩
set_option maxHeartbeats 1000000 in
theorem isDecimal_zero (w : World) : Calls Try.prog 67 #[.string ⟨#[48]⟩] w fun e w' => e = .returned (.bool true) ∧ w = w' := by
  go_enter Try.func67, Try.ntmps67
  go_wp2
  refine wp_loop_rounds 2 ?_
  rw [rounds_succ]
  go_wp2
  rw [rounds_succ]
  go_wp2
  go_ret
  exact ⟨rfl, rfl⟩
set_option maxHeartbeats 1000000 in
theorem parse_minus_zero (w : World) : Calls Try.prog 38 #[.string ⟨#[45, 48]⟩] w fun e w' => e = .returned (.tuple #[.agg #[.bool false, .slice none 0 0], .int .i64 3]) ∧ Below w.heap.size w w' := by
  have e1 : ((({ data := #[48] } : ByteArray)).toList == [48]) = true := by decide +kernel
  go_enter Try.func38, Try.ntmps38
  go_wp2_with (first | (go_at_call 66; refine (cut_minus _).mono ?_; rintro e w' ⟨rfl, rfl⟩) | (go_at_call 67; refine (isDecimal_zero _).mono ?_; rintro e w' ⟨rfl, rfl⟩))
  exact bodyPost_ret (v := .tuple #[.agg #[.bool false, .slice none 0 0], .int .i64 3]) (by simp [results, Try.f38, go_sem]) rfl ⟨rfl, (Below.refl _ _).alloc (Nat.le_refl _) _⟩
end Go.Proofs.Ytoaghihhobggoaa

namespace Go.Proofs.Ytoaghihhobggoaa

/-- Quotient words and remainder. -/
def divs (d : Nat) : List Nat → List Nat × Nat
  | [] => ([], 0)
  | x :: r => (((divs d r).2 * 4294967296 + x) / d :: (divs d r).1, ((divs d r).2 * 4294967296 + x) % d)

theorem divs_length (d : Nat) : ∀ xs, (divs d xs).1.length = xs.length
  | [] => rfl
  | x :: r => by simp [divs, divs_length d r]

theorem divs_lt {d : Nat} (hd : 0 < d) : ∀ xs, (divs d xs).2 < d
  | [] => hd
  | x :: r => Nat.mod_lt _ hd

theorem divs_dg {d : Nat} (hd : 0 < d) : ∀ {xs}, Dg b32 xs → Dg b32 (divs d xs).1
  | [], _ => Dg.nil
  | x :: r, h => by
    have h1 := h x (by simp)
    have h2 := divs_lt hd r
    refine Dg.cons ?_ (divs_dg hd fun e he => h e (List.mem_cons_of_mem _ he))
    unfold b32 at h1 ⊢
    rw [Nat.div_lt_iff_lt_mul hd]
    have h3 : ((divs d r).2 + 1) * 4294967296 ≤ d * 4294967296 := Nat.mul_le_mul_right _ h2
    rw [Nat.mul_comm 4294967296 d]
    omega

theorem divs_val {d : Nat} : ∀ xs, val b32 xs = val b32 (divs d xs).1 * d + (divs d xs).2
  | [] => by simp [divs, val]
  | x :: r => by
    have ih := divs_val (d := d) r
    have h := Nat.div_add_mod ((divs d r).2 * 4294967296 + x) d
    simp only [divs, val]
    rw [ih, Nat.add_mul, Nat.mul_assoc b32, Nat.mul_add]
    generalize val b32 (divs d r).1 * d = a
    rw [Nat.mul_comm d] at h
    generalize ((divs d r).2 * 4294967296 + x) / d * d = b at h ⊢
    generalize ((divs d r).2 * 4294967296 + x) % d = e at h ⊢
    have h2 : b32 * (divs d r).2 = (divs d r).2 * 4294967296 := Nat.mul_comm _ _
    rw [h2]
    omega

theorem divs_quot {d : Nat} (hd : 0 < d) (xs : List Nat) : val b32 (divs d xs).1 = val b32 xs / d ∧ (divs d xs).2 = val b32 xs % d := by
  have h1 := divs_val (d := d) xs
  have h2 := divs_lt hd xs
  rw [h1]
  constructor
  · rw [Nat.add_comm, Nat.add_mul_div_right _ _ hd, Nat.div_eq_of_lt h2]; omega
  · rw [Nat.add_comm, Nat.add_mul_mod_self_right, Nat.mod_eq_of_lt h2]

/-- The row when the words from place m on have been divided. -/
def divRow (d : Nat) (xs : List Nat) (m : Nat) : List Nat := xs.take m ++ (divs d (xs.drop m)).1

theorem divRow_length (d : Nat) (xs : List Nat) (m : Nat) (h : m ≤ xs.length) : (divRow d xs m).length = xs.length := by
  simp [divRow, divs_length]; omega
theorem divRow_full (d : Nat) (xs : List Nat) : divRow d xs xs.length = xs := by simp [divRow, divs]
theorem divRow_zero (d : Nat) (xs : List Nat) : divRow d xs 0 = (divs d xs).1 := by simp [divRow]
theorem divRow_low (d : Nat) (xs : List Nat) (m j : Nat) (hm : m ≤ xs.length) (h : j < m) : (divRow d xs m)[j]? = xs[j]? := by
  unfold divRow
  rw [List.getElem?_append_left (by simp; omega), List.getElem?_take, if_pos h]

theorem divs_step (d : Nat) (xs : List Nat) (m : Nat) (h : m < xs.length) : divs d (xs.drop m) =
    (((divs d (xs.drop (m + 1))).2 * 4294967296 + xs[m]) / d :: (divs d (xs.drop (m + 1))).1, ((divs d (xs.drop (m + 1))).2 * 4294967296 + xs[m]) % d) := by
  rw [List.drop_eq_getElem_cons h]; rfl

theorem divRow_step (d : Nat) (xs : List Nat) (m : Nat) (h : m < xs.length) : divRow d xs m = (divRow d xs (m + 1)).set m (((divs d (xs.drop (m + 1))).2 * 4294967296 + xs[m]) / d) := by
  unfold divRow
  rw [divs_step d xs m h, take_snoc xs m h, List.append_assoc, List.set_append_right _ _ (List.length_take_le _ _)]
  have hl : (xs.take m).length = m := by simp; omega
  rw [hl, Nat.sub_self]
  rfl
end Go.Proofs.Ytoaghihhobggoaa

namespace Go.Proofs.Ytoaghihhobggoaa
open Go.RowKit Go.Shelf
attribute [local go_sem] Oper.semAt_some

theorem or_shift (r x : Nat) (hr : r < 4294967296) (hx : x < 4294967296) : (r * 4294967296) ||| x = r * 4294967296 + x := by
  have h := Nat.two_pow_add_eq_or_of_lt (i := 32) (b := x) (by simpa using hx) r
  rw [Nat.mul_comm] at h
  simpa using h.symm

set_option maxRecDepth 100000 in
set_option maxHeartbeats 4000000 in
theorem divWord_any (g sz c d : Nat) (xs : List Nat) (w : World) (hb : Buf .u32 52 g sz xs w) (dx : Dg b32 xs) (hd : 0 < d) (hd2 : d < 4294967296) (hxc : xs.length ≤ c) (hc : c ≤ 9223372036854775807) :
    CallsIn Fence.wide 3 Try.prog 64 #[.slice (some ⟨g, 0, none⟩) xs.length c, .int .u32 (d : Nat)] w fun e w' => e = .returned (.int .u32 ((divs d xs).2 : Nat)) ∧ Buf .u32 52 g sz (divs d xs).1 w' ∧ w.grownBy w' (some g) := by
  have hg := hb.lt
  refine callsIn_of_wp_marks Try.func64 rfl trivial ?_ rfl
  simp only [Try.ntmps64, List.size_toArray, List.length_cons, List.length_nil, Nat.reduceAdd, Nat.reduceSub, Array.replicate_succ, Array.replicate_zero, List.push_toArray, List.append_toArray, List.nil_append, List.cons_append]
  gi_wp2_with (refine ⟨trivial, ?_⟩; gi_at_call 76; refine (callsIn_wide.2 (backward_any _ _ _ _)).mono ?_; rintro e w' ⟨rfl, rfl⟩)
  obtain ⟨W0, hW0⟩ : ∃ W0, W0 = (((w.alloc (.cells #[.slice (some ⟨g, 0, none⟩) xs.length c] 22)).alloc (.cells #[.int .u32 (d : Nat)] 52)).alloc (.cells #[.int .u64 0] 48)).alloc (.cells #[.slice (some ⟨g, 0, none⟩) xs.length c] 22) := ⟨_, rfl⟩
  rw [← hW0]
  have bX : Boxed W0 w.heap.size 22 (.slice (some ⟨g, 0, none⟩) xs.length c) := by rw [hW0]; exact (((Boxed.new w _ _).alloc _).alloc _).alloc _
  have bD : Boxed W0 (w.heap.size + 1) 52 (.int .u32 (d : Nat)) := by
    have h := Boxed.new (w.alloc (.cells #[.slice (some ⟨g, 0, none⟩) xs.length c] 22)) 52 (.int .u32 (d : Nat))
    rw [World.size_alloc] at h
    rw [hW0]; exact (h.alloc _).alloc _
  have bR : Boxed W0 (w.heap.size + 1 + 1) 48 (.int .u64 0) := by
    have h := Boxed.new ((w.alloc (.cells #[.slice (some ⟨g, 0, none⟩) xs.length c] 22)).alloc (.cells #[.int .u32 (d : Nat)] 52)) 48 (.int .u64 0)
    rw [World.size_alloc, World.size_alloc] at h
    rw [hW0]; exact h.alloc _
  have bB : Boxed W0 (w.heap.size + 1 + 1 + 1) 22 (.slice (some ⟨g, 0, none⟩) xs.length c) := by
    have h := Boxed.new (((w.alloc (.cells #[.slice (some ⟨g, 0, none⟩) xs.length c] 22)).alloc (.cells #[.int .u32 (d : Nat)] 52)).alloc (.cells #[.int .u64 0] 48)) 22 (.slice (some ⟨g, 0, none⟩) xs.length c)
    rw [World.size_alloc, World.size_alloc, World.size_alloc] at h
    rw [hW0]; exact h
  have hg0 : w.grownBy W0 (some g) := by
    rw [hW0]
    exact Grown.trans (Grown.trans (Grown.trans (World.grownBy_alloc _ _ _) (World.grownBy_alloc _ _ _)) (World.grownBy_alloc _ _ _)) (World.grownBy_alloc _ _ _)
  have hbuf0 : Buf .u32 52 g sz xs W0 := by
    rw [hW0]
    exact (((hb.kept (World.grownBy_alloc _ _ none) (by simp)).kept (World.grownBy_alloc _ _ none) (by simp)).kept (World.grownBy_alloc _ _ none) (by simp)).kept (World.grownBy_alloc _ _ none) (by simp)
  have hs0 : W0.heap.size = w.heap.size + 4 := by rw [hW0]; simp
  clear hW0
  refine wp_rounds (gf := 87) (lb := #[.pointer (some ⟨w.heap.size + 1 + 1 + 1, 0, none⟩)]) ?hg (enters_of Try.func87 (by kernel_rfl) rfl)
    (N := xs.length) (enc := backE xs) (Keep := fun k => KeepAt (backS (w.heap.size + 1 + 1 + 1) (some ⟨g, 0, none⟩) (xs.length - 1 - k)))
    (fun W hW => backward_gives (w.heap.size + 1 + 1 + 1) w.heap.size c (some ⟨g, 0, none⟩) xs hxc hc W ((hW.cell (p := ⟨w.heap.size + 1 + 1 + 1, 0, none⟩) (by show w.heap.size + 1 + 1 + 1 < _; omega)).trans bB.cell) ((hbuf0.rd hg).below (hW.mono (by omega))))
    (fun k A₁ B₁ o o' _ h => keepAt_round (backS_lt (hbuf0.rd hg) (by omega) (by omega) (by omega)) o o' h)
    ?hps
    (fun k W => Buf .u32 52 g sz (divRow d xs (xs.length - k)) W ∧ Boxed W w.heap.size 22 (.slice (some ⟨g, 0, none⟩) xs.length c) ∧ Boxed W (w.heap.size + 1) 52 (.int .u32 (d : Nat)) ∧
      Boxed W (w.heap.size + 1 + 1) 48 (.int .u64 ((divs d (xs.drop (xs.length - k))).2 : Nat)) ∧ Boxed W (w.heap.size + 1 + 1 + 1) 22 (.slice (some ⟨g, 0, none⟩) xs.length c) ∧ w.grownBy W (some g))
    (fun _ _ _ => False)
    ?hI ?hIx ⟨by rw [Nat.sub_zero, divRow_full]; exact hbuf0, bX, bD, by rw [Nat.sub_zero, List.drop_length]; exact bR, bB, hg0⟩
    (fun k => { tmps := #[.slice (some ⟨g, 0, none⟩) xs.length c, .int .u32 (d : Nat), .pointer (some ⟨w.heap.size, 0, none⟩), .pointer (some ⟨w.heap.size + 1, 0, none⟩), .int .u32 0, .pointer (some ⟨w.heap.size + 1 + 1, 0, none⟩), .int .i64 ((xs.length - 1 - k : Nat) : Int), .int .u32 ((xs.getD (xs.length - 1 - k) 0 : Nat) : Int), undef,
      .slice (some ⟨g, 0, none⟩) xs.length c, .func (.func 87) #[] #[.pointer (some ⟨w.heap.size + 1 + 1 + 1, 0, none⟩)], .int .i64 ((xs.length - 1 - k : Nat) : Int), .int .u32 ((xs.getD (xs.length - 1 - k) 0 : Nat) : Int),
      undef, undef, undef, undef, undef, undef, undef, undef, undef, undef, undef, undef, undef, undef, undef, undef, undef, undef, undef], defers := [] }) ?assign ?body ?done ?stop
  case hg => rfl
  case hps => exact fun _ => rfl
  case hI =>
    exact OwnFrom.and (Own.from (buf_own _ _ _ _ _) _) (OwnFrom.and (Own.from (boxed_own _ _ _) _) (OwnFrom.and (Own.from (boxed_own _ _ _) _) (OwnFrom.and (Own.from (boxed_own _ _ _) _) (OwnFrom.and (Own.from (boxed_own _ _ _) _) (ownFrom_grown (by omega))))))
  case hIx => exact fun _ _ _ _ _ h _ _ => h
  case assign =>
    intro l k W K hK
    unfold backE
    gi_wp2
    exact hK
  case body =>
    rintro l k W hlt ⟨hbf, cX, cD, cR, cB, hgr⟩ hk
    obtain ⟨m, hm⟩ : ∃ m, xs.length - 1 - k = m := ⟨_, rfl⟩
    have hm1 : xs.length - k = m + 1 := by omega
    have hm2 : xs.length - (k + 1) = m := by omega
    simp only [hm, hm1, hm2] at hbf cR ⊢
    have hmx : m < xs.length := by omega
    have hx : xs.getD m 0 < 4294967296 := by rw [getD_at hmx]; exact dx.at_ hmx
    have hr := divs_lt hd (xs.drop (m + 1))
    have HST := Lib.hid (divs_step d xs m hmx)
    have HRW := Lib.hid (divRow_step d xs m hmx)
    rw [← getD_at hmx] at HST HRW
    have hml : m < (divRow d xs (m + 1)).length := by rw [divRow_length d xs _ (by omega)]; exact hmx
    have cM := hbf.cell hml
    have fM := hbf.frozen m
    obtain ⟨x, HX⟩ : ∃ x, Hid (xs.getD m 0 = x) := ⟨_, rfl⟩
    obtain ⟨r, HR⟩ : ∃ r, Hid ((divs d (xs.drop (m + 1))).2 = r) := ⟨_, rfl⟩
    rw [HX.out] at hx HST HRW ⊢
    rw [HR.out] at hr HST HRW cR
    obtain ⟨o, HO⟩ : ∃ o, (divRow d xs (m + 1))[m] = o := ⟨_, rfl⟩
    rw [HO] at cM
    have eX := cX.cell
    have eD := cD.cell
    have eR := cR.cell
    have fR := cR.frozen
    obtain ⟨t, ht⟩ : ∃ t, r * 4294967296 + x = t := ⟨_, rfl⟩
    have HT : Hid (bits .or .u64 ((r : Int) * 4294967296) (x : Int) = (t : Int)) := by
      show _ = _
      have h := bits_or_u64_nat (r * 4294967296) x (by omega) (by omega)
      rw [or_shift r x (by omega) hx, ht] at h
      simpa using h
    have hrm : (r + 1) * 4294967296 ≤ d * 4294967296 := Nat.mul_le_mul_right _ hr
    have htd : t < d * 4294967296 := by omega
    have htl : t < 18446744073709551616 := by omega
    rw [ht] at HST HRW
    obtain ⟨q, hq⟩ : ∃ q, t / d = q := ⟨_, rfl⟩
    obtain ⟨e, he⟩ : ∃ e, t % d = e := ⟨_, rfl⟩
    have hql : q < 4294967296 := by rw [← hq]; rw [Nat.div_lt_iff_lt_mul hd, Nat.mul_comm]; exact htd
    have hel : e < d := by rw [← he]; exact Nat.mod_lt _ hd
    have TQ : Int.tdiv (t : Int) (d : Int) = (q : Int) := by rw [← hq]; rfl
    have TM : Int.tmod (t : Int) (d : Int) = (e : Int) := by rw [← he]; rfl
    have hd0 : ((d : Int) == 0) = false := by simp; omega
    have hd1 : ¬ d = 0 := by omega
    have WD : IntKind.u64.wrap (d : Int) = (d : Int) := by rw [IntKind.wrap_u64]; omega
    have WQ : IntKind.u64.wrap (q : Int) = (q : Int) := by rw [IntKind.wrap_u64]; omega
    have WQ2 : IntKind.u32.wrap (q : Int) = (q : Int) := IntWalk.u32_in _ (by omega)
    have WE : IntKind.u64.wrap (e : Int) = (e : Int) := by rw [IntKind.wrap_u64]; omega
    rw [hq, he] at HST
    rw [hq] at HRW
    have FIN : leftBy W0.heap.size (KeepAt (backS (w.heap.size + 1 + 1 + 1) (some ⟨g, 0, none⟩) m)) (fun V => Buf .u32 52 g sz (divRow d xs m) V ∧ Boxed V w.heap.size 22 (.slice (some ⟨g, 0, none⟩) xs.length c) ∧ Boxed V (w.heap.size + 1) 52 (.int .u32 (d : Nat)) ∧
        Boxed V (w.heap.size + 1 + 1) 48 (.int .u64 ((divs d (xs.drop m)).2 : Nat)) ∧ Boxed V (w.heap.size + 1 + 1 + 1) 22 (.slice (some ⟨g, 0, none⟩) xs.length c) ∧ w.grownBy V (some g)) (fun _ _ => False) W .normal { tmps := #[], defers := [] } ((W.drew.setCell ⟨g, m, none⟩ (.int .u32 (q : Nat))).setCell ⟨w.heap.size + 1 + 1, 0, none⟩ (.int .u64 (e : Nat))) := by
      have g1 : W.grownBy (W.drew.setCell ⟨g, m, none⟩ (.int .u32 (q : Nat))) (some g) := Grown.trans (Grown.drew (World.grownBy.refl W _)) (grownBy_at _ _ _ _)
      have g2 := grownBy_at (W.drew.setCell ⟨g, m, none⟩ (.int .u32 (q : Nat))) (w.heap.size + 1 + 1) 0 (.int .u64 (e : Nat))
      have n1 : some w.heap.size ≠ some g := by simp; omega
      have n2 : some (w.heap.size + 1) ≠ some g := by simp; omega
      have n3 : some (w.heap.size + 1 + 1) ≠ some g := by simp; omega
      have n4 : some (w.heap.size + 1 + 1 + 1) ≠ some g := by simp; omega
      have dB := (cB.kept g1 n4).kept g2 (by simp)
      refine ⟨(((KeepsOthers.drew W).trans (KeepsOthers.setCell _ _ _)).trans (KeepsOthers.setCell _ _ _)).from _, ?_, ?_, (cX.kept g1 n1).kept g2 (by simp; omega), (cD.kept g1 n2).kept g2 (by simp), ?_, dB, ?_⟩
      · rintro p (rfl | ⟨b, o, j, e1, hj, rfl⟩)
        · rw [dB.cell, cB.cell]
        · simp only [Option.some.injEq, Addr.mk.injEq] at e1
          obtain ⟨rfl, rfl, _⟩ := e1
          have hbf2 : Buf .u32 52 g sz ((divRow d xs (m + 1)).set m q) ((W.drew.setCell ⟨g, m, none⟩ (.int .u32 (q : Nat))).setCell ⟨w.heap.size + 1 + 1, 0, none⟩ (.int .u64 (e : Nat))) := ((hbf.kept (w' := W.drew) (Grown.drew (World.grownBy.refl W none)) (by simp)).set m q).kept g2 (by simp; omega)
          have hj2 : j < (divRow d xs (m + 1)).length := by omega
          rw [Nat.zero_add, hbf.cell hj2, hbf2.cell (by simpa using hj2)]
          simp [Nat.ne_of_gt hj]
      · rw [HRW.out]
        exact ((hbf.kept (w' := W.drew) (Grown.drew (World.grownBy.refl W none)) (by simp)).set m q).kept g2 (by simp; omega)
      · rw [HST.out]
        exact (cR.kept g1 n3).set _
      · exact Grown.later (Grown.trans hgr g1) g2 (by simp; omega)
    have FINH := Lib.hid FIN
    clear FIN HST HRW HX HR HO hbf cX cD cR cB hgr bX bD bR bB hg0 hbuf0 dx hq he ht
    gi_wp2_with fail
    rw [HT.out]
    refine region_round follows (by kernel_rfl) ?_
    refine wpAnyIn_take (i := 1) (v := .int .i64 (m : Nat)) rfl rfl (by kernel_rfl) (by kernel_rfl) (by kernel_rfl) (fun _ _ _ h => h) ⟨Or.inl ⟨by rfl, fun _ => by go_simp⟩, fun _ => rfl⟩ ?_
    refine wpAnyIn_take (i := 2) (v := .int .u64 (t : Nat)) rfl rfl (by kernel_rfl) (by kernel_rfl) (by kernel_rfl) (fun _ _ _ h => h) ⟨Or.inl ⟨by rfl, fun _ => by go_simp⟩, fun _ => rfl⟩ ?_
    refine wpAnyIn_ready (rs := [0, 3]) (by kernel_rfl) (by simp) (AllReadyIn.cons rfl (fun K hK => ?_) (AllReadyIn.cons rfl (fun K hK => ?_) AllReadyIn.nil))
    · go_simp; refine hK _ _ ?_; clear hK K
      refine wpAnyIn_ready (rs := [3]) (by kernel_rfl) (by simp) (AllReadyIn.cons rfl (fun K hK => ?_) AllReadyIn.nil)
      go_simp; refine hK _ _ ?_; clear hK K
      refine wpAnyIn_take (i := 4) (v := .int .u64 (d : Nat)) rfl rfl (by kernel_rfl) (by kernel_rfl) (by kernel_rfl) (fun _ _ _ h => h) ⟨Or.inl ⟨by rfl, fun _ => by go_simp⟩, fun _ => rfl⟩ ?_
      refine wpAnyIn_take (i := 5) (v := .int .u64 (q : Nat)) rfl rfl (by kernel_rfl) (by kernel_rfl) (by kernel_rfl) (fun _ _ _ h => h) ⟨Or.inl ⟨by rfl, fun _ => by go_simp⟩, fun _ => rfl⟩ ?_
      refine wpAnyIn_take (i := 6) (v := .int .u32 (q : Nat)) rfl rfl (by kernel_rfl) (by kernel_rfl) (by kernel_rfl) (fun _ _ _ h => h) ⟨Or.inl ⟨by rfl, fun _ => by go_simp⟩, fun _ => rfl⟩ ?_
      refine wpAnyIn_ready (rs := [7]) (by kernel_rfl) (by simp) (AllReadyIn.cons rfl (fun K hK => ?_) AllReadyIn.nil)
      go_simp; refine hK _ _ ?_; clear hK K
      refine wpAnyIn_ready (rs := [8]) (by kernel_rfl) (by simp) (AllReadyIn.cons rfl (fun K hK => ?_) AllReadyIn.nil)
      go_simp; refine hK _ _ ?_; clear hK K
      refine wpAnyIn_done (by kernel_rfl) ?_ _
      gi_wp2_with fail
      exact FINH.out
    · go_simp; refine hK _ _ ?_; clear hK K
      refine wpAnyIn_take (i := 4) (v := .int .u64 (d : Nat)) rfl rfl (by kernel_rfl) (by kernel_rfl) (by kernel_rfl) (fun _ _ _ h => h) ⟨Or.inl ⟨by rfl, fun _ => by go_simp⟩, fun _ => rfl⟩ ?_
      refine wpAnyIn_take (i := 5) (v := .int .u64 (q : Nat)) rfl rfl (by kernel_rfl) (by kernel_rfl) (by kernel_rfl) (fun _ _ _ h => h) ⟨Or.inl ⟨by rfl, fun _ => by go_simp⟩, fun _ => rfl⟩ ?_
      refine wpAnyIn_take (i := 6) (v := .int .u32 (q : Nat)) rfl rfl (by kernel_rfl) (by kernel_rfl) (by kernel_rfl) (fun _ _ _ h => h) ⟨Or.inl ⟨by rfl, fun _ => by go_simp⟩, fun _ => rfl⟩ ?_
      refine wpAnyIn_ready (rs := [0]) (by kernel_rfl) (by simp) (AllReadyIn.cons rfl (fun K hK => ?_) AllReadyIn.nil)
      go_simp; refine hK _ _ ?_; clear hK K
      refine wpAnyIn_ready (rs := [7]) (by kernel_rfl) (by simp) (AllReadyIn.cons rfl (fun K hK => ?_) AllReadyIn.nil)
      go_simp; refine hK _ _ ?_; clear hK K
      refine wpAnyIn_ready (rs := [8]) (by kernel_rfl) (by simp) (AllReadyIn.cons rfl (fun K hK => ?_) AllReadyIn.nil)
      go_simp; refine hK _ _ ?_; clear hK K
      refine wpAnyIn_done (by kernel_rfl) ?_ _
      gi_wp2_with fail
      exact FINH.out
  case done =>
    rintro W ⟨hbf, cX, cD, cR, cB, hgr⟩ hK
    rw [Nat.sub_self] at hbf cR
    rw [divRow_zero] at hbf
    rw [List.drop_zero] at cR
    have hr := divs_lt hd xs
    obtain ⟨r, HR⟩ : ∃ r, Hid ((divs d xs).2 = r) := ⟨_, rfl⟩
    rw [HR.out] at hr cR
    have WR : IntKind.u32.wrap (r : Int) = (r : Int) := IntWalk.u32_in _ (by omega)
    have eR := cR.cell
    have HEND : Hid (Buf .u32 52 g sz (divs d xs).1 W ∧ w.grownBy W (some g) ∧ W.heap[W0.heap.size]? = some (.deferred (some []))) := ⟨hbf, hgr, hK⟩
    clear hbf cX cD cR cB hgr bX bD bR bB hg0 hbuf0 dx hK
    gi_wp2
    obtain ⟨e1, e2, e3⟩ := HEND.out
    refine ⟨by simp, .inl ⟨_, _, rfl, run_takeDeferred e3, ?_⟩⟩
    exact ⟨_, results_tmp rfl _ _ _, by rw [HR.out]; rfl, e1.kept (grownBy_putObj' _ _ _) (by simp; omega), Grown.later e2 (grownBy_putObj' _ _ _) (by simp; omega)⟩
  case stop => exact fun _ _ _ _ h _ => h.elim
end Go.Proofs.Ytoaghihhobggoaa

namespace Go.Proofs.Ytoaghihhobggoaa
open Go.RowKit Go.Shelf

/-- The row when k pairs from its ends have changed places. -/
def revK (xs : List Nat) (k : Nat) : List Nat := (List.range xs.length).map fun i => if i < k ∨ xs.length - 1 - i < k then xs.getD (xs.length - 1 - i) 0 else xs.getD i 0

theorem revK_length (xs : List Nat) (k : Nat) : (revK xs k).length = xs.length := by simp [revK]
theorem revK_at (xs : List Nat) (k i : Nat) (h : i < (revK xs k).length) : (revK xs k)[i] = if i < k ∨ xs.length - 1 - i < k then xs.getD (xs.length - 1 - i) 0 else xs.getD i 0 := by simp [revK]

theorem revK_zero (xs : List Nat) : revK xs 0 = xs := by
  apply List.ext_getElem (revK_length xs 0)
  intro i h1 h2
  rw [revK_at, if_neg (by omega), getD_at h2]

theorem revK_all (xs : List Nat) (k : Nat) (h : xs.length ≤ 2 * k + 1) : revK xs k = xs.reverse := by
  apply List.ext_getElem (by rw [revK_length, List.length_reverse])
  intro i h1 h2
  rw [List.length_reverse] at h2
  rw [revK_at, List.getElem_reverse]
  split
  · exact getD_at (by omega)
  · have e : xs.length - 1 - i = i := by omega
    rw [getD_at h2]
    simp only [e]

theorem revK_step (xs : List Nat) (k : Nat) (h : k < xs.length - 1 - k) : revK xs (k + 1) = ((revK xs k).set k (xs.getD (xs.length - 1 - k) 0)).set (xs.length - 1 - k) (xs.getD k 0) := by
  apply List.ext_getElem (by simp [revK_length])
  intro i h1 h2
  rw [revK_length] at h1
  rw [revK_at, List.getElem_set, List.getElem_set, revK_at]
  by_cases e1 : xs.length - 1 - k = i
  · subst e1
    rw [if_pos rfl, if_pos (by omega)]
    congr 1
    omega
  · rw [if_neg e1]
    by_cases e2 : k = i
    · subst e2
      rw [if_pos rfl, if_pos (by omega)]
    · rw [if_neg e2]
      by_cases e3 : i < k ∨ xs.length - 1 - i < k
      · rw [if_pos e3, if_pos (by omega)]
      · rw [if_neg e3, if_neg (by omega)]

set_option maxRecDepth 100000 in
set_option maxHeartbeats 4000000 in
theorem reverse_any (g sz c : Nat) (xs : List Nat) (w : World) (hb : Buf .u8 5 g sz xs w) (hxc : xs.length ≤ c) (hc : c ≤ 9223372036854775807) :
    Calls Try.prog 65 #[.slice (some ⟨g, 0, none⟩) xs.length c] w fun e w' => (∃ v, e = .returned v) ∧ Buf .u8 5 g sz xs.reverse w' ∧ w.grownBy w' (some g) := by
  go_enter Try.func65, Try.ntmps65
  go_wp2
  go_loopw [2, 3] (fun i j wr => ∃ (k : Nat) (j' : Int), i = .int .i64 (k : Nat) ∧ j = .int .i64 j' ∧ j' = (xs.length : Int) - 1 - k ∧ 2 * k ≤ xs.length + 1 ∧ Buf .u8 5 g sz (revK xs k) wr ∧ w.grownBy wr (some g)) (fun i j _ => (intOf j + 1).toNat)
  case atStart => exact ⟨0, _, rfl, rfl, by simp, by omega, by rw [revK_zero]; exact hb, World.grownBy.refl _ _⟩
  case round =>
    obtain ⟨k, j', rfl, rfl, hj, hk, hbf, hgr⟩ := hrel
    by_cases hlt : (k : Int) < j'
    · obtain ⟨m, hm⟩ : ∃ m, xs.length - 1 - k = m := ⟨_, rfl⟩
      obtain rfl : j' = (m : Int) := by omega
      have hkm : k < m := by omega
      have HST := Lib.hid (revK_step xs k (by omega))
      rw [hm] at HST
      have c1 := hbf.cell (j := k) (by rw [revK_length]; omega)
      have c2 := hbf.cell (j := m) (by rw [revK_length]; omega)
      rw [revK_at, if_neg (by omega)] at c1
      rw [revK_at, if_neg (by omega)] at c2
      have f1 := hbf.frozen k
      have f2 := hbf.frozen m
      obtain ⟨p, HP⟩ : ∃ p, Hid (xs.getD k 0 = p) := ⟨_, rfl⟩
      obtain ⟨q, HQ⟩ : ∃ q, Hid (xs.getD m 0 = q) := ⟨_, rfl⟩
      rw [HP.out] at HST c1
      rw [HQ.out] at HST c2
      have hb2 := (hbf.kept (w' := wr.drew) (Grown.drew (World.grownBy.refl wr none)) (by simp)).set k q
      have c3 := hb2.cell (j := m) (by rw [List.length_set, revK_length]; omega)
      have f3 := hb2.frozen m
      obtain ⟨o, HO⟩ : ∃ o, ((revK xs k).set k q)[m]'(by rw [List.length_set, revK_length]; omega) = o := ⟨_, rfl⟩
      rw [HO] at c3
      have FIN : Buf .u8 5 g sz (revK xs (k + 1)) ((wr.drew.setCell ⟨g, k, none⟩ (.int .u8 (q : Nat))).setCell ⟨g, m, none⟩ (.int .u8 (p : Nat))) ∧ w.grownBy ((wr.drew.setCell ⟨g, k, none⟩ (.int .u8 (q : Nat))).setCell ⟨g, m, none⟩ (.int .u8 (p : Nat))) (some g) := by
        rw [HST.out]
        exact ⟨hb2.set m p, Grown.trans (Grown.trans (Grown.drew hgr) (grownBy_at _ _ _ _)) (grownBy_at _ _ _ _)⟩
      have FINH := Lib.hid FIN
      have hk0 : (0 : Int) ≤ (k : Int) := by omega
      have hk1 : (k : Int) < (xs.length : Int) := by omega
      have hm0 : (0 : Int) ≤ (m : Int) := by omega
      have hm1 : (m : Int) < (xs.length : Int) := by omega
      have HJ := Lib.hid hj
      have HM := Lib.hid hm
      clear FIN HO hb2 hbf hgr HST HP HQ hb hj hm
      go_wp2_with fail
      refine wp_region_any (by kernel_rfl) ?_
      refine (show wpAny _ _ _ _ _ _ _ (World.drew _) from ?_)
      refine wpAny_take (i := 0) (v := .slice (some ⟨g, 0, none⟩) xs.length c) rfl (by kernel_rfl) (by kernel_rfl) (by kernel_rfl) (fun _ _ _ h => h) (Or.inl ⟨by rfl, fun _ => by go_simp⟩) ?_
      refine wpAny_take (i := 1) (v := .int .i64 (k : Nat)) rfl (by kernel_rfl) (by kernel_rfl) (by kernel_rfl) (fun _ _ _ h => h) (Or.inl ⟨by rfl, fun _ => by go_simp⟩) ?_
      refine wpAny_take (i := 4) (v := .slice (some ⟨g, 0, none⟩) xs.length c) rfl (by kernel_rfl) (by kernel_rfl) (by kernel_rfl) (fun _ _ _ h => h) (Or.inl ⟨by rfl, fun _ => by go_simp⟩) ?_
      refine wpAny_take (i := 5) (v := .int .i64 (m : Nat)) rfl (by kernel_rfl) (by kernel_rfl) (by kernel_rfl) (fun _ _ _ h => h) (Or.inl ⟨by rfl, fun _ => by go_simp⟩) ?_
      refine wpAny_take (i := 8) (v := .slice (some ⟨g, 0, none⟩) xs.length c) rfl (by kernel_rfl) (by kernel_rfl) (by kernel_rfl) (fun _ _ _ h => h) (Or.inl ⟨by rfl, fun _ => by go_simp⟩) ?_
      refine wpAny_take (i := 9) (v := .int .i64 (k : Nat)) rfl (by kernel_rfl) (by kernel_rfl) (by kernel_rfl) (fun _ _ _ h => h) (Or.inl ⟨by rfl, fun _ => by go_simp⟩) ?_
      refine wpAny_take (i := 2) (v := .slice (some ⟨g, 0, none⟩) xs.length c) rfl (by kernel_rfl) (by kernel_rfl) (by kernel_rfl) (fun _ _ _ h => h) (Or.inl ⟨by rfl, fun _ => by go_simp⟩) ?_
      refine wpAny_take (i := 3) (v := .int .i64 (m : Nat)) rfl (by kernel_rfl) (by kernel_rfl) (by kernel_rfl) (fun _ _ _ h => h) (Or.inl ⟨by rfl, fun _ => by go_simp⟩) ?_
      refine wpAny_take (i := 6) (v := .pointer (some ⟨g, m, none⟩)) rfl (by kernel_rfl) (by kernel_rfl) (by kernel_rfl) (fun _ _ _ h => h) (Or.inl ⟨by rfl, fun _ => by go_simp⟩) ?_
      refine wpAny_take (i := 10) (v := .pointer (some ⟨g, k, none⟩)) rfl (by kernel_rfl) (by kernel_rfl) (by kernel_rfl) (fun _ _ _ h => h) (Or.inl ⟨by rfl, fun _ => by go_simp⟩) ?_
      refine wpAny_ready (rs := [7, 11]) (by kernel_rfl) (by simp) (AllReady.cons rfl (fun K hK => ?_) (AllReady.cons rfl (fun K hK => ?_) AllReady.nil))
      · go_simp; refine hK _ _ ?_; clear hK K
        refine wpAny_ready (rs := [11]) (by kernel_rfl) (by simp) (AllReady.cons rfl (fun K hK => ?_) AllReady.nil)
        go_simp; refine hK _ _ ?_; clear hK K
        refine wpAny_ready (rs := [12]) (by kernel_rfl) (by simp) (AllReady.cons rfl (fun K hK => ?_) AllReady.nil)
        go_simp; refine hK _ _ ?_; clear hK K
        refine wpAny_ready (rs := [13]) (by kernel_rfl) (by simp) (AllReady.cons rfl (fun K hK => ?_) AllReady.nil)
        go_simp; refine hK _ _ ?_; clear hK K
        refine wpAny_ready (rs := [14]) (by kernel_rfl) (by simp) (AllReady.cons rfl (fun K hK => ?_) AllReady.nil)
        go_simp; refine hK _ _ ?_; clear hK K
        refine wpAny_ready (rs := [15]) (by kernel_rfl) (by simp) (AllReady.cons rfl (fun K hK => ?_) AllReady.nil)
        go_simp; refine hK _ _ ?_; clear hK K
        refine wpAny_done (by kernel_rfl) ?_ _
        go_wp2
        go_roundw
        case rel => exact ⟨k + 1, _, by simp, rfl, by have := HJ.out; omega, by have := HM.out; omega, FINH.out.1, FINH.out.2⟩
        case measure => simp [intOf]
      · go_simp; refine hK _ _ ?_; clear hK K
        refine wpAny_ready (rs := [7]) (by kernel_rfl) (by simp) (AllReady.cons rfl (fun K hK => ?_) AllReady.nil)
        go_simp; refine hK _ _ ?_; clear hK K
        refine wpAny_ready (rs := [12]) (by kernel_rfl) (by simp) (AllReady.cons rfl (fun K hK => ?_) AllReady.nil)
        go_simp; refine hK _ _ ?_; clear hK K
        refine wpAny_ready (rs := [13]) (by kernel_rfl) (by simp) (AllReady.cons rfl (fun K hK => ?_) AllReady.nil)
        go_simp; refine hK _ _ ?_; clear hK K
        refine wpAny_ready (rs := [14]) (by kernel_rfl) (by simp) (AllReady.cons rfl (fun K hK => ?_) AllReady.nil)
        go_simp; refine hK _ _ ?_; clear hK K
        refine wpAny_ready (rs := [15]) (by kernel_rfl) (by simp) (AllReady.cons rfl (fun K hK => ?_) AllReady.nil)
        go_simp; refine hK _ _ ?_; clear hK K
        refine wpAny_done (by kernel_rfl) ?_ _
        go_wp2
        go_roundw
        case rel => exact ⟨k + 1, _, by simp, rfl, by have := HJ.out; omega, by have := HM.out; omega, FINH.out.1, FINH.out.2⟩
        case measure => simp [intOf]
    · have HR := Lib.hid (revK_all xs k (by omega))
      rw [HR.out] at hbf
      have HB := Lib.hid hbf
      have HG := Lib.hid hgr
      clear hbf hgr hb
      go_wp2
      go_end0
      exact ⟨⟨_, rfl⟩, HB.out, HG.out⟩
end Go.Proofs.Ytoaghihhobggoaa

namespace Go.Proofs.Ytoaghihhobggoaa

/-- The n lowest digits of v, the lowest first. -/
def low (v : Nat) : Nat → List Nat
  | 0 => []
  | n + 1 => low v n ++ [v / 10 ^ n % 10]

theorem low_length (v : Nat) : ∀ n, (low v n).length = n
  | 0 => rfl
  | n + 1 => by simp [low, low_length v n]

theorem low_dg (v : Nat) : ∀ n, Dg 10 (low v n)
  | 0 => Dg.nil
  | n + 1 => by
    intro d hd
    rcases List.mem_append.1 hd with h | h
    · exact low_dg v n d h
    · obtain rfl : d = v / 10 ^ n % 10 := by simpa using h
      exact Nat.mod_lt _ (by decide)

theorem low_val (v : Nat) : ∀ n, val 10 (low v n) = v % 10 ^ n
  | 0 => by simp [low, val, Nat.mod_one]
  | n + 1 => by
    rw [low, val_append, low_val v n, low_length]
    simp only [val, Nat.mul_zero, Nat.add_zero]
    rw [Nat.pow_succ, Nat.mod_mul]

theorem low_dig {v j : Nat} (h : v < 10 ^ j) (h2 : 10 ^ (j - 1) ≤ v) (hj : 0 < j) : low v j = dig 10 v := by
  have h3 := trimL_dig (b := 10) (by decide) (low_dg v j)
  rw [low_val, Nat.mod_eq_of_lt h] at h3
  have h4 : (trimL (low v j)).length = j := by
    have h5 := trimL_le (low v j)
    rw [low_length] at h5
    by_cases h6 : (trimL (low v j)).length = j
    · exact h6
    · exfalso
      have h7 := val_lt (b := 10) (xs := trimL (low v j)) (by rw [h3]; exact Dg_dig (by decide) v)
      rw [val_trimL, low_val, Nat.mod_eq_of_lt h] at h7
      have h8 : 10 ^ (trimL (low v j)).length ≤ 10 ^ (j - 1) := Nat.pow_le_pow_right (by decide) (by omega)
      omega
  rw [trimL_length] at h4
  rw [← h3, trimL, h4]
  exact (List.take_of_length_le (by rw [low_length]; exact Nat.le_refl _)).symm

theorem low_take (v : Nat) {n : Nat} : ∀ {m : Nat}, n ≤ m → (low v m).take n = low v n
  | 0, h => by obtain rfl : n = 0 := by omega
               rfl
  | m + 1, h => by
    by_cases h2 : n = m + 1
    · subst h2; exact List.take_of_length_le (by rw [low_length]; omega)
    · rw [low, List.take_append_of_le_length (by rw [low_length]; omega)]
      exact low_take v (by omega)

/-- The low digits of what is left once n of them are gone. -/
theorem low_shift (v n i : Nat) : v / 10 ^ n % 10 ^ 9 / 10 ^ i % 10 = if i < 9 then v / 10 ^ (n + i) % 10 else 0 := by
  by_cases h : i < 9
  · rw [if_pos h, Nat.pow_add, ← Nat.div_div_eq_div_mul]
    have e : (10 : Nat) ^ 9 = 10 ^ i * (10 * 10 ^ (8 - i)) := by
      rw [← Nat.mul_assoc, ← Nat.pow_succ, ← Nat.pow_add]
      congr 1
      omega
    generalize v / 10 ^ n = a
    rw [e, Nat.mod_mul_right_div_self, Nat.mod_mul_right_mod]
  · rw [if_neg h, Nat.div_eq_of_lt (Nat.lt_of_lt_of_le (Nat.mod_lt _ (by decide)) (Nat.pow_le_pow_right (by decide) (by omega)))]

/-- The bytes of the decimal representation, the last one first. -/
def revB (neg : Bool) (ds : List Nat) : List Nat := ds.map (48 + ·) ++ (if neg then [45] else [])
end Go.Proofs.Ytoaghihhobggoaa
