/- Parts: 10. -/
import Derived.Test.YtcgdbdhhoomgiaaGreatVs3
import Derived.Test.YtcgdbdhhoomgiaaGreatVs5
import Derived.Test.YtcgdbdhhoomgiaaGreatVs11
import Derived.Deep.AppendSrc
import Derived.Deep.Upon
set_option linter.unusedVariables false
set_option linter.unusedSimpArgs false
set_option maxRecDepth 100000
set_option maxHeartbeats 40000000

namespace Go.Proofs.YtcgdbdhhoomgiaaGreat
open Go.RowKit Go.Shelf
theorem val_drop {b : Nat} {xs : List Nat} {q : Nat} (h : q < xs.length) : val b (xs.drop q) = xs[q] + b * val b (xs.drop (q + 1)) := by
 rw [List.drop_eq_getElem_cons h]; rfl
theorem Dg.drop {b : Nat} {xs : List Nat} (h : Dg b xs) (n : Nat) : Dg b (xs.drop n) := fun d hd => h d (List.mem_of_mem_drop hd)
theorem val_lt3 {xs : List Nat} (h : Dg b16 xs) (hl : xs.length <= 3) : val b16 xs < 281474976710656 :=
 Nat.lt_of_lt_of_le (val_lt h) (Nat.le_trans (Nat.pow_le_pow_right (by decide) hl) (by decide))
theorem small_any {A : Option Addr} {c : Nat} {xs : List Nat} {w : World} (hx : Hr w A c xs) (hl : xs.length <= 3) :
  Calls Tryz.prog 130 #[.slice A xs.length c] w fun e w' => e = .returned (.int .i64 (val b16 xs : Nat)) /\ w' = w := by
 obtain ⟨n, en⟩ : ∃ n, Hid (val b16 xs = n) := ⟨_, rfl⟩
 rw [en.out]
 have HX := Lib.hid hx
 clear hx
 go_enter Tryz.func130, Tryz.ntmps130
 go_wp2
 go_loopw [3, 4] (fun v i wr => ∃ k : Nat, v = .int .i64 (val b16 (xs.drop k) : Nat) /\ i = .int .i64 ((k : Int) - 1) /\ k <= xs.length /\ wr = w) (fun _ i _ => ((intOf i) + 1).toNat)
 case atStart => exact ⟨xs.length, by simp [val], rfl, Nat.le_refl _, rfl⟩
 case round =>
  obtain ⟨k, hv, hik, hk, rfl⟩ := hrel
  rcases Nat.eq_zero_or_pos k with rfl | hk0
  .rw [List.drop_zero, en.out] at hv
   subst hv hik
   clear hk
   go_wp2
   go_ret
   exact ⟨rfl, rfl⟩
  .obtain ⟨q, rfl⟩ : ∃ q, k = q + 1 := ⟨k - 1, by omega⟩
   rw [show (((q + 1 : Nat) : Int) - 1) = (q : Int) from by omega] at hik
   subst hv hik
   have hq : q < xs.length := by omega
   obtain ⟨b, o, rfl, _, hc1⟩ := HX.out.rd.at_ hq
   have e1 := hc1 q hq
   have hd := HX.out.dg.at_ hq
   have hvd := val_drop (b := b16) hq
   have hlt := val_lt3 (HX.out.dg.drop q) (by rw [List.length_drop]; omega)
   have hlt2 := val_lt3 (HX.out.dg.drop (q + 1)) (by rw [List.length_drop]; omega)
   obtain ⟨x, ex⟩ : ∃ x, Hid (xs[q] = x) := ⟨xs[q], rfl⟩
   obtain ⟨T, eT⟩ : ∃ T, Hid (val b16 (xs.drop (q + 1)) = T) := ⟨_, rfl⟩
   rw [ex.out] at e1 hd hvd
   rw [eT.out] at hvd hlt2 ⊢
   unfold b16 at hd
   have hvd2 : val b16 (xs.drop q) = x + 65536 * T := hvd
   rw [hvd2] at hlt
   have HV := Lib.hid hvd2
   have hki : (0 : Int) <= (q : Int) := by omega
   have hki' : (q : Int) < (xs.length : Int) := by omega
   clear hc1 hvd hvd2
   go_wp2
   go_roundw
   case rel => exact ⟨q, by rw [HV.out]; congr 1; omega, by simp, by omega, trivial⟩
   case measure => simp [intOf]
theorem back_any (v : Nat) (hv : v < 281474976710656) (w : World) :
  Calls Tryz.prog 129 #[.int .i64 (v : Nat)] w (HRet w v) := by
 have hr := Rd.new .i64 w 3 [v % 65536, v / 65536 % 65536, v / 65536 / 65536]
 have hdg : Dg b16 [v % 65536, v / 65536 % 65536, v / 65536 / 65536] := Dg.cons (by unfold b16; omega) (Dg.cons (by unfold b16; omega) (Dg.one (by unfold b16; omega)))
 have hval : val b16 [v % 65536, v / 65536 % 65536, v / 65536 / 65536] = v := by simp only [val, b16]; omega
 have hta := trimL_dig b16_one hdg
 rw [hval] at hta
 have hT := rtrim_any (some ⟨w.heap.size, 0, none⟩) 3 (w.heap.size + 1) [v % 65536, v / 65536 % 65536, v / 65536 / 65536] _ hr (by simp) (by decide)
 rw [<- trimL_length, hta] at hT
 have hrt := hr.take (trimN [v % 65536, v / 65536 % 65536, v / 65536 / 65536])
 rw [show [v % 65536, v / 65536 % 65536, v / 65536 / 65536].take (trimN [v % 65536, v / 65536 % 65536, v / 65536 / 65536]) = dig b16 v from hta] at hrt
 have hle : (dig b16 v).length <= 3 := by rw [<- hta]; exact trimL_le _
 have g1 := tmod16 v
 have g2 := tdiv16 v
 have g3 := tmod16 (v / 65536)
 have g4 := tdiv16 (v / 65536)
 have g5 := wrap_nat (v / 65536) (by omega)
 have g6 := wrap_nat (v / 65536 / 65536) (by omega)
 have g7 := wrap_nat (v % 65536) (by omega)
 have g8 := wrap_nat (v / 65536 % 65536) (by omega)
 obtain ⟨W0, hW0⟩ : ∃ W0, W0 = w.alloc (.cells (ints .i64 [v % 65536, v / 65536 % 65536, v / 65536 / 65536]).toArray 3) := ⟨_, rfl⟩
 have hsz : W0.heap.size = w.heap.size + 1 := by rw [hW0]; simp
 have hb : Below w.heap.size w W0 := by rw [hW0]; exact (Below.refl _ _).alloc (Nat.le_refl _) _
 rw [<- hW0] at hT hrt
 rw [<- hsz] at hrt
 have HT := Lib.hid hT
 have HR := Lib.hid hrt
 have HB := Lib.hid hb
 have hW1 : W0 = w.alloc (.cells #[.int .i64 ((v : Int) % 65536), .int .i64 ((v : Int) / 65536 % 65536), .int .i64 ((v : Int) / 65536 / 65536)] 3) := by rw [hW0]; simp [ints]
 have HW := Lib.hid hW1
 clear hr hdg hval hta hT hrt hW0 hW1 hb
 go_enter Tryz.func129, Tryz.ntmps129
 go_wp2_with fail
 rw [<- HW.out]
 refine HT.out.mono ?_
 rintro e w' ⟨rfl, rfl⟩
 go_wp2
 go_ret
 exact ⟨_, _, rfl, HR.out, hle, by decide, HB.out⟩
theorem wpList_append_run {P : Program} {ops : Array Oper} {Q : Exit -> Act -> World -> Prop} {rest : List Oper} {o : Oper} {a : Act} {w w' : World} {v u v' : Value}
  (hgd : o.guard = none) (s x : Operand) (t : TypeId) (ho : o.op = .call { callee := .builtin .append, args := #[s, x], argTypes := #[t, t] })
  (hs : a.eval s = v) (hx : a.eval x = u) (hrun : (Builtin.append_ #[t, t] o.type #[v, u]).run P w = .ok v' w') (h : wpList P ops Q rest (a.put o.dst v') w') : wpList P ops Q (o :: rest) a w :=
 wpList_step fun _ hK => step_append_out hgd s x t ho hs hx hrun (hK _ _ h)
theorem Hr.of_ret {w' : World} {A : Option Addr} {c n k : Nat} (h : Rd .i64 w' w'.heap.size A (dig b16 n)) (hl : (dig b16 n).length <= c) (hc : c <= 9223372036854775807) (hn : n < b16 ^ k) (hk : k <= 4294967296) : Hr w' A c (dig b16 n) :=
 ⟨h, Dg_dig b16_one n, hl, hc, Nat.le_trans (dig_length_le b16_one hn) hk⟩
theorem Rd.cell {kd : IntKind} {w : World} {B b o : Nat} {xs : List Nat} (h : Rd kd w B (some ⟨b, o, none⟩) xs) {k : Nat} (hk : k < xs.length) : w.cell? ⟨b, o + k, none⟩ = some (.int kd (xs[k] : Nat)) := by
 obtain ⟨b', o', e, _, hc⟩ := h k hk
 injection e with e
 injection e with e1 e2
 subst e1 e2
 exact hc
theorem digit_less {b k : Nat} {S : List Nat} (hl : S.length = k) {X Y l x y d l' : Nat} (h : val b S + Y = X + b ^ k * l) (hv : d + y + l = x + b * l') : val b (S ++ [d]) + (Y + b ^ k * y) = (X + b ^ k * x) + b ^ (k + 1) * l' := by
 rw [val_append, hl, Nat.pow_succ]
 simp only [val, Nat.mul_zero, Nat.add_zero]
 have h1 : b ^ k * (d + y + l) = b ^ k * (x + b * l') := by rw [hv]
 rw [Nat.mul_add, Nat.mul_add, Nat.mul_add, <- Nat.mul_assoc] at h1
 omega
theorem val_take_drop {b : Nat} (ys : List Nat) (k : Nat) : ∃ T, val b ys = val b (ys.take k) + b ^ (ys.take k).length * T := ⟨val b (ys.drop k), by rw [<- val_append, List.take_append_drop]⟩
theorem sub_end {k l X : Nat} {S ys : List Nat} (hS : S.length = k) (hdg : Dg b16 S) (h : val b16 S + val b16 (ys.take k) = X + b16 ^ k * l) (hX : X < b16 ^ k) (hle : val b16 ys <= X) : val b16 S = X - val b16 ys := by
 have h1 := val_lt hdg
 rw [hS] at h1
 obtain ⟨T, hT⟩ := val_take_drop (b := b16) ys k
 have h0 : val b16 (ys.take k) <= val b16 ys := by rw [hT]; exact Nat.le_add_right _ _
 have hl : l = 0 := by
  refine Classical.byContradiction fun hn => ?_
  have : b16 ^ k * 1 <= b16 ^ k * l := Nat.mul_le_mul_left _ (by omega)
  omega
 subst hl
 by_cases hk : ys.length <= k
 .rw [List.take_of_length_le hk] at h; omega
 .have hlen : (ys.take k).length = k := by rw [List.length_take]; omega
  rw [hlen] at hT
  have hT0 : T = 0 := by
   refine Classical.byContradiction fun hn => ?_
   have : b16 ^ k * 1 <= b16 ^ k * T := Nat.mul_le_mul_left _ (by omega)
   omega
  subst hT0
  omega
theorem rsub_any {A A' : Option Addr} {c c' : Nat} {xs ys : List Nat} {w : World} (hx : Hr w A c xs) (hy : Hr w A' c' ys) (hge : val b16 ys <= val b16 xs) :
  Calls Tryz.prog 112 #[.slice A xs.length c, .slice A' ys.length c'] w (HRet w (val b16 xs - val b16 ys)) := by
 obtain ⟨i0, hi, hz0, hz1, hz2⟩ := info_parts infoInt
 obtain ⟨n, en⟩ : ∃ n, Hid (val b16 xs - val b16 ys = n) := ⟨_, rfl⟩
 rw [en.out]
 have HX := Lib.hid hx
 have HY := Lib.hid hy
 have hxs := hx.small
 have hys := hy.small
 have hxl := hx.le
 have hxc := hx.cap
 have hyl := hy.le
 have hyc := hy.cap
 clear hx hy
 have HGE := Lib.hid hge
 clear hge
 go_enter Tryz.func112, Tryz.ntmps112
 go_wp2
 go_loopw [5, 6, 7] (fun v q i wr => ∃ (k r : Nat) (S : List Nat) (A1 : Option Addr) (c1 : Nat), v = .slice A1 k c1 /\ q = .int .i64 r /\ i = .int .i64 k /\ r <= 1 /\ k <= xs.length /\ S.length = k /\ Dg b16 S /\ val b16 S + val b16 (ys.take k) = val b16 (xs.take k) + b16 ^ k * r /\
   wr.ownsRow w.heap.size 3 1 (.slice A1 k c1) k (ints .i64 S) /\ Below w.heap.size w wr) (fun _ _ i _ => xs.length - (intOf i).toNat)
 case atStart => exact ⟨0, 0, [], none, 0, rfl, rfl, rfl, by omega, by omega, rfl, Dg.nil, by simp [val], by simpa [ints] using World.ownsRow_nil _ _ _ _, Below.refl _ _⟩
 case round =>
  obtain ⟨k, r, S, A1, c1, rfl, rfl, rfl, hr, hk, hS, hdg, hval, hown, hb⟩ := hrel
  by_cases hend : ¬ k < xs.length
  .obtain rfl : k = xs.length := by omega
   have hv : val b16 S = n := by
    rw [val_le_take (b := b16) xs _ (Nat.le_refl _)] at hval
    rw [<- en.out]
    exact sub_end hS hdg hval (val_lt HX.out.dg) HGE.out
   obtain ⟨hc1, hc2⟩ := own_caps hown
   have hrd := Rd.of_own hown (Nat.le_refl _)
   have HT := Lib.hid (rtrim_any A1 c1 _ S wr hrd (by omega) hc2)
   have hta := trimL_dig b16_one hdg
   rw [hv] at hta
   have htn : trimN S = (dig b16 n).length := by rw [<- hta, trimL_length]
   have hrt : Rd .i64 wr wr.heap.size A1 (dig b16 n) := by rw [<- hta]; exact hrd.take _
   have hle : (dig b16 n).length <= c1 := by rw [<- htn]; have := trimN_le S; omega
   rw [hS, htn] at HT
   have HF := Lib.hid hrt
   have HB := Lib.hid hb
   clear hrt hb hown hrd hta hval hdg htn hv
   go_wp2_with fail
   refine HT.out.mono ?_
   rintro e w' ⟨rfl, rfl⟩
   go_wp2
   go_ret
   exact ⟨A1, c1, rfl, HF.out, hle, hc2, HB.out⟩
  .have hkm : k < xs.length := by omega
   have hki : (0 : Int) <= (k : Int) := by omega
   obtain ⟨x, ex⟩ : ∃ x, Hid (xs.getD k 0 = x) := ⟨_, rfl⟩
   obtain ⟨y, ey⟩ : ∃ y, Hid (ys.getD k 0 = y) := ⟨_, rfl⟩
   have hu := getD_dg (by decide) HX.out.dg k
   have hz := getD_dg (by decide) HY.out.dg k
   have HA1 := Lib.hid (at_int (c := c) (HX.out.to hb).rd (by omega) (k : Int) (by omega) (by omega))
   have HA2 := Lib.hid (at_int (c := c') (HY.out.to hb).rd (by omega) (k : Int) (by omega) (by omega))
   rw [show ((k : Int)).toNat = k from by omega] at HA1 HA2
   rw [ex.out] at hu HA1
   rw [ey.out] at hz HA2
   unfold b16 at hu hz
   obtain ⟨d, r', t, hd, hr', et, hdig, hcase⟩ : ∃ (d r' : Nat) (t : Int), d < 65536 /\ r' <= 1 /\ (x : Int) - (y : Int) - (r : Int) = t /\ d + y + r = x + 65536 * r' /\ ((r' = 0 /\ t = (d : Int)) ∨ (r' = 1 /\ t < 0 /\ t + 65536 = (d : Int))) := by
    by_cases hlt : y + r <= x
    .exact ⟨x - y - r, 0, _, by omega, by omega, rfl, by omega, .inl ⟨rfl, by omega⟩⟩
    .exact ⟨x + 65536 - y - r, 1, _, by omega, by omega, rfl, by omega, .inr ⟨rfl, by omega, by omega⟩⟩
   have ht1 : -65537 <= t := by omega
   have ht2 : t < 65536 := by omega
   have NEXTV : val b16 (S ++ [d]) + val b16 (ys.take (k + 1)) = val b16 (xs.take (k + 1)) + b16 ^ (k + 1) * r' := by
    rw [val_take_succ, val_take_succ, ex.out, ey.out]
    exact digit_less hS hval hdig
   have NV := Lib.hid NEXTV
   have w1 : IntKind.i64.wrap ((x : Int) - (y : Int)) = (x : Int) - (y : Int) := IntWalk.i64_in _ (by omega)
   have w2 : IntKind.i64.wrap ((x : Int) - (y : Int) - (r : Int)) = t := by rw [et]; exact IntWalk.i64_in _ (by omega)
   have hs1 := hb.size
   have NEXT : ∀ v' w1, w1.ownsRow w.heap.size 3 1 v' (k + 1) (ints .i64 S ++ [.int .i64 ((d : Nat) : Int)]) -> (wr.alloc (.cells #[.int .i64 ((d : Nat) : Int)] 3)).grownBy w1 (Value.slice A1 k c1).ownBlock ->
     ∃ (A2 : Option Addr) (c2 : Nat), v' = .slice A2 (k + 1) c2 /\ w1.ownsRow w.heap.size 3 1 (.slice A2 (k + 1) c2) (k + 1) (ints .i64 (S ++ [d])) /\ Below w.heap.size w w1 := by
    intro v' w1 hown' hgrow
    obtain ⟨A2, c2, rfl⟩ := own_shape hown'
    refine ⟨A2, c2, rfl, ?_, (hb.alloc hs1 _).grown hgrow (by simp; omega) (fun j e => (hown.lt j e).1)⟩
    simpa [ints] using hown'
   have hownA := hown.alloc (.cells #[.int .i64 ((d : Nat) : Int)] 3)
   have HN := Lib.hid NEXT
   have HSD := Lib.hid hdg
   clear NEXT NEXTV hb hown ex ey hval hdg hend hdig et
   rcases hcase with ⟨rfl, rfl⟩ | ⟨rfl, t1, t2⟩
   .clear ht1 ht2
    go_wp2_with fail
    refine HA1.out.mono ?_
    rintro e w' ⟨rfl, rfl⟩
    go_wp2_with fail
    refine HA2.out.mono ?_
    rintro e w' ⟨rfl, rfl⟩
    go_wp2_with (at_builtin; refine wpList_append_own _ rfl (.tmp 28) (.tmp 30) 97 rfl w.heap.size 3 i0 (.int .i64 0) 1 8 Tryz.underlying97 hi hz0 hz1 hz2 rfl (by decide) (.slice A1 k c1) k _ rfl hownA ⟨wr.heap.size, 0, none⟩ 1 1 [.int .i64 ((d : Nat) : Int)] rfl rfl (cell_one_new _ _ _) (by simp [Value.oneCell']) (by unfold maxLen; omega) (by omega) (by simp; omega) ?_; intro v' w1 hown' hgrow _; obtain ⟨A2, c2, rfl, n1, n2⟩ := HN.out _ _ hown' hgrow; have N1 := Lib.hid n1; have N2 := Lib.hid n2; clear n1 n2 hown' hgrow)
    go_roundw
    case rel => exact ⟨k + 1, 0, S ++ [d], A2, c2, rfl, by simp, by simp, by omega, by omega, by simp [hS], HSD.out.app (Dg.one (by unfold b16; omega)), NV.out, N1.out, N2.out⟩
    case measure => simp [intOf]; omega
   .go_wp2_with fail
    refine HA1.out.mono ?_
    rintro e w' ⟨rfl, rfl⟩
    go_wp2_with fail
    refine HA2.out.mono ?_
    rintro e w' ⟨rfl, rfl⟩
    go_wp2_with (at_builtin; refine wpList_append_own _ rfl (.tmp 28) (.tmp 30) 97 rfl w.heap.size 3 i0 (.int .i64 0) 1 8 Tryz.underlying97 hi hz0 hz1 hz2 rfl (by decide) (.slice A1 k c1) k _ rfl hownA ⟨wr.heap.size, 0, none⟩ 1 1 [.int .i64 ((d : Nat) : Int)] rfl rfl (cell_one_new _ _ _) (by simp [Value.oneCell']) (by unfold maxLen; omega) (by omega) (by simp; omega) ?_; intro v' w1 hown' hgrow _; obtain ⟨A2, c2, rfl, n1, n2⟩ := HN.out _ _ hown' hgrow; have N1 := Lib.hid n1; have N2 := Lib.hid n2; clear n1 n2 hown' hgrow)
    go_roundw
    case rel => exact ⟨k + 1, 1, S ++ [d], A2, c2, rfl, by simp, by simp, by omega, by omega, by simp [hS], HSD.out.app (Dg.one (by unfold b16; omega)), NV.out, N1.out, N2.out⟩
    case measure => simp [intOf]; omega
theorem val_pad {b : Nat} (xs : List Nat) (k : Nat) : val b (xs ++ List.replicate k 0) = val b xs := by rw [val_append, val_zeros]; simp
theorem getD_pad (xs : List Nat) (k j : Nat) : (xs ++ List.replicate k 0).getD j 0 = xs.getD j 0 := by
 simp only [List.getD_eq_getElem?_getD, List.getElem?_append]
 split
 .rfl
 .rename_i h
  rw [List.getElem?_eq_none (by omega : xs.length <= j), List.getElem?_replicate]
  split <;> rfl
theorem dg_pad {b : Nat} (hb : 0 < b) {xs : List Nat} (h : Dg b xs) (k : Nat) : Dg b (xs ++ List.replicate k 0) := h.app (fun d hd => by rw [List.eq_of_mem_replicate hd]; exact hb)
theorem cmp_at {b : Nat} (hb : 0 < b) {xs ys : List Nat} {m k : Nat} (hx : Dg b xs) (hy : Dg b ys) (h1 : xs.length <= m) (h2 : ys.length <= m) (hk : k < m) (hs : ∀ j, k < j -> xs.getD j 0 = ys.getD j 0) (hne : xs.getD k 0 ≠ ys.getD k 0) :
  cmpN (val b xs) (val b ys) = cmpN (xs.getD k 0) (ys.getD k 0) := by
 have e1 := val_pad (b := b) xs (m - xs.length)
 have e2 := val_pad (b := b) ys (m - ys.length)
 have l1 : (xs ++ List.replicate (m - xs.length) 0).length = m := by simp; omega
 have l2 : (ys ++ List.replicate (m - ys.length) 0).length = m := by simp; omega
 rw [<- e1, <- e2, <- getD_pad xs (m - xs.length) k, <- getD_pad ys (m - ys.length) k]
 rw [<- getD_pad xs (m - xs.length) k, <- getD_pad ys (m - ys.length) k] at hne
 exact cmpN_of (dg_pad hb hx _) (dg_pad hb hy _) (by rw [l1, l2]) (by rw [l1]; exact hk) (fun j hj _ => by rw [getD_pad, getD_pad]; exact hs j hj) hne
theorem eq_at {b : Nat} {xs ys : List Nat} {m : Nat} (h1 : xs.length <= m) (h2 : ys.length <= m) (hs : ∀ j, xs.getD j 0 = ys.getD j 0) : val b xs = val b ys := by
 rw [<- val_pad (b := b) xs (m - xs.length), <- val_pad (b := b) ys (m - ys.length)]
 rw [eq_of_getD (xs := xs ++ List.replicate (m - xs.length) 0) (ys := ys ++ List.replicate (m - ys.length) 0) (by simp; omega) (fun j _ => by rw [getD_pad, getD_pad]; exact hs j)]
theorem rcmp_any {A A' : Option Addr} {c c' : Nat} {xs ys : List Nat} {w : World} (hx : Hr w A c xs) (hy : Hr w A' c' ys) :
  Calls Tryz.prog 111 #[.slice A xs.length c, .slice A' ys.length c'] w fun e w' => e = .returned (.int .i64 (cmpN (val b16 xs) (val b16 ys))) /\ w' = w := by
 obtain ⟨n, en⟩ : ∃ n, Hid (cmpN (val b16 xs) (val b16 ys) = n) := ⟨_, rfl⟩
 rw [en.out]
 have HX := Lib.hid hx
 have HY := Lib.hid hy
 have hxs := hx.small
 have hys := hy.small
 clear hx hy
 obtain ⟨m, em⟩ : ∃ m, m = max xs.length ys.length := ⟨_, rfl⟩
 have hm1 : xs.length <= m := by omega
 have hm2 : ys.length <= m := by omega
 have hm3 : m <= 4294967296 := by omega
 have EM := Lib.hid em
 clear em
 rcases Nat.lt_or_ge xs.length ys.length with h0 | h0
 all_goals
  go_enter Tryz.func111, Tryz.ntmps111
  go_wp2
  go_loopw [5] (fun i wr => ∃ k : Nat, i = .int .i64 ((k : Int) - 1) /\ k <= m /\ (∀ j, k <= j -> xs.getD j 0 = ys.getD j 0) /\ wr = w) (fun i _ => ((intOf i) + 1).toNat)
  case atStart => exact ⟨m, by have := EM.out; congr 1; omega, Nat.le_refl _, (fun j hj => by rw [getD_over (by omega), getD_over (by omega)]), rfl⟩
  case round =>
   obtain ⟨k, hik, hk, hs, rfl⟩ := hrel
   rcases Nat.eq_zero_or_pos k with rfl | hk0
   .obtain rfl := hik
    have hn : (0 : Int) = n := by rw [<- en.out, eq_at hm1 hm2 (fun j => hs j (Nat.zero_le _)), cmpN_refl]
    subst hn
    clear hs hk
    go_wp2
    go_ret
    exact ⟨rfl, rfl⟩
   .obtain ⟨q, rfl⟩ : ∃ q, k = q + 1 := ⟨k - 1, by omega⟩
    rw [show (((q + 1 : Nat) : Int) - 1) = (q : Int) from by omega] at hik
    subst hik
    obtain ⟨x, ex⟩ : ∃ x, Hid (xs.getD q 0 = x) := ⟨_, rfl⟩
    obtain ⟨y, ey⟩ : ∃ y, Hid (ys.getD q 0 = y) := ⟨_, rfl⟩
    have hu := getD_dg (by decide) HX.out.dg q
    have hz := getD_dg (by decide) HY.out.dg q
    have HA1 := Lib.hid (at_int (c := c) HX.out.rd (by omega) (q : Int) (by omega) (by omega))
    have HA2 := Lib.hid (at_int (c := c') HY.out.rd (by omega) (q : Int) (by omega) (by omega))
    rw [show ((q : Int)).toNat = q from by omega] at HA1 HA2
    rw [ex.out] at hu HA1
    rw [ey.out] at hz HA2
    unfold b16 at hu hz
    have HE : Hid (x ≠ y -> n = cmpN x y) := fun hne => by
     rw [<- en.out, cmp_at (by decide) HX.out.dg HY.out.dg hm1 hm2 (by omega : q < m) (fun j hj => hs j hj) (by rw [ex.out, ey.out]; exact hne), ex.out, ey.out]
    have HS : Hid (x = y -> ∀ j, q <= j -> xs.getD j 0 = ys.getD j 0) := fun he j hj => by
     rcases Nat.eq_or_lt_of_le hj with rfl | hlt
     .rw [ex.out, ey.out, he]
     .exact hs j hlt
    clear hs ex ey
    rcases Nat.lt_trichotomy x y with hlt | heq | hgt
    .have hn : n = -1 := by rw [HE.out (by omega), cmpN_lt hlt]
     subst hn
     clear hk
     go_wp2_with fail
     refine HA1.out.mono ?_
     rintro e w' ⟨rfl, rfl⟩
     go_wp2_with fail
     refine HA2.out.mono ?_
     rintro e w' ⟨rfl, rfl⟩
     go_wp2
     go_ret
     exact ⟨rfl, rfl⟩
    .subst heq
     go_wp2_with fail
     refine HA1.out.mono ?_
     rintro e w' ⟨rfl, rfl⟩
     go_wp2_with fail
     refine HA2.out.mono ?_
     rintro e w' ⟨rfl, rfl⟩
     go_wp2_with fail
     refine HA1.out.mono ?_
     rintro e w' ⟨rfl, rfl⟩
     go_wp2_with fail
     refine HA2.out.mono ?_
     rintro e w' ⟨rfl, rfl⟩
     go_wp2
     go_roundw
     case rel => exact ⟨q, by simp, by omega, HS.out trivial, trivial⟩
     case measure => simp [intOf]
    .have hn : n = 1 := by rw [HE.out (by omega), cmpN_gt hgt]
     subst hn
     clear hk
     go_wp2_with fail
     refine HA1.out.mono ?_
     rintro e w' ⟨rfl, rfl⟩
     go_wp2_with fail
     refine HA2.out.mono ?_
     rintro e w' ⟨rfl, rfl⟩
     go_wp2_with fail
     refine HA1.out.mono ?_
     rintro e w' ⟨rfl, rfl⟩
     go_wp2_with fail
     refine HA2.out.mono ?_
     rintro e w' ⟨rfl, rfl⟩
     go_wp2
     go_ret
     exact ⟨rfl, rfl⟩
theorem Two.toB {W V : World} {g B : Nat} {a b : Value} (h : Two W g a b) (hb : Below B W V) (hg : g < B) : Two V g a b :=
 ⟨(hb.cell (p := ⟨g, 0, none⟩) hg).trans h.c0, (hb.cell (p := ⟨g, 1, none⟩) hg).trans h.c1, (hb.frozen (p := ⟨g, 0, none⟩) hg).trans h.f0, (hb.frozen (p := ⟨g, 1, none⟩) hg).trans h.f1, Nat.lt_of_lt_of_le h.lt hb.size⟩
theorem halves_r {A : Option Addr} {c : Nat} {xs : List Nat} {w : World} (hx : Arg w A c xs) : Calls Tryz.prog 102 #[.slice A xs.length c] w (HRet w (val b32 xs)) := halves_any hx
theorem of_r (neg : Bool) {A : Option Addr} {c n : Nat} {w : World} (hr : Hr w A c (dig b16 n)) : Calls Tryz.prog 100 #[.bool neg, .slice A (dig b16 n).length c] w (ZR w (zof neg n)) := by
 have h := of_any neg hr.rd hr.dg hr.le hr.cap (Nat.le_trans hr.small (by decide))
 rw [val_dig b16_one] at h
 exact h.mono fun _ _ h => h.zr
theorem rneg_any (n : Bool) {A : Option Addr} {c : Nat} {xs : List Nat} {w : World} (hx : Arg w A c xs) (sx : xs.length <= 10000) :
  Calls Tryz.prog 104 #[.agg #[.bool n, .slice A xs.length c]] w (ZR w (zof (!n) (val b32 xs))) := by
 obtain ⟨W0, hW0⟩ : ∃ W0, W0 = ((w.alloc (.cells #[.bool n, .slice A xs.length c] 24)).alloc (.cells #[.bool false, .slice none 0 0] 24)) := ⟨_, rfl⟩
 have hb : Below w.heap.size w W0 := by rw [hW0]; exact ((Below.refl _ _).alloc (Nat.le_refl _) _).alloc (by simp) _
 have tX : Two W0 (w.heap.size) (.bool n) (.slice A xs.length c) := by
  have h := Two.new w (.bool n) (.slice A xs.length c) 24
  rw [hW0]; exact h.alloc _
 have tR : Two W0 (w.heap.size + 1) (.bool false) (.slice none 0 0) := by
  have h := Two.new (w.alloc (.cells #[.bool n, .slice A xs.length c] 24)) (.bool false) (.slice none 0 0) 24
  rw [World.size_alloc] at h
  rw [hW0]; exact h
 have HW0 := Lib.hid hW0
 have HB0 := Lib.hid hb
 have HX := Lib.hid hx
 have hBW : w.heap.size + 1 <= W0.heap.size := by rw [hW0]; simp
 have Dsx : val b32 xs < b16 ^ (2 * xs.length) := by rw [<- pow_2k]; exact val_lt hx.dg
 clear hW0 hb hx
 go_enter Tryz.func104, Tryz.ntmps104
 go_wp2_with fail
 rw [<- HW0.out]
 refine wp_region_plan (S := fun w' => Below (w.heap.size + 1) W0 w') [(0, true), (1, true), (2, true), (3, true), (4, true), (5, false), (6, false), (7, false)] (by kernel_rfl) (by kernel_rfl) (Below.refl _ _).drew ?_
 have HB := (Below.refl W0.heap.size W0).drew
 repeat (refine plan_take (v := ?_) rfl (by rfl) ?_ ?_; rotate_left; (focus (intro w' hS; have k0 := (tX.toB hS (by omega)).c0; have k1 := (tX.toB hS (by omega)).c1; go_simp; try with_reducible rfl)); simp only [Act.put, List.setIfInBounds_toArray, List.set_cons_zero, List.set_cons_succ])
 refine plan_call rfl (by rfl) (fun K hK => ?_)
 go_simp
 refine (halves_r (HX.out.to (HB0.out.trans (HB.mono HB0.out.size)))).mono ?_
 rintro e V ⟨A1, c1, rfl, r1, l1, m1, bb⟩
 replace HB := HB.trans (bb.mono HB.size)
 have H1 := Hr.of_ret r1 l1 m1 Dsx (by omega)
 clear r1 l1 m1 bb
 refine hK.out _ _ (HB.mono hBW) ?_
 clear hK K
 refine plan_call rfl (by rfl) (fun K hK => ?_)
 go_simp
 refine (of_r (!n) H1).mono ?_
 rintro e V ⟨xr, yr, rfl, rz, bb⟩
 replace HB := HB.trans (bb.mono HB.size)
 clear H1 bb
 refine hK.out _ _ (HB.mono hBW) ?_
 clear hK K
 refine plan_call rfl (by rfl) (fun K hK => ?_)
 refine wp_store_two (by rfl) (by rfl) (tR.to HB) Fs.nil rz.fs (fun V u kp => ?_)
 have HF := kp.zc _ _ _ rz
 have HE := kp.bel _ _ (HB0.out.trans (HB.mono HB0.out.size)) (by omega)
 refine hK.out _ _ (kp.bel _ _ (HB.mono hBW) (Nat.le_refl _)) ?_
 clear hK K kp
 simp only [Act.put, List.setIfInBounds_toArray, List.set_cons_zero, List.set_cons_succ]
 refine plan_done ?_
 have HF2 := Lib.hid HF
 have HE2 := Lib.hid HE
 clear HF HE
 go_wp2
 exact bodyPost_ret (v := .agg #[xr, yr]) (by simp [results, Tryz.f104, go_sem, u.c0, u.c1]) rfl ⟨xr, yr, rfl, HF2.out, HE2.out⟩
theorem add_r {A A' : Option Addr} {c c' m n : Nat} {w : World} (hx : Hr w A c (dig b16 m)) (hy : Hr w A' c' (dig b16 n)) :
  Calls Tryz.prog 110 #[.slice A (dig b16 m).length c, .slice A' (dig b16 n).length c'] w (HRet w (m + n)) := by
 have h := radd_any hx hy
 rw [val_dig b16_one, val_dig b16_one] at h
 exact h
theorem sub_r {A A' : Option Addr} {c c' m n : Nat} {w : World} (hx : Hr w A c (dig b16 m)) (hy : Hr w A' c' (dig b16 n)) (h : n <= m) :
  Calls Tryz.prog 112 #[.slice A (dig b16 m).length c, .slice A' (dig b16 n).length c'] w (HRet w (m - n)) := by
 have h := rsub_any hx hy (by rw [val_dig b16_one, val_dig b16_one]; exact h)
 rw [val_dig b16_one, val_dig b16_one] at h
 exact h
theorem cmp_r {A A' : Option Addr} {c c' m n : Nat} {w : World} (hx : Hr w A c (dig b16 m)) (hy : Hr w A' c' (dig b16 n)) :
  Calls Tryz.prog 111 #[.slice A (dig b16 m).length c, .slice A' (dig b16 n).length c'] w fun e w' => e = .returned (.int .i64 (cmpN m n)) /\ w' = w := by
 have h := rcmp_any hx hy
 rw [val_dig b16_one, val_dig b16_one] at h
 exact h
theorem least_any (n : Bool) {A : Option Addr} {c : Nat} {xs : List Nat} {w : World} (hx : Arg w A c xs) :
  Calls Tryz.prog 84 #[.agg #[.bool n, .slice A xs.length c]] w (ZRet w (zof n (val b32 xs))) := by
 obtain ⟨W0, hW0⟩ : ∃ W0, W0 = (w.alloc (.cells #[.bool n, .slice A xs.length c] 24)).alloc (.cells #[.bool false, .slice none 0 0] 24) := ⟨_, rfl⟩
 have hb : Below w.heap.size w W0.drew := by rw [hW0]; exact (((Below.refl _ _).alloc (Nat.le_refl _) _).alloc (by simp) _).drew
 have tX : Zat W0.drew w.heap.size (.bool n) (.slice A xs.length c) := by rw [hW0]; exact (Zat.new w _ _).alloc _
 have tR : Zat W0.drew (w.heap.size + 1) (.bool false) (.slice none 0 0) := by
  have h := Zat.new (w.alloc (.cells #[.bool n, .slice A xs.length c] 24)) (.bool false) (.slice none 0 0)
  rw [World.size_alloc] at h
  rw [hW0]; exact h
 have HSM : Hid ((dig b16 (val b32 xs)).length <= 8589934592) := by
  have h1 := trimL_dig b16_one (hw_dg hx.dg)
  rw [hw_val] at h1
  have h2 := trimL_le (hw xs)
  have h3 := hx.small
  rw [h1, hw_length] at h2
  show _ <= _
  omega
 have HH := Lib.hid (halves_any (hx.to hb))
 have cN : W0.cell? ⟨w.heap.size, 0, none⟩ = some (.bool n) := tX.two.c0
 have cW : W0.cell? ⟨w.heap.size, 1, none⟩ = some (.slice A xs.length c) := tX.two.c1
 have HW0 := Lib.hid hW0
 clear hW0 hx
 go_enter Tryz.func84, Tryz.ntmps84
 go_wp2_with fail
 rw [<- HW0.out]
 refine wp_region_any (by kernel_rfl) ?_
 refine (show wpAny _ _ _ _ _ _ _ (World.drew _) from ?_)
 refine wpAny_take (i := 0) (v := .pointer (some ⟨w.heap.size, 0, none⟩)) rfl (by kernel_rfl) (by kernel_rfl) (by kernel_rfl) (fun _ _ _ h => h) (Or.inl ⟨by rfl, fun _ => by go_simp⟩) ?_
 refine wpAny_take (i := 2) (v := .pointer (some ⟨w.heap.size, 1, none⟩)) rfl (by kernel_rfl) (by kernel_rfl) (by kernel_rfl) (fun _ _ _ h => h) (Or.inl ⟨by rfl, fun _ => by go_simp⟩) ?_
 refine wpAny_ready (rs := [1, 3]) (by kernel_rfl) (by simp) (AllReady.cons rfl (fun K hK => ?_) (AllReady.cons rfl (fun K hK => ?_) AllReady.nil))
 .go_simp; refine hK _ _ ?_; clear hK K
  refine wpAny_ready (rs := [3]) (by kernel_rfl) (by simp) (AllReady.cons rfl (fun K hK => ?_) AllReady.nil)
  go_simp; refine hK _ _ ?_; clear hK K
  refine wpAny_ready (rs := [4]) (by kernel_rfl) (by simp) (AllReady.cons rfl (fun K hK => ?_) AllReady.nil)
  go_simp
  refine HH.out.mono ?_
  rintro e w2 ⟨A1, c1, rfl, r1, r2, r3, hb2⟩
  have hsm2 : (dig b16 (val b32 xs)).length <= 8589934592 := HSM.out
  have HO := Lib.hid (of_any n r1 (Dg_dig b16_one _) r2 r3 hsm2)
  rw [val_dig b16_one] at HO
  have cN2 := (tX.two.to hb2).c0
  have tR2 := tR.two.to hb2
  have HB := Lib.hid (hb.trans (hb2.mono hb.size))
  clear r1 r2 hsm2 hb2
  refine hK _ _ ?_; clear hK K
  refine wpAny_ready (rs := [5]) (by kernel_rfl) (by simp) (AllReady.cons rfl (fun K hK => ?_) AllReady.nil)
  obtain ⟨z, ez⟩ : ∃ z, Hid (zof n (val b32 xs) = z) := ⟨_, rfl⟩
  rw [ez.out] at HO
  go_simp
  refine HO.out.mono ?_
  rintro e w3 ⟨A3, c3, rfl, s1, s2, s3, hb3⟩
  obtain ⟨q1, q2, q3, q4, q5⟩ := tR2.to hb3
  have S1 := Lib.hid s1
  have HB3 := Lib.hid (HB.out.trans (hb3.mono HB.out.size))
  clear s1 hb3 tR2
  refine hK _ _ ?_; clear hK K
  refine wpAny_ready (rs := [6]) (by kernel_rfl) (by simp) (AllReady.cons rfl (fun K hK => ?_) AllReady.nil)
  go_simp; refine hK _ _ ?_; clear hK K
  refine wpAny_done (by kernel_rfl) ?_ _
  go_wp2
  have tF := (⟨q1, q2, q3, q4, q5⟩ : Two w3 (w.heap.size + 1) _ _).set (.bool (decide (z < 0))) (.slice A3 (dig b32 z.natAbs).length c3)
  refine bodyPost_ret (v := .agg #[.bool (decide (z < 0)), .slice A3 (dig b32 z.natAbs).length c3]) (by simp [results, Tryz.f84, go_sem, tF.c0, tF.c1]) rfl ?_
  rw [ez.out]
  exact zret_stored ⟨q1, q2, q3, q4, q5⟩ (by omega) S1.out s2 s3 HB3.out
 .go_simp; refine hK _ _ ?_; clear hK K
  refine wpAny_ready (rs := [1, 4]) (by kernel_rfl) (by simp) (AllReady.cons rfl (fun K hK => ?_) (AllReady.cons rfl (fun K hK => ?_) AllReady.nil))
  .go_simp; refine hK _ _ ?_; clear hK K
   refine wpAny_ready (rs := [4]) (by kernel_rfl) (by simp) (AllReady.cons rfl (fun K hK => ?_) AllReady.nil)
   go_simp
   refine HH.out.mono ?_
   rintro e w2 ⟨A1, c1, rfl, r1, r2, r3, hb2⟩
   have hsm2 : (dig b16 (val b32 xs)).length <= 8589934592 := HSM.out
   have HO := Lib.hid (of_any n r1 (Dg_dig b16_one _) r2 r3 hsm2)
   rw [val_dig b16_one] at HO
   have cN2 := (tX.two.to hb2).c0
   have tR2 := tR.two.to hb2
   have HB := Lib.hid (hb.trans (hb2.mono hb.size))
   clear r1 r2 hsm2 hb2
   refine hK _ _ ?_; clear hK K
   refine wpAny_ready (rs := [5]) (by kernel_rfl) (by simp) (AllReady.cons rfl (fun K hK => ?_) AllReady.nil)
   obtain ⟨z, ez⟩ : ∃ z, Hid (zof n (val b32 xs) = z) := ⟨_, rfl⟩
   rw [ez.out] at HO
   go_simp
   refine HO.out.mono ?_
   rintro e w3 ⟨A3, c3, rfl, s1, s2, s3, hb3⟩
   obtain ⟨q1, q2, q3, q4, q5⟩ := tR2.to hb3
   have S1 := Lib.hid s1
   have HB3 := Lib.hid (HB.out.trans (hb3.mono HB.out.size))
   clear s1 hb3 tR2
   refine hK _ _ ?_; clear hK K
   refine wpAny_ready (rs := [6]) (by kernel_rfl) (by simp) (AllReady.cons rfl (fun K hK => ?_) AllReady.nil)
   go_simp; refine hK _ _ ?_; clear hK K
   refine wpAny_done (by kernel_rfl) ?_ _
   go_wp2
   have tF := (⟨q1, q2, q3, q4, q5⟩ : Two w3 (w.heap.size + 1) _ _).set (.bool (decide (z < 0))) (.slice A3 (dig b32 z.natAbs).length c3)
   refine bodyPost_ret (v := .agg #[.bool (decide (z < 0)), .slice A3 (dig b32 z.natAbs).length c3]) (by simp [results, Tryz.f84, go_sem, tF.c0, tF.c1]) rfl ?_
   rw [ez.out]
   exact zret_stored ⟨q1, q2, q3, q4, q5⟩ (by omega) S1.out s2 s3 HB3.out
  .go_simp
   refine HH.out.mono ?_
   rintro e w2 ⟨A1, c1, rfl, r1, r2, r3, hb2⟩
   have hsm2 : (dig b16 (val b32 xs)).length <= 8589934592 := HSM.out
   have HO := Lib.hid (of_any n r1 (Dg_dig b16_one _) r2 r3 hsm2)
   rw [val_dig b16_one] at HO
   have cN2 := (tX.two.to hb2).c0
   have tR2 := tR.two.to hb2
   have HB := Lib.hid (hb.trans (hb2.mono hb.size))
   clear r1 r2 hsm2 hb2
   refine hK _ _ ?_; clear hK K
   refine wpAny_ready (rs := [1]) (by kernel_rfl) (by simp) (AllReady.cons rfl (fun K hK => ?_) AllReady.nil)
   go_simp; refine hK _ _ ?_; clear hK K
   refine wpAny_ready (rs := [5]) (by kernel_rfl) (by simp) (AllReady.cons rfl (fun K hK => ?_) AllReady.nil)
   obtain ⟨z, ez⟩ : ∃ z, Hid (zof n (val b32 xs) = z) := ⟨_, rfl⟩
   rw [ez.out] at HO
   go_simp
   refine HO.out.mono ?_
   rintro e w3 ⟨A3, c3, rfl, s1, s2, s3, hb3⟩
   obtain ⟨q1, q2, q3, q4, q5⟩ := tR2.to hb3
   have S1 := Lib.hid s1
   have HB3 := Lib.hid (HB.out.trans (hb3.mono HB.out.size))
   clear s1 hb3 tR2
   refine hK _ _ ?_; clear hK K
   refine wpAny_ready (rs := [6]) (by kernel_rfl) (by simp) (AllReady.cons rfl (fun K hK => ?_) AllReady.nil)
   go_simp; refine hK _ _ ?_; clear hK K
   refine wpAny_done (by kernel_rfl) ?_ _
   go_wp2
   have tF := (⟨q1, q2, q3, q4, q5⟩ : Two w3 (w.heap.size + 1) _ _).set (.bool (decide (z < 0))) (.slice A3 (dig b32 z.natAbs).length c3)
   refine bodyPost_ret (v := .agg #[.bool (decide (z < 0)), .slice A3 (dig b32 z.natAbs).length c3]) (by simp [results, Tryz.f84, go_sem, tF.c0, tF.c1]) rfl ?_
   rw [ez.out]
   exact zret_stored ⟨q1, q2, q3, q4, q5⟩ (by omega) S1.out s2 s3 HB3.out
theorem lo_word (m : Nat) (hm : m < 18446744073709551616) : ((m : Nat) : Int).tmod 4294967296 % 4294967296 = (m : Int) % 4294967296 := by
 rw [Int.tmod_eq_emod_of_nonneg (by omega)]; omega
theorem hi_word (m : Nat) (hm : m < 18446744073709551616) : IntKind.u64.wrap (((m : Nat) : Int).tdiv 4294967296) % 4294967296 = (m : Int) / 4294967296 := by
 rw [Int.tdiv_eq_ediv_of_nonneg (by omega), IntKind.wrap_u64]; omega
theorem from_tail (neg : Bool) (m : Nat) (hm : m < 18446744073709551616) {w W : World} (hb : Below w.heap.size w W) :
  Calls Tryz.prog 84 #[.agg #[.bool neg, .slice (some ⟨W.heap.size, 0, none⟩) 2 2]] (W.alloc (.cells #[.int .u32 ((m : Int) % 4294967296), .int .u32 ((m : Int) / 4294967296)] 81)) (ZRet (W.alloc (.cells #[.int .u32 ((m : Int) % 4294967296), .int .u32 ((m : Int) / 4294967296)] 81)) (zof neg m)) := by
 have hr := Rd.new .u32 W 81 [m % 4294967296, m / 4294967296]
 have h := least_any neg (A := some ⟨W.heap.size, 0, none⟩) (c := 2) (xs := [m % 4294967296, m / 4294967296]) (w := W.alloc (.cells (ints .u32 [m % 4294967296, m / 4294967296]).toArray 81))
  ⟨hr.more (by simp), two_dg hm, by simp, by omega, by simp⟩
 rw [two_val] at h
 simpa [ints] using h
theorem rfrom_pos (m : Nat) (hm : m < 9223372036854775808) (w : World) :
  Calls Tryz.prog 64 #[.int .i64 (m : Nat)] w (ZRet w ((m : Nat))) := by
 have t0 := Two.new w (.bool false) (.slice none 0 0) 24
 have HB0 := Lib.hid ((Below.refl w.heap.size w).alloc (Nat.le_refl _) (.cells #[.bool false, .slice none 0 0] 24))
 have hm' : m < 18446744073709551616 := by omega
 have HI := Lib.hid (from_tail false m hm' HB0.out)
 obtain ⟨z, ez⟩ : ∃ z, Hid (zof false m = z) := ⟨_, rfl⟩
 rw [ez.out] at HI
 simp only [World.size_alloc] at HI
 go_enter Tryz.func64, Tryz.ntmps64
 go_wp2_with fail
 refine HI.out.mono ?_
 rintro e w3 ⟨A3, c3, rfl, s1, s2, s3, hb3⟩
 obtain ⟨q1, q2, q3, q4, q5⟩ := (t0.alloc _).to hb3
 have S1 := Lib.hid s1
 have HB3 := Lib.hid ((HB0.out.alloc HB0.out.size _).trans (hb3.mono (by simp; omega)))
 clear s1 hb3 t0
 go_wp2
 have tF := (⟨q1, q2, q3, q4, q5⟩ : Two w3 w.heap.size _ _).set (.bool (decide (z < 0))) (.slice A3 (dig b32 z.natAbs).length c3)
 refine bodyPost_ret (v := .agg #[.bool (decide (z < 0)), .slice A3 (dig b32 z.natAbs).length c3]) (by simp [results, Tryz.f64, go_sem, tF.c0, tF.c1]) rfl ?_
 rw [show ((m : Nat) : Int) = z from by rw [<- ez.out]; rfl]
 exact zret_stored ⟨q1, q2, q3, q4, q5⟩ (Nat.le_refl _) S1.out s2 s3 HB3.out
theorem rfrom_neg (m : Nat) (hm0 : 0 < m) (hm : m <= 9223372036854775808) (w : World) :
  Calls Tryz.prog 64 #[.int .i64 (-(m : Int))] w (ZRet w (-(m : Int))) := by
 have t0 := Two.new w (.bool false) (.slice none 0 0) 24
 have HB0 := Lib.hid ((Below.refl w.heap.size w).alloc (Nat.le_refl _) (.cells #[.bool false, .slice none 0 0] 24))
 have hm' : m < 18446744073709551616 := by omega
 have HI := Lib.hid (from_tail true m hm' HB0.out)
 obtain ⟨z, ez⟩ : ∃ z, Hid (zof true m = z) := ⟨_, rfl⟩
 rw [ez.out] at HI
 simp only [World.size_alloc] at HI
 go_enter Tryz.func64, Tryz.ntmps64
 go_wp2_with fail
 rw [wrap_neg_neg m hm', lo_word m hm', hi_word m hm']
 refine HI.out.mono ?_
 rintro e w3 ⟨A3, c3, rfl, s1, s2, s3, hb3⟩
 obtain ⟨q1, q2, q3, q4, q5⟩ := (t0.alloc _).to hb3
 have S1 := Lib.hid s1
 have HB3 := Lib.hid ((HB0.out.alloc HB0.out.size _).trans (hb3.mono (by simp; omega)))
 clear s1 hb3 t0
 go_wp2
 have tF := (⟨q1, q2, q3, q4, q5⟩ : Two w3 w.heap.size _ _).set (.bool (decide (z < 0))) (.slice A3 (dig b32 z.natAbs).length c3)
 refine bodyPost_ret (v := .agg #[.bool (decide (z < 0)), .slice A3 (dig b32 z.natAbs).length c3]) (by simp [results, Tryz.f64, go_sem, tF.c0, tF.c1]) rfl ?_
 rw [show (-(m : Int) : Int) = z from by rw [<- ez.out]; rfl]
 exact zret_stored ⟨q1, q2, q3, q4, q5⟩ (Nat.le_refl _) S1.out s2 s3 HB3.out
theorem rfrom_any (n : Int) (h1 : -9223372036854775808 <= n) (h2 : n <= 9223372036854775807) (w : World) :
  Calls Tryz.prog 64 #[.int .i64 n] w (ZRet w n) := by
 rcases Int.lt_or_le n 0 with h | h
 .obtain ⟨m, rfl⟩ : ∃ m : Nat, n = -(m : Int) := ⟨n.natAbs, by omega⟩
  exact rfrom_neg m (by omega) (by omega) w
 .obtain ⟨m, rfl⟩ := Int.eq_ofNat_of_zero_le h
  exact rfrom_pos m (by omega) w
def Zl (W : World) (x y : Value) (z : Int) : Prop := ∃ n A c xs, x = .bool n /\ y = .slice A xs.length c /\ Arg W A c xs /\ xs.length <= 10000 /\ zof n (val b32 xs) = z
theorem Zl.to {W V : World} {x y : Value} {z : Int} (h : Zl W x y z) (hb : Below W.heap.size W V) : Zl V x y z := by
 obtain ⟨n, A, c, xs, h1, h2, h3, h4⟩ := h
 exact ⟨n, A, c, xs, h1, h2, h3.to hb, h4⟩
theorem Zl.zi {W : World} {x y : Value} {z : Int} (h : Zl W x y z) : Zi W x y z := by
 obtain ⟨n, A, c, xs, h1, h2, h3, _, h4⟩ := h
 exact ⟨n, A, c, xs, h1, h2, h3, h4⟩
theorem Zc.zl {W : World} {x y : Value} {z : Int} {k : Nat} (h : Zc W x y z) (hs : Sm k z) (hk : k <= 10000) : Zl W x y z := by
 obtain ⟨A, c, h1, h2, h3, h4, h5⟩ := h
 have hl := Nat.le_trans (dig_length_le b32_one hs) hk
 exact ⟨_, A, c, _, h1, h2, ⟨h3, Dg_dig b32_one _, h4, h5, by omega⟩, hl, by rw [val_dig b32_one]; exact zof_dec z⟩
section
variable {w : World} {x y x' y' : Value} {a b : Int}
theorem rneg_z (ha : Zl w x y a) : Calls Tryz.prog 104 #[.agg #[x, y]] w (ZR w (-a)) := by
 obtain ⟨n, A, c, xs, rfl, rfl, h3, h4, rfl⟩ := ha
 have h := rneg_any n h3 h4
 rw [zof_not] at h
 exact h
theorem rleast_z (ha : Zl w x y a) : Calls Tryz.prog 84 #[.agg #[x, y]] w (ZR w a) := by
 obtain ⟨n, A, c, xs, rfl, rfl, h3, h4, rfl⟩ := ha
 exact (least_any n h3).mono fun _ _ h => h.zr
theorem rfrom_z (v : Int) (h1 : -9223372036854775808 <= v) (h2 : v <= 9223372036854775807) (w : World) : Calls Tryz.prog 64 #[.int .i64 v] w (ZR w v) :=
 (rfrom_any v h1 h2 w).mono fun _ _ h => h.zr
end
theorem rAbs_any (n : Bool) {A : Option Addr} {c : Nat} {xs : List Nat} {w : World} (hx : Arg w A c xs) (sx : xs.length <= 10000) :
  Calls Tryz.prog 106 #[.agg #[.bool n, .slice A xs.length c]] w (ZR w ((val b32 xs : Nat) : Int)) := by
 obtain ⟨W0, hW0⟩ : ∃ W0, W0 = ((w.alloc (.cells #[.bool n, .slice A xs.length c] 24)).alloc (.cells #[.bool false, .slice none 0 0] 24)) := ⟨_, rfl⟩
 have hb : Below w.heap.size w W0 := by rw [hW0]; exact ((Below.refl _ _).alloc (Nat.le_refl _) _).alloc (by simp) _
 have tX : Two W0 (w.heap.size) (.bool n) (.slice A xs.length c) := by
  have h := Two.new w (.bool n) (.slice A xs.length c) 24
  rw [hW0]; exact h.alloc _
 have tR : Two W0 (w.heap.size + 1) (.bool false) (.slice none 0 0) := by
  have h := Two.new (w.alloc (.cells #[.bool n, .slice A xs.length c] 24)) (.bool false) (.slice none 0 0) 24
  rw [World.size_alloc] at h
  rw [hW0]; exact h
 have HW0 := Lib.hid hW0
 have HB0 := Lib.hid hb
 have HX := Lib.hid hx
 have hBW : w.heap.size + 1 <= W0.heap.size := by rw [hW0]; simp
 have Dsx : val b32 xs < b16 ^ (2 * xs.length) := by rw [<- pow_2k]; exact val_lt hx.dg
 clear hW0 hb hx
 go_enter Tryz.func106, Tryz.ntmps106
 go_wp2_with fail
 rw [<- HW0.out]
 have k1 := tX.c0
 have k2 := tX.c1
 refine (halves_r (HX.out.to HB0.out)).mono ?_
 rintro e V ⟨A1, c1, rfl, r1, l1, m1, bb⟩
 have H1 := Hr.of_ret r1 l1 m1 Dsx (by omega)
 have HOF := Lib.hid (of_r false H1)
 have t2 := tR.to bb
 have HB := Lib.hid (HB0.out.trans (bb.mono HB0.out.size))
 clear k1 k2 r1 l1 m1 bb H1 tX tR
 go_wp2_with fail
 refine HOF.out.mono ?_
 rintro e V2 ⟨xr, yr, rfl, rz, bb⟩
 have rz2 := rz
 obtain ⟨A3, c3, rfl, rfl, -⟩ := rz2
 have t3 := t2.to bb
 have HE := Lib.hid (HB.out.trans (bb.mono HB.out.size))
 have k0 := t3.c0
 have k1 := t3.c1
 have k2 := t3.f0
 have k3 := t3.f1
 have RZ := Lib.hid rz
 clear rz bb t2 HB HOF
 go_wp2
 have tF := t3.set (.bool (decide (zof false (val b32 xs) < 0))) (.slice A3 (dig b32 (zof false (val b32 xs)).natAbs).length c3)
 have KP := Kept.of t3 (fun n e => by cases e) (fun n e => by cases e) (.bool (decide (zof false (val b32 xs) < 0))) (.slice A3 (dig b32 (zof false (val b32 xs)).natAbs).length c3)
 have hz : zof false (val b32 xs) = ((val b32 xs : Nat) : Int) := by simp [zof]
 refine bodyPost_ret (v := .agg #[.bool (decide (zof false (val b32 xs) < 0)), .slice A3 (dig b32 (zof false (val b32 xs)).natAbs).length c3]) (by simp [results, Tryz.f106, go_sem, tF.c0, tF.c1]) rfl ?_
 rw [<- hz]
 exact ⟨_, _, rfl, KP.zc _ _ _ RZ.out, KP.bel _ _ HE.out (by omega)⟩
theorem dig_len0 {b n : Nat} (hb : 1 < b) : (dig b n).length = 0 ↔ n = 0 :=
 ⟨fun h => (dig_nil hb).1 (List.eq_nil_of_length_eq_zero h), fun h => by rw [h]; rfl⟩
theorem rSign_any (n : Bool) {A : Option Addr} {c : Nat} {xs : List Nat} {w : World} (hx : Arg w A c xs) (sx : xs.length <= 10000) :
  Calls Tryz.prog 103 #[.agg #[.bool n, .slice A xs.length c]] w fun e w' => e = .returned (.int .i64 (sgn (zof n (val b32 xs)))) /\ Below w.heap.size w w' := by
 obtain ⟨W0, hW0⟩ : ∃ W0, W0 = (w.alloc (.cells #[.bool n, .slice A xs.length c] 24)) := ⟨_, rfl⟩
 have hb : Below w.heap.size w W0 := by rw [hW0]; exact (Below.refl _ _).alloc (Nat.le_refl _) _
 have tX : Two W0 (w.heap.size) (.bool n) (.slice A xs.length c) := by
  have h := Two.new w (.bool n) (.slice A xs.length c) 24
  rw [hW0]; exact h
 have HW0 := Lib.hid hW0
 have HB0 := Lib.hid hb
 have HX := Lib.hid hx
 have hBW : w.heap.size + 1 <= W0.heap.size := by rw [hW0]; simp
 have Dsx : val b32 xs < b16 ^ (2 * xs.length) := by rw [<- pow_2k]; exact val_lt hx.dg
 clear hW0 hb hx
 have HH := Lib.hid (halves_r (HX.out.to HB0.out))
 have h0 := @dig_len0 b16 (val b32 xs) b16_one
 obtain ⟨l, hl⟩ : ∃ l, (dig b16 (val b32 xs)).length = l := ⟨_, rfl⟩
 obtain ⟨v, hv⟩ : ∃ v, val b32 xs = v := ⟨_, rfl⟩
 rw [hv] at h0 hl HH
 rw [hv]
 rw [hl] at h0
 have HL := Lib.hid hl
 have HS : Hid ((l = 0 -> sgn (zof n v) = 0) /\ (l ≠ 0 -> sgn (zof n v) = if n then -1 else 1)) := by
  refine ⟨fun h => by rw [h0.1 h, zof_zero]; rfl, fun h => ?_⟩
  have : v ≠ 0 := fun e => h (h0.2 e)
  cases n <;> simp only [sgn, zof, Bool.false_eq_true, if_false, if_true] <;> repeat' split
  all_goals omega
 clear hl h0 hv Dsx
 rcases Nat.eq_zero_or_pos l with hl0 | hl0
 .subst hl0
  rw [HS.out.1 rfl]
  go_enter Tryz.func103, Tryz.ntmps103
  go_wp2_with fail
  rw [<- HW0.out]
  have k1 := tX.c0
  have k2 := tX.c1
  refine HH.out.mono ?_
  rintro e V ⟨A1, c1, rfl, r1, l1, m1, bb⟩
  rw [HL.out]
  have k3 := (tX.to bb).c0
  have k4 := (tX.to bb).c1
  have HB := Lib.hid (HB0.out.trans (bb.mono HB0.out.size))
  clear k1 k2 r1 l1 m1 bb tX
  go_wp2
  go_ret
  exact ⟨rfl, HB.out⟩
 .have hln : ((l : Int) == 0) = false := by rw [beq_eq_false_iff_ne]; omega
  rw [HS.out.2 (by omega)]
  cases n
  .go_enter Tryz.func103, Tryz.ntmps103
   go_wp2_with fail
   rw [<- HW0.out]
   have k1 := tX.c0
   have k2 := tX.c1
   refine HH.out.mono ?_
   rintro e V ⟨A1, c1, rfl, r1, l1, m1, bb⟩
   rw [HL.out]
   have k3 := (tX.to bb).c0
   have k4 := (tX.to bb).c1
   have HB := Lib.hid (HB0.out.trans (bb.mono HB0.out.size))
   clear k1 k2 r1 l1 m1 bb tX
   go_wp2
   go_ret
   exact ⟨rfl, HB.out⟩
  .go_enter Tryz.func103, Tryz.ntmps103
   go_wp2_with fail
   rw [<- HW0.out]
   have k1 := tX.c0
   have k2 := tX.c1
   refine HH.out.mono ?_
   rintro e V ⟨A1, c1, rfl, r1, l1, m1, bb⟩
   rw [HL.out]
   have k3 := (tX.to bb).c0
   have k4 := (tX.to bb).c1
   have HB := Lib.hid (HB0.out.trans (bb.mono HB0.out.size))
   clear k1 k2 r1 l1 m1 bb tX
   go_wp2
   go_ret
   exact ⟨rfl, HB.out⟩
end Go.Proofs.YtcgdbdhhoomgiaaGreat

namespace Go.Proofs.YtcgdbdhhoomgiaaGreat
open Go.RowKit Go.Shelf
theorem rsign_z {w : World} {x y : Value} {a : Int} (ha : Zl w x y a) : Calls Tryz.prog 103 #[.agg #[x, y]] w fun e w' => e = .returned (.int .i64 (sgn a)) /\ Below w.heap.size w w' := by
 obtain ⟨n, A, c, xs, rfl, rfl, h3, h4, rfl⟩ := ha
 exact rSign_any n h3 h4
theorem cmp_signs {n m : Bool} {x y : Nat} (h : sgn (zof n x) = sgn (zof m y)) : (sgn (zof n x) < 0 -> -cmpN x y = cmpZ (zof n x) (zof m y)) /\ (¬ sgn (zof n x) < 0 -> cmpN x y = cmpZ (zof n x) (zof m y)) := by
 have h1 := cmpZ_mag h
 rcases sgn_range (zof n x) with hs | hs | hs
 .rw [hs] at h1 ⊢; exact ⟨fun _ => by omega, fun h => by omega⟩
 .rw [hs] at h1 ⊢
  refine ⟨fun h => by omega, fun _ => ?_⟩
  rw [hs] at h
  have hx : x = 0 := by
   refine Classical.byContradiction fun hn => ?_
   cases n <;> simp only [sgn, zof, Bool.false_eq_true, if_false, if_true] at hs <;> (repeat' split at hs) <;> omega
  have hy : y = 0 := by
   refine Classical.byContradiction fun hn => ?_
   cases m <;> simp only [sgn, zof, Bool.false_eq_true, if_false, if_true] at h <;> (repeat' split at h) <;> omega
  subst hx hy
  rw [<- h1]; simp [cmpN]
 .rw [hs] at h1 ⊢; exact ⟨fun h => by omega, fun _ => by omega⟩
theorem rCmp_any (n : Bool) (m : Bool) {A A' : Option Addr} {c c' : Nat} {xs ys : List Nat} {w : World} (hx : Arg w A c xs) (sx : xs.length <= 10000) (hy : Arg w A' c' ys) (sy : ys.length <= 10000) :
  Calls Tryz.prog 109 #[.agg #[.bool n, .slice A xs.length c], .agg #[.bool m, .slice A' ys.length c']] w fun e w' => e = .returned (.int .i64 (cmpZ (zof n (val b32 xs)) (zof m (val b32 ys)))) /\ Below w.heap.size w w' := by
 obtain ⟨W0, hW0⟩ : ∃ W0, W0 = ((w.alloc (.cells #[.bool n, .slice A xs.length c] 24)).alloc (.cells #[.bool m, .slice A' ys.length c'] 24)) := ⟨_, rfl⟩
 have hb : Below w.heap.size w W0 := by rw [hW0]; exact ((Below.refl _ _).alloc (Nat.le_refl _) _).alloc (by simp) _
 have tX : Two W0 (w.heap.size) (.bool n) (.slice A xs.length c) := by
  have h := Two.new w (.bool n) (.slice A xs.length c) 24
  rw [hW0]; exact h.alloc _
 have tY : Two W0 (w.heap.size + 1) (.bool m) (.slice A' ys.length c') := by
  have h := Two.new (w.alloc (.cells #[.bool n, .slice A xs.length c] 24)) (.bool m) (.slice A' ys.length c') 24
  rw [World.size_alloc] at h
  rw [hW0]; exact h
 have HW0 := Lib.hid hW0
 have HB0 := Lib.hid hb
 have HX := Lib.hid hx
 have HY := Lib.hid hy
 have hBW : w.heap.size + 1 + 1 <= W0.heap.size := by rw [hW0]; simp
 have Dsx : val b32 xs < b16 ^ (2 * xs.length) := by rw [<- pow_2k]; exact val_lt hx.dg
 have Dsy : val b32 ys < b16 ^ (2 * ys.length) := by rw [<- pow_2k]; exact val_lt hy.dg
 clear hW0 hb hx hy
 have HS1 := Lib.hid fun (V : World) (h : Below w.heap.size w V) => rsign_z (w := V) (a := zof n (val b32 xs)) ⟨n, A, c, xs, rfl, rfl, HX.out.to h, sx, rfl⟩
 have HS2 := Lib.hid fun (V : World) (h : Below w.heap.size w V) => rsign_z (w := V) (a := zof m (val b32 ys)) ⟨m, A', c', ys, rfl, rfl, HY.out.to h, sy, rfl⟩
 have r1 := sgn_range (zof n (val b32 xs))
 have r2 := sgn_range (zof m (val b32 ys))
 have hne := @cmpZ_sgn (zof n (val b32 xs)) (zof m (val b32 ys))
 have heq := @cmp_signs n m (val b32 xs) (val b32 ys)
 obtain ⟨s1, e1⟩ : ∃ s, sgn (zof n (val b32 xs)) = s := ⟨_, rfl⟩
 obtain ⟨s2, e2⟩ : ∃ s, sgn (zof m (val b32 ys)) = s := ⟨_, rfl⟩
 obtain ⟨o, eo⟩ : ∃ o, cmpZ (zof n (val b32 xs)) (zof m (val b32 ys)) = o := ⟨_, rfl⟩
 rw [e1] at HS1 r1 hne heq
 rw [e2] at HS2 r2 hne heq
 rw [eo] at hne heq ⊢
 clear e1 e2 eo
 by_cases h12 : s1 = s2
 .subst h12
  obtain ⟨v, ev⟩ : ∃ v, cmpN (val b32 xs) (val b32 ys) = v := ⟨_, rfl⟩
  have hq := heq rfl
  rw [ev] at hq
  have EV := Lib.hid ev
  have hss : (s1 != s1) = false := by simp
  have rv : v = -1 ∨ v = 0 ∨ v = 1 := by rw [<- ev]; unfold cmpN; split <;> (try split) <;> simp
  clear hne heq ev r2
  go_enter Tryz.func109, Tryz.ntmps109
  go_wp2_with fail
  rw [<- HW0.out]
  refine wp_region_plan (S := fun w' => Below (w.heap.size + 1 + 1) W0 w') [(0, true), (2, true), (1, false), (3, false), (4, true)] (by kernel_rfl) (by kernel_rfl) (Below.refl _ _).drew ?_
  have HB := (Below.refl W0.heap.size W0).drew
  repeat (refine plan_take (v := ?_) rfl (by rfl) ?_ ?_; rotate_left; (focus (intro w' hS; have k0 := (tX.toB hS (by omega)).c0; have k1 := (tX.toB hS (by omega)).c1; have k2 := (tY.toB hS (by omega)).c0; have k3 := (tY.toB hS (by omega)).c1; go_simp; try with_reducible rfl)); simp only [Act.put, List.setIfInBounds_toArray, List.set_cons_zero, List.set_cons_succ])
  refine plan_call rfl (by rfl) (fun K hK => ?_)
  go_simp
  refine (HS1.out _ (HB0.out.trans (HB.mono HB0.out.size))).mono ?_
  rintro e V ⟨rfl, bb⟩
  replace HB := HB.trans (bb.mono HB.size)
  clear bb
  refine hK.out _ _ (HB.mono hBW) ?_
  clear hK K
  refine plan_call rfl (by rfl) (fun K hK => ?_)
  go_simp
  refine (HS2.out _ (HB0.out.trans (HB.mono HB0.out.size))).mono ?_
  rintro e V ⟨rfl, bb⟩
  replace HB := HB.trans (bb.mono HB.size)
  clear bb
  refine hK.out _ _ (HB.mono hBW) ?_
  clear hK K
  repeat (refine plan_take (v := ?_) rfl (by rfl) ?_ ?_; rotate_left; (focus (intro w' hS; have k0 := (tX.toB hS (by omega)).c0; have k1 := (tX.toB hS (by omega)).c1; have k2 := (tY.toB hS (by omega)).c0; have k3 := (tY.toB hS (by omega)).c1; go_simp; try with_reducible rfl)); simp only [Act.put, List.setIfInBounds_toArray, List.set_cons_zero, List.set_cons_succ])
  refine plan_done ?_
  have k1 := (tX.to HB).c0
  have k2 := (tX.to HB).c1
  have k3 := (tY.to HB).c0
  have k4 := (tY.to HB).c1
  go_wp2_with fail
  clear k1 k2 k3 k4
  refine wp_region_plan (S := fun w' => Below (w.heap.size + 1 + 1) W0 w') [(0, true), (1, true), (3, true), (4, true), (2, false), (5, false), (6, false), (7, true)] (by kernel_rfl) (by kernel_rfl) (HB.mono hBW).drew ?_
  replace HB := HB.drew
  repeat (refine plan_take (v := ?_) rfl (by rfl) ?_ ?_; rotate_left; (focus (intro w' hS; have k0 := (tX.toB hS (by omega)).c0; have k1 := (tX.toB hS (by omega)).c1; have k2 := (tY.toB hS (by omega)).c0; have k3 := (tY.toB hS (by omega)).c1; go_simp; try with_reducible rfl)); simp only [Act.put, List.setIfInBounds_toArray, List.set_cons_zero, List.set_cons_succ])
  refine plan_call rfl (by rfl) (fun K hK => ?_)
  go_simp
  refine (halves_r (HX.out.to (HB0.out.trans (HB.mono HB0.out.size)))).mono ?_
  rintro e V ⟨A1, c1, rfl, t1, l1, m1, bb⟩
  replace HB := HB.trans (bb.mono HB.size)
  have H1 := Hr.of_ret t1 l1 m1 Dsx (by omega)
  clear t1 l1 m1 bb
  refine hK.out _ _ (HB.mono hBW) ?_
  clear hK K
  refine plan_call rfl (by rfl) (fun K hK => ?_)
  go_simp
  refine (halves_r (HY.out.to (HB0.out.trans (HB.mono HB0.out.size)))).mono ?_
  rintro e V ⟨A2, c2, rfl, t1, l1, m1, bb⟩
  replace HB := HB.trans (bb.mono HB.size)
  have H2 := Hr.of_ret t1 l1 m1 Dsy (by omega)
  replace H1 := H1.to bb
  clear t1 l1 m1 bb
  refine hK.out _ _ (HB.mono hBW) ?_
  clear hK K
  have HC := Lib.hid (cmp_r H1 H2)
  rw [EV.out] at HC
  refine plan_call rfl (by rfl) (fun K hK => ?_)
  go_simp
  refine HC.out.mono ?_
  rintro e V2 ⟨rfl, rfl⟩
  refine hK.out _ _ (HB.mono hBW) ?_
  clear hK K HC H1 H2
  repeat (refine plan_take (v := ?_) rfl (by rfl) ?_ ?_; rotate_left; (focus (intro w' hS; have k0 := (tX.toB hS (by omega)).c0; have k1 := (tX.toB hS (by omega)).c1; have k2 := (tY.toB hS (by omega)).c0; have k3 := (tY.toB hS (by omega)).c1; go_simp; try with_reducible rfl)); simp only [Act.put, List.setIfInBounds_toArray, List.set_cons_zero, List.set_cons_succ])
  refine plan_done ?_
  have k1 := (tX.to HB).c0
  have k2 := (tX.to HB).c1
  have k3 := (tY.to HB).c0
  have k4 := (tY.to HB).c1
  go_wp2_with fail
  refine (HS1.out _ (HB0.out.trans (HB.mono HB0.out.size))).mono ?_
  rintro e V3 ⟨rfl, bb⟩
  have HE := Lib.hid (HB0.out.trans ((HB.trans (bb.mono HB.size)).mono HB0.out.size))
  clear k1 k2 k3 k4 bb HB tX tY
  by_cases hs : s1 < 0
  .have h1 := hq.1 (by omega)
   have hw : IntKind.i64.wrap (-v) = o := by rw [<- h1]; rcases rv with rfl | rfl | rfl <;> decide
   clear hq h1 rv r1
   go_wp2
   go_ret
   exact ⟨rfl, HE.out⟩
  .have h1 := hq.2 (by omega)
   subst h1
   clear hq rv r1
   go_wp2
   go_ret
   exact ⟨rfl, HE.out⟩
 .have hss : (s1 != s2) = true := by simpa using h12
  obtain ⟨hz, -⟩ := hne h12
  clear heq hne r1 r2
  rcases Int.lt_or_le s1 s2 with hlt | hge
  .have ho : o = -1 := by rw [<- hz]; unfold cmpZ; rw [if_pos hlt]
   subst ho
   clear hz
   go_enter Tryz.func109, Tryz.ntmps109
   go_wp2_with fail
   rw [<- HW0.out]
   refine wp_region_plan (S := fun w' => Below (w.heap.size + 1 + 1) W0 w') [(0, true), (2, true), (1, false), (3, false), (4, true)] (by kernel_rfl) (by kernel_rfl) (Below.refl _ _).drew ?_
   have HB := (Below.refl W0.heap.size W0).drew
   repeat (refine plan_take (v := ?_) rfl (by rfl) ?_ ?_; rotate_left; (focus (intro w' hS; have k0 := (tX.toB hS (by omega)).c0; have k1 := (tX.toB hS (by omega)).c1; have k2 := (tY.toB hS (by omega)).c0; have k3 := (tY.toB hS (by omega)).c1; go_simp; try with_reducible rfl)); simp only [Act.put, List.setIfInBounds_toArray, List.set_cons_zero, List.set_cons_succ])
   refine plan_call rfl (by rfl) (fun K hK => ?_)
   go_simp
   refine (HS1.out _ (HB0.out.trans (HB.mono HB0.out.size))).mono ?_
   rintro e V ⟨rfl, bb⟩
   replace HB := HB.trans (bb.mono HB.size)
   clear bb
   refine hK.out _ _ (HB.mono hBW) ?_
   clear hK K
   refine plan_call rfl (by rfl) (fun K hK => ?_)
   go_simp
   refine (HS2.out _ (HB0.out.trans (HB.mono HB0.out.size))).mono ?_
   rintro e V ⟨rfl, bb⟩
   replace HB := HB.trans (bb.mono HB.size)
   clear bb
   refine hK.out _ _ (HB.mono hBW) ?_
   clear hK K
   repeat (refine plan_take (v := ?_) rfl (by rfl) ?_ ?_; rotate_left; (focus (intro w' hS; have k0 := (tX.toB hS (by omega)).c0; have k1 := (tX.toB hS (by omega)).c1; have k2 := (tY.toB hS (by omega)).c0; have k3 := (tY.toB hS (by omega)).c1; go_simp; try with_reducible rfl)); simp only [Act.put, List.setIfInBounds_toArray, List.set_cons_zero, List.set_cons_succ])
   refine plan_done ?_
   have k1 := (tX.to HB).c0
   have k2 := (tX.to HB).c1
   have k3 := (tY.to HB).c0
   have k4 := (tY.to HB).c1
   go_wp2_with fail
   clear k1 k2 k3 k4
   refine wp_region_plan (S := fun w' => Below (w.heap.size + 1 + 1) W0 w') [(0, true), (2, true), (1, false), (3, false), (4, true)] (by kernel_rfl) (by kernel_rfl) (HB.mono hBW).drew ?_
   replace HB := HB.drew
   repeat (refine plan_take (v := ?_) rfl (by rfl) ?_ ?_; rotate_left; (focus (intro w' hS; have k0 := (tX.toB hS (by omega)).c0; have k1 := (tX.toB hS (by omega)).c1; have k2 := (tY.toB hS (by omega)).c0; have k3 := (tY.toB hS (by omega)).c1; go_simp; try with_reducible rfl)); simp only [Act.put, List.setIfInBounds_toArray, List.set_cons_zero, List.set_cons_succ])
   refine plan_call rfl (by rfl) (fun K hK => ?_)
   go_simp
   refine (HS1.out _ (HB0.out.trans (HB.mono HB0.out.size))).mono ?_
   rintro e V ⟨rfl, bb⟩
   replace HB := HB.trans (bb.mono HB.size)
   clear bb
   refine hK.out _ _ (HB.mono hBW) ?_
   clear hK K
   refine plan_call rfl (by rfl) (fun K hK => ?_)
   go_simp
   refine (HS2.out _ (HB0.out.trans (HB.mono HB0.out.size))).mono ?_
   rintro e V ⟨rfl, bb⟩
   replace HB := HB.trans (bb.mono HB.size)
   clear bb
   refine hK.out _ _ (HB.mono hBW) ?_
   clear hK K
   repeat (refine plan_take (v := ?_) rfl (by rfl) ?_ ?_; rotate_left; (focus (intro w' hS; have k0 := (tX.toB hS (by omega)).c0; have k1 := (tX.toB hS (by omega)).c1; have k2 := (tY.toB hS (by omega)).c0; have k3 := (tY.toB hS (by omega)).c1; go_simp; try with_reducible rfl)); simp only [Act.put, List.setIfInBounds_toArray, List.set_cons_zero, List.set_cons_succ])
   refine plan_done ?_
   have HE := Lib.hid (HB0.out.trans (HB.mono HB0.out.size))
   clear HB tX tY
   go_wp2
   go_ret
   exact ⟨rfl, HE.out⟩
  .have ho : o = 1 := by rw [<- hz]; unfold cmpZ; rw [if_neg (by omega), if_pos (by omega)]
   subst ho
   clear hz
   go_enter Tryz.func109, Tryz.ntmps109
   go_wp2_with fail
   rw [<- HW0.out]
   refine wp_region_plan (S := fun w' => Below (w.heap.size + 1 + 1) W0 w') [(0, true), (2, true), (1, false), (3, false), (4, true)] (by kernel_rfl) (by kernel_rfl) (Below.refl _ _).drew ?_
   have HB := (Below.refl W0.heap.size W0).drew
   repeat (refine plan_take (v := ?_) rfl (by rfl) ?_ ?_; rotate_left; (focus (intro w' hS; have k0 := (tX.toB hS (by omega)).c0; have k1 := (tX.toB hS (by omega)).c1; have k2 := (tY.toB hS (by omega)).c0; have k3 := (tY.toB hS (by omega)).c1; go_simp; try with_reducible rfl)); simp only [Act.put, List.setIfInBounds_toArray, List.set_cons_zero, List.set_cons_succ])
   refine plan_call rfl (by rfl) (fun K hK => ?_)
   go_simp
   refine (HS1.out _ (HB0.out.trans (HB.mono HB0.out.size))).mono ?_
   rintro e V ⟨rfl, bb⟩
   replace HB := HB.trans (bb.mono HB.size)
   clear bb
   refine hK.out _ _ (HB.mono hBW) ?_
   clear hK K
   refine plan_call rfl (by rfl) (fun K hK => ?_)
   go_simp
   refine (HS2.out _ (HB0.out.trans (HB.mono HB0.out.size))).mono ?_
   rintro e V ⟨rfl, bb⟩
   replace HB := HB.trans (bb.mono HB.size)
   clear bb
   refine hK.out _ _ (HB.mono hBW) ?_
   clear hK K
   repeat (refine plan_take (v := ?_) rfl (by rfl) ?_ ?_; rotate_left; (focus (intro w' hS; have k0 := (tX.toB hS (by omega)).c0; have k1 := (tX.toB hS (by omega)).c1; have k2 := (tY.toB hS (by omega)).c0; have k3 := (tY.toB hS (by omega)).c1; go_simp; try with_reducible rfl)); simp only [Act.put, List.setIfInBounds_toArray, List.set_cons_zero, List.set_cons_succ])
   refine plan_done ?_
   have k1 := (tX.to HB).c0
   have k2 := (tX.to HB).c1
   have k3 := (tY.to HB).c0
   have k4 := (tY.to HB).c1
   go_wp2_with fail
   clear k1 k2 k3 k4
   refine wp_region_plan (S := fun w' => Below (w.heap.size + 1 + 1) W0 w') [(0, true), (2, true), (1, false), (3, false), (4, true)] (by kernel_rfl) (by kernel_rfl) (HB.mono hBW).drew ?_
   replace HB := HB.drew
   repeat (refine plan_take (v := ?_) rfl (by rfl) ?_ ?_; rotate_left; (focus (intro w' hS; have k0 := (tX.toB hS (by omega)).c0; have k1 := (tX.toB hS (by omega)).c1; have k2 := (tY.toB hS (by omega)).c0; have k3 := (tY.toB hS (by omega)).c1; go_simp; try with_reducible rfl)); simp only [Act.put, List.setIfInBounds_toArray, List.set_cons_zero, List.set_cons_succ])
   refine plan_call rfl (by rfl) (fun K hK => ?_)
   go_simp
   refine (HS1.out _ (HB0.out.trans (HB.mono HB0.out.size))).mono ?_
   rintro e V ⟨rfl, bb⟩
   replace HB := HB.trans (bb.mono HB.size)
   clear bb
   refine hK.out _ _ (HB.mono hBW) ?_
   clear hK K
   refine plan_call rfl (by rfl) (fun K hK => ?_)
   go_simp
   refine (HS2.out _ (HB0.out.trans (HB.mono HB0.out.size))).mono ?_
   rintro e V ⟨rfl, bb⟩
   replace HB := HB.trans (bb.mono HB.size)
   clear bb
   refine hK.out _ _ (HB.mono hBW) ?_
   clear hK K
   repeat (refine plan_take (v := ?_) rfl (by rfl) ?_ ?_; rotate_left; (focus (intro w' hS; have k0 := (tX.toB hS (by omega)).c0; have k1 := (tX.toB hS (by omega)).c1; have k2 := (tY.toB hS (by omega)).c0; have k3 := (tY.toB hS (by omega)).c1; go_simp; try with_reducible rfl)); simp only [Act.put, List.setIfInBounds_toArray, List.set_cons_zero, List.set_cons_succ])
   refine plan_done ?_
   have HE := Lib.hid (HB0.out.trans (HB.mono HB0.out.size))
   clear HB tX tY
   go_wp2
   go_ret
   exact ⟨rfl, HE.out⟩
theorem rcmp_z {w : World} {x y x' y' : Value} {a b : Int} (ha : Zl w x y a) (hb : Zl w x' y' b) : Calls Tryz.prog 109 #[.agg #[x, y], .agg #[x', y']] w fun e w' => e = .returned (.int .i64 (cmpZ a b)) /\ Below w.heap.size w w' := by
 obtain ⟨n, A, c, xs, rfl, rfl, h3, h4, rfl⟩ := ha
 obtain ⟨m, B, d, ys, rfl, rfl, k3, k4, rfl⟩ := hb
 exact rCmp_any n m h3 h4 k3 k4
theorem rabs_z {w : World} {x y : Value} {a : Int} (ha : Zl w x y a) : Calls Tryz.prog 106 #[.agg #[x, y]] w (ZR w (a.natAbs : Int)) := by
 obtain ⟨n, A, c, xs, rfl, rfl, h3, h4, rfl⟩ := ha
 rw [zof_abs]
 exact rAbs_any n h3 h4
end Go.Proofs.YtcgdbdhhoomgiaaGreat
