/- Parts: 3. -/
import Derived.Test.YtcgdbdhhoomgiaaGreatVs5
import Derived.Test.YtcgdbdhhoomgiaaGreatVs12
set_option linter.unusedVariables false
set_option linter.unusedSimpArgs false
set_option maxRecDepth 100000
set_option maxHeartbeats 40000000

namespace Go.Proofs.YtcgdbdhhoomgiaaGreat
open Go.RowKit Go.Shelf
def HR2 (w : World) (q r : Nat) (e : Ending) (w' : World) : Prop := ∃ A c A' c', e = .returned (.tuple #[.slice A (dig b16 q).length c, .slice A' (dig b16 r).length c']) /\ Rd .i64 w' w'.heap.size A (dig b16 q) /\ (dig b16 q).length <= c /\ c <= 9223372036854775807 /\
 Rd .i64 w' w'.heap.size A' (dig b16 r) /\ (dig b16 r).length <= c' /\ c' <= 9223372036854775807 /\ Below w.heap.size w w'
theorem tdiv_nat (a b : Nat) : ((a : Nat) : Int).tdiv ((b : Nat) : Int) = ((a / b : Nat) : Int) := by rw [Int.tdiv_eq_ediv_of_nonneg (by omega)]; rfl
theorem tmod_nat (a b : Nat) : ((a : Nat) : Int).tmod ((b : Nat) : Int) = ((a % b : Nat) : Int) := by rw [Int.tmod_eq_emod_of_nonneg (by omega)]; rfl
theorem rdiv_short {A A' : Option Addr} {c c' : Nat} {xs ys : List Nat} {w : World} (hx : Hr w A c xs) (hy : Hr w A' c' ys) (hl1 : xs.length <= 3) (hl2 : ys.length <= 3) (h0 : 0 < val b16 ys) :
  Calls Tryz.prog 132 #[.slice A xs.length c, .slice A' ys.length c'] w (HR2 w (val b16 xs / val b16 ys) (val b16 xs % val b16 ys)) := by
 have h1 := Lib.hid fun (V : World) (h : Below w.heap.size w V) => small_any (hx.to h) hl1
 have h2 := Lib.hid fun (V : World) (h : Below w.heap.size w V) => small_any (hy.to h) hl2
 have hX := val_lt3 hx.dg hl1
 have hY := val_lt3 hy.dg hl2
 have k1 : (xs.length : Int) <= 3 := by omega
 have k2 : (ys.length : Int) <= 3 := by omega
 clear hx hy
 obtain ⟨X, eX⟩ : ∃ X, val b16 xs = X := ⟨_, rfl⟩
 obtain ⟨Y, eY⟩ : ∃ Y, val b16 ys = Y := ⟨_, rfl⟩
 rw [eX] at h1 hX ⊢
 rw [eY] at h2 hY h0 ⊢
 clear eX eY
 have hq : X / Y < 281474976710656 := Nat.lt_of_le_of_lt (Nat.div_le_self _ _) hX
 have hr : X % Y < 281474976710656 := Nat.lt_of_le_of_lt (Nat.mod_le _ _) hX
 have g1 := tdiv_nat X Y
 have g2 := tmod_nat X Y
 obtain ⟨q, eq⟩ : ∃ q, X / Y = q := ⟨_, rfl⟩
 obtain ⟨r, er⟩ : ∃ r, X % Y = r := ⟨_, rfl⟩
 rw [eq] at hq g1 ⊢
 rw [er] at hr g2 ⊢
 clear eq er
 have g3 := wrap_nat q (by omega)
 have g4 := wrap_nat r (by omega)
 have g5 : ((Y : Int) == 0) = false := by rw [beq_eq_false_iff_ne]; omega
 have B1 := Lib.hid fun V => back_any q hq V
 have B2 := Lib.hid fun V => back_any r hr V
 have HB := Lib.hid (Below.refl w.heap.size w)
 go_enter Tryz.func132, Tryz.ntmps132
 go_wp2_with fail
 refine (h1.out _ HB.out).mono ?_
 rintro e w' ⟨rfl, rfl⟩
 go_wp2_with fail
 refine (h2.out _ HB.out).mono ?_
 rintro e w' ⟨rfl, rfl⟩
 go_wp2_with fail
 refine (B1.out _).mono ?_
 rintro e V1 ⟨A1, c1, rfl, r1, l1, m1, bb⟩
 have HB1 := Lib.hid (HB.out.trans (bb.mono HB.out.size))
 have R1 := Lib.hid r1
 clear bb r1
 go_wp2_with fail
 refine (h1.out _ HB1.out).mono ?_
 rintro e w' ⟨rfl, rfl⟩
 go_wp2_with fail
 refine (h2.out _ HB1.out).mono ?_
 rintro e w' ⟨rfl, rfl⟩
 go_wp2_with fail
 refine (B2.out _).mono ?_
 rintro e V2 ⟨A2, c2, rfl, r2, l2, m2, bb⟩
 have HB2 := Lib.hid (HB1.out.trans (bb.mono HB1.out.size))
 have R1' := Lib.hid (R1.out.to bb)
 have R2 := Lib.hid r2
 clear bb r2
 go_wp2
 go_ret2
 exact ⟨A1, c1, A2, c2, rfl, R1'.out, l1, m1, R2.out, l2, m2, HB2.out⟩
theorem wp_build_one {b : Nat} {ac : Act} {w : World} {K : Act -> World -> Prop} {Q : Exit -> Act -> World -> Prop} {d : Option Tmp} {x : Operand} {pos : String} {after : Array Edge} {guard : Option (Nat × Bool)} (hx : ac.eval x = .int .i64 (b : Nat))
  (h : ∀ (g : Nat) (V : World), Rd .i64 V V.heap.size (some ⟨g, 0, none⟩) [b] -> Below w.heap.size w V -> K (ac.put d (.slice (some ⟨g, 0, none⟩) 1 1)) V) :
  Oper.wp Tryz.prog ⟨d, .buildSlice 97 1 #[(0, x)], 97, pos, after, guard⟩ ac w K Q := by
 have h1 := h _ _ ((Rd.new .i64 w 3 [b]).more (by simp)) ((Below.refl _ _).alloc (Nat.le_refl _) _)
 simp only [Oper.wp, execOp, hx, List.map_toArray, List.map_cons, List.map_nil]
 go_simp
 exact h1
theorem ready_take {P : Program} {ops : Array Oper} {Q : Exit -> Act -> World -> Prop} {md : Region.Mode} {S : World -> Prop} {fuel i : Nat} {listed : Array Bool} {d : Option Tmp} {op : Op} {ty : TypeId} {pos : String} {after : Array Edge} {guard : Option (Nat × Bool)} {v : Value} {a : Act} {w : World}
  (ho : ops[i]? = some ⟨d, op, ty, pos, after, guard⟩) (hs : Region.noSelect ops = true) (hf : Region.free md ops listed i = true) (hr : (Region.ready md ops listed).contains i = true) (hw : Region.wanted ⟨d, op, ty, pos, after, guard⟩ (yielded ops a.tmps) = true)
  (hy : ∀ w, S w -> (execOp a.eval ⟨d, op, ty, pos, after, guard⟩).run P w = .ok (.value v) w) (hS : S w) (h : wpAnyH P md ops (NoPanic Q) S fuel (listed.setIfInBounds i true) (a.put d v) w) : wpAnyH P md ops (NoPanic Q) S (fuel + 1) listed a w :=
 wpAnyH_take ho hs hf hr (fun _ _ _ h => h) (.inl ⟨hw, hy⟩) hS h
theorem bit_step {P Y b : Nat} (hY : 0 < Y) (hb : b <= 1) : (if Y <= 2 * (P % Y) + b then 2 * (P / Y) + 1 else 2 * (P / Y)) = (2 * P + b) / Y /\ (if Y <= 2 * (P % Y) + b then 2 * (P % Y) + b - Y else 2 * (P % Y) + b) = (2 * P + b) % Y := by
 have h1 := Nat.mod_add_div P Y
 have h2 := Nat.mod_lt P hY
 obtain ⟨q, eq⟩ : ∃ q, P / Y = q := ⟨_, rfl⟩
 obtain ⟨r, er⟩ : ∃ r, P % Y = r := ⟨_, rfl⟩
 rw [eq, er] at h1 ⊢
 rw [er] at h2
 have h3 : 2 * P + b = 2 * r + b + Y * (2 * q) := by
  rw [<- h1, Nat.mul_add, Nat.mul_left_comm]; omega
 split
 .rename_i h
  have h4 : 2 * P + b = (2 * r + b - Y) + Y * (2 * q + 1) := by rw [h3, Nat.mul_add, Nat.mul_one]; omega
  rw [h4, Nat.add_mul_div_left _ _ hY, Nat.add_mul_mod_self_left, Nat.div_eq_of_lt (by omega), Nat.mod_eq_of_lt (by omega)]
  omega
 .rename_i h
  rw [h3, Nat.add_mul_div_left _ _ hY, Nat.add_mul_mod_self_left, Nat.div_eq_of_lt (by omega), Nat.mod_eq_of_lt (by omega)]
  omega
theorem one_len : (dig b16 1).length = 1 := by rw [show dig b16 1 = [1] from by decide]; rfl
theorem unit_new {V : World} : Hr (V.alloc (.cells #[.int .i64 1] 3)) (some ⟨V.heap.size, 0, none⟩) 1 (dig b16 1) /\ Below V.heap.size V (V.alloc (.cells #[.int .i64 1] 3)) := by
 have hb : Below V.heap.size V (V.alloc (.cells #[.int .i64 1] 3)) := (Below.refl _ _).alloc (Nat.le_refl _) _
 have h1 : Rd .i64 (V.alloc (.cells #[.int .i64 1] 3)) (V.alloc (.cells #[.int .i64 1] 3)).heap.size (some ⟨V.heap.size, 0, none⟩) [1] := (Rd.new .i64 V 3 [1]).more (by simp)
 rw [show dig b16 1 = [1] from by decide]
 exact ⟨⟨h1, Dg.one (by decide), by simp, by decide, by simp⟩, hb⟩
theorem bit_lt {P Y b : Nat} (hY : 0 < Y) (hb : b <= 1) (h : P % Y + P % Y + b < Y) : P / Y + P / Y = (2 * P + b) / Y /\ P % Y + P % Y + b = (2 * P + b) % Y := by
 have h1 := bit_step (P := P) hY hb
 rw [if_neg (by omega), if_neg (by omega)] at h1
 omega
theorem bit_ge {P Y b : Nat} (hY : 0 < Y) (hb : b <= 1) (h : Y <= P % Y + P % Y + b) : P / Y + P / Y + 1 = (2 * P + b) / Y /\ P % Y + P % Y + b - Y = (2 * P + b) % Y := by
 have h1 := bit_step (P := P) hY hb
 rw [if_pos (by omega), if_pos (by omega)] at h1
 omega
theorem rdiv_long {A A' : Option Addr} {c c' : Nat} {xs ys : List Nat} {w : World} (hx : Hr w A c xs) (hy : Hr w A' c' ys) (hl1 : xs.length <= 100000) (hl2 : ys.length <= 100000) (hlong : ¬ (xs.length <= 3 /\ ys.length <= 3)) (h0 : 0 < val b16 ys) :
  Calls Tryz.prog 132 #[.slice A xs.length c, .slice A' ys.length c'] w (HR2 w (val b16 xs / val b16 ys) (val b16 xs % val b16 ys)) := by
 have HX := Lib.hid hx
 have HY := Lib.hid hy
 obtain ⟨Y, eY⟩ : ∃ Y, Hid (val b16 ys = Y) := ⟨_, rfl⟩
 rw [eY.out] at h0 ⊢
 have hYl : Hid (Y < b16 ^ ys.length) := by show _ < _; rw [<- eY.out]; exact val_lt hy.dg
 have H0 := Lib.hid h0
 have hcase : (3 < xs.length) ∨ (xs.length <= 3 /\ 3 < ys.length) := by omega
 clear hx hy h0 hlong
 rcases hcase with k1 | ⟨k1, k2⟩
 all_goals
  go_enter Tryz.func132, Tryz.ntmps132
  go_wp2
  go_loopw [6, 7, 8] (fun u v i wr => ∃ (k : Nat) (A1 : Option Addr) (c1 : Nat) (A2 : Option Addr) (c2 : Nat), u = .slice A1 (dig b16 (val b16 (xs.drop k) / Y)).length c1 /\ v = .slice A2 (dig b16 (val b16 (xs.drop k) % Y)).length c2 /\ i = .int .i64 ((k : Int) - 1) /\ k <= xs.length /\
   Hr wr A1 c1 (dig b16 (val b16 (xs.drop k) / Y)) /\ Hr wr A2 c2 (dig b16 (val b16 (xs.drop k) % Y)) /\ Below w.heap.size w wr) (fun _ _ i _ => ((intOf i) + 1).toNat)
  case atStart => exact ⟨xs.length, none, 0, none, 0, by simp [val, dig_zero], by simp [val, dig_zero], rfl, Nat.le_refl _, by simp [val, dig_zero]; exact ⟨Rd.nil, Dg.nil, by simp, by decide, by simp⟩, by simp [val, dig_zero]; exact ⟨Rd.nil, Dg.nil, by simp, by decide, by simp⟩, Below.refl _ _⟩
  case round =>
   obtain ⟨k, A1, c1, A2, c2, hu, hv, hik, hk, r1, r2, hb⟩ := hrel
   rcases Nat.eq_zero_or_pos k with rfl | hk0
   .rw [List.drop_zero] at hu hv r1 r2
    subst hu hv hik
    have R1 := Lib.hid r1
    have R2 := Lib.hid r2
    have HB := Lib.hid hb
    clear r1 r2 hb hk
    go_wp2
    go_ret2
    exact ⟨A1, c1, A2, c2, rfl, R1.out.rd, R1.out.le, R1.out.cap, R2.out.rd, R2.out.le, R2.out.cap, HB.out⟩
   .obtain ⟨q, rfl⟩ : ∃ q, k = q + 1 := ⟨k - 1, by omega⟩
    rw [show (((q + 1 : Nat) : Int) - 1) = (q : Int) from by omega] at hik
    subst hik
    have hq : q < xs.length := by omega
    obtain ⟨b, o, rfl, _, hcx⟩ := (HX.out.to hb).rd.at_ hq
    clear hcx
    have hd := HX.out.dg.at_ hq
    obtain ⟨x, ex⟩ : ∃ x, Hid (xs[q] = x) := ⟨xs[q], rfl⟩
    rw [ex.out] at hd
    unfold b16 at hd
    obtain ⟨T, eT⟩ : ∃ T, Hid (val b16 (xs.drop (q + 1)) = T) := ⟨_, rfl⟩
    have HVX : Hid (val b16 (xs.drop q) = x + 65536 * T) := by show _ = _; rw [val_drop hq, ex.out, eT.out]; rfl
    have HLT : Hid (x + 65536 * T < b16 ^ (xs.length - q)) := by
     show _ < _
     rw [<- HVX.out]
     have := val_lt (HX.out.dg.drop q)
     rwa [List.length_drop] at this
    rw [eT.out] at hu hv r1 r2
    subst hu hv
    have R1 := Lib.hid r1
    have R2 := Lib.hid r2
    have HB := Lib.hid hb
    clear r1 r2 hb
    go_wp2
    go_loopw [6, 7, 9] (fun u v i wr2 => ∃ (j : Nat) (A3 : Option Addr) (c3 : Nat) (A4 : Option Addr) (c4 : Nat), u = .slice A3 (dig b16 ((T * 2 ^ j + x / 2 ^ (16 - j)) / Y)).length c3 /\ v = .slice A4 (dig b16 ((T * 2 ^ j + x / 2 ^ (16 - j)) % Y)).length c4 /\ i = .int .i64 (15 - (j : Int)) /\ j <= 16 /\
     Hr wr2 A3 c3 (dig b16 ((T * 2 ^ j + x / 2 ^ (16 - j)) / Y)) /\ Hr wr2 A4 c4 (dig b16 ((T * 2 ^ j + x / 2 ^ (16 - j)) % Y)) /\ Below w.heap.size w wr2) (fun _ _ i _ => ((intOf i) + 1).toNat)
    case atStart =>
     have hx0 : T * 2 ^ 0 + x / 2 ^ (16 - 0) = T := by
      rw [Nat.pow_zero, Nat.mul_one, Nat.sub_zero, show (2 : Nat) ^ 16 = 65536 from by decide, Nat.div_eq_of_lt hd, Nat.add_zero]
     exact ⟨0, A1, c1, A2, c2, by rw [hx0], by rw [hx0], by simp, by omega, by rw [hx0]; exact R1.out, by rw [hx0]; exact R2.out, HB.out⟩
    case round =>
     obtain ⟨j, A3, c3, A4, c4, hu, hv, hij, hj, r3, r4, hb3⟩ := hrel
     rcases Nat.lt_or_ge j 16 with hj16 | hj16
     .obtain ⟨s, es⟩ : ∃ s, s + j = 15 := ⟨15 - j, by omega⟩
      rw [show (15 : Int) - (j : Int) = (s : Int) from by omega] at hij
      subst hij
      obtain ⟨P, eP⟩ : ∃ P, Hid (T * 2 ^ j + x / 2 ^ (16 - j) = P) := ⟨_, rfl⟩
      rw [eP.out] at hu hv r3 r4
      subst hu hv
      obtain ⟨bit, ebit⟩ : ∃ b, Hid (x / 2 ^ s % 2 = b) := ⟨_, rfl⟩
      have hbit : bit <= 1 := by rw [<- ebit.out]; omega
      have HP : Hid (T * 2 ^ (j + 1) + x / 2 ^ (16 - (j + 1)) = 2 * P + bit) := by
       show _ = _
       have h1 : x / 2 ^ (16 - j) = x / 2 ^ s / 2 := by rw [Nat.div_div_eq_div_mul, <- Nat.pow_succ]; congr 2; omega
       have h2 : T * 2 ^ (j + 1) = 2 * (T * 2 ^ j) := by rw [Nat.pow_succ]; rw [<- Nat.mul_assoc, Nat.mul_comm]
       rw [<- eP.out, <- ebit.out, h1, h2, show 16 - (j + 1) = s from by omega]
       omega
      have R3 := Lib.hid r3
      have R4 := Lib.hid r4
      have HB3 := Lib.hid hb3
      have e1 := (HX.out.to hb3).rd.cell hq
      rw [ex.out] at e1
      have hki : (0 : Int) <= (q : Int) := by omega
      have hki' : (q : Int) < (xs.length : Int) := by omega
      have gw : IntKind.u64.wrap (s : Int) = (s : Int) := by rw [IntKind.wrap_u64]; omega
      have gm : min s 64 = s := by omega
      have gt : ((x : Int) / 2 ^ s).tmod 2 = (bit : Int) := by
       rw [show ((x : Int) / 2 ^ s) = ((x / 2 ^ s : Nat) : Int) from by push_cast; rfl, <- ebit.out]
       generalize x / 2 ^ s = n
       rw [Int.tmod_eq_emod_of_nonneg (by omega)]
       omega
      have gb := wrap_nat bit (by omega)
      have hrY : Hid (P % Y < b16 ^ ys.length) := Nat.lt_trans (Nat.mod_lt P H0.out) hYl.out
      have h2r : Hid (P % Y + P % Y < b16 ^ (ys.length + 1)) := by
       show _ < _
       rw [Nat.pow_succ]
       have h1 := hrY.out
       have h2 : b16 ^ ys.length * 2 <= b16 ^ ys.length * b16 := Nat.mul_le_mul_left _ (by decide)
       omega
      have h2b : Hid (P % Y + P % Y + bit < b16 ^ (ys.length + 1)) := by
       show _ < _
       rw [Nat.pow_succ]
       have h1 := hrY.out
       have h2 : b16 ^ ys.length * 4 <= b16 ^ ys.length * b16 := Nat.mul_le_mul_left _ (by decide)
       omega
      have hPl : Hid (P < b16 ^ xs.length) := by
       show _ < _
       have h1 := HLT.out
       have h2 : b16 ^ (xs.length - q) <= b16 ^ xs.length := Nat.pow_le_pow_right (by decide) (by omega)
       have h3 : P * 1 <= x + 65536 * T := by
        rw [Nat.mul_one, <- eP.out]
        have h4 : T * 2 ^ j <= T * 2 ^ 15 := Nat.mul_le_mul_left _ (Nat.pow_le_pow_right (by decide) (by omega))
        have h5 : x / 2 ^ (16 - j) <= x := Nat.div_le_self _ _
        rw [show (2 : Nat) ^ 15 = 32768 from by decide] at h4
        omega
       omega
      have hq2 : Hid (P / Y + P / Y < b16 ^ (xs.length + 1)) := by
       show _ < _
       rw [Nat.pow_succ]
       have h1 := hPl.out
       have h2 : b16 ^ xs.length * 2 <= b16 ^ xs.length * b16 := Nat.mul_le_mul_left _ (by decide)
       have h3 : P / Y <= P := Nat.div_le_self _ _
       omega
      have htr : Hid (trimL [bit] = dig b16 bit) := by
       show _ = _
       have h := trimL_dig b16_one (xs := [bit]) (Dg.one (by unfold b16; omega))
       rwa [show val b16 [bit] = bit from by simp [val]] at h
      clear r3 r4 hb3 R1 R2 HB
      go_wp2_with fail
      refine wp_cut (fun a' v' w' => ∃ (A5 : Option Addr) (c5 : Nat) (u41 u42 u43 u44 u45 u46 u47 u48 u49 u50 u51 u52 u53 u54 : Value), v' = (((((((((((((((a'.put (some 41) u41).put (some 42) u42).put (some 43) u43).put (some 44) u44).put (some 45) u45).put (some 46) u46).put (some 47) u47).put (some 48) u48).put (some 49) u49).put (some 50) u50).put (some 51) u51).put (some 52) u52).put (some 53) u53).put (some 54) u54).put (some 7) (.slice A5 (dig b16 (P % Y + P % Y + bit)).length c5)) /\ Hr w' A5 c5 (dig b16 (P % Y + P % Y + bit)) /\ Below wr.heap.size wr w') ?_ ?_
      .refine wp_region_planTo (S := fun w' => Below wr.heap.size wr w') [(0, true), (1, true), (3, true), (4, true), (5, true), (6, true), (7, true), (8, true), (9, true), (10, true)] #[true, true, false, true, true, true, true, true, true, true, true, false, false, false, false] 5 (by kernel_rfl) (by kernel_rfl) (Below.refl _ _).drew ?_
       repeat (refine plan_take (v := ?_) rfl (by rfl) ?_ ?_; rotate_left; (focus (intro w' hS; have k0 := (hS.cell (World.block_lt_of_cell? _ _ e1)).trans e1; go_simp; try with_reducible rfl)); simp only [Act.put, List.setIfInBounds_toArray, List.set_cons_zero, List.set_cons_succ])
       clear HB3
       intro HB
       refine wpAnyH_ready (rs := [2, 11]) (by kernel_rfl) (by simp) (ready_cons rfl (by rfl) (fun K hK => ?_) (ready_cons rfl (by rfl) (fun K hK => ?_) AllReadyH.nil))
       .go_simp
        refine (add_r (R4.out.to HB) (R4.out.to HB)).mono ?_
        rintro e V ⟨A6, c6, rfl, z1, z2, z3, bb⟩
        have H6 := Hr.of_ret z1 z2 z3 h2r.out (by omega)
        replace HB := HB.trans (bb.mono HB.size)
        refine hK.out _ _ HB ?_
        clear hK K bb z1 z2 z3
        refine rdy1 (i := 11) (by kernel_rfl) rfl (by rfl) (fun K hK => ?_)
        refine wp_build_one (by rfl) (fun g V z1 bb => ?_)
        have HBt : Hr V (some ⟨g, 0, none⟩) 1 [bit] := ⟨z1, Dg.one (by unfold b16; omega), by simp, by decide, by simp⟩
        replace HB := HB.trans (bb.mono HB.size)
        replace H6 := H6.to bb
        refine hK.out _ _ HB ?_
        clear hK K bb z1
        simp only [Act.put, List.setIfInBounds_toArray, List.set_cons_zero, List.set_cons_succ]
        refine rdy1 (i := 12) (by kernel_rfl) rfl (by rfl) (fun K hK => ?_)
        go_simp
        refine (rtrim_any (some ⟨g, 0, none⟩) 1 _ [bit] V HBt.rd (by simp) (by decide)).mono ?_
        rintro e V2 ⟨rfl, rfl⟩
        have HT : Hr V (some ⟨g, 0, none⟩) 1 (dig b16 bit) := by
         have h1 := htr.out
         rw [<- h1]
         exact ⟨HBt.rd.take _, HBt.dg.take _, Nat.le_trans (trimL_le _) (by simp), by decide, Nat.le_trans (trimL_le _) (by simp)⟩
        rw [show trimN [bit] = (dig b16 bit).length from by rw [<- htr.out, trimL_length]]
        refine hK.out _ _ HB ?_
        clear hK K HBt
        refine rdy1 (i := 13) (by kernel_rfl) rfl (by rfl) (fun K hK => ?_)
        go_simp
        refine (add_r H6 HT).mono ?_
        rintro e V3 ⟨A7, c7, rfl, z1, z2, z3, bb⟩
        have H7 := Hr.of_ret z1 z2 z3 h2b.out (by omega)
        replace HB := HB.trans (bb.mono HB.size)
        refine hK.out _ _ HB ?_
        clear hK K bb z1 z2 z3 H6 HT
        refine ready_take (i := 14) (v := ?_) rfl (by kernel_rfl) (by kernel_rfl) (by kernel_rfl) (by rfl) ?_ HB ?_; rotate_left; (focus (intro w' _; go_simp; try with_reducible rfl)); simp only [Act.put, List.setIfInBounds_toArray, List.set_cons_zero, List.set_cons_succ]
        exact wpAnyH_done (by kernel_rfl) ⟨rfl, A7, c7, _, _, _, _, _, _, _, _, _, _, _, _, _, _, by rfl, H7, HB⟩ _
       .refine wp_build_one (by rfl) (fun g V z1 bb => ?_)
        have HBt : Hr V (some ⟨g, 0, none⟩) 1 [bit] := ⟨z1, Dg.one (by unfold b16; omega), by simp, by decide, by simp⟩
        replace HB := HB.trans (bb.mono HB.size)
        refine hK.out _ _ HB ?_
        clear hK K bb z1
        simp only [Act.put, List.setIfInBounds_toArray, List.set_cons_zero, List.set_cons_succ]
        refine rdy1 (i := 2) (by kernel_rfl) rfl (by rfl) (fun K hK => ?_)
        go_simp
        refine (add_r (R4.out.to HB) (R4.out.to HB)).mono ?_
        rintro e V ⟨A6, c6, rfl, z1, z2, z3, bb⟩
        have H6 := Hr.of_ret z1 z2 z3 h2r.out (by omega)
        replace HB := HB.trans (bb.mono HB.size)
        replace HBt := HBt.to bb
        refine hK.out _ _ HB ?_
        clear hK K bb z1 z2 z3
        refine rdy1 (i := 12) (by kernel_rfl) rfl (by rfl) (fun K hK => ?_)
        go_simp
        refine (rtrim_any (some ⟨g, 0, none⟩) 1 _ [bit] V HBt.rd (by simp) (by decide)).mono ?_
        rintro e V2 ⟨rfl, rfl⟩
        have HT : Hr V (some ⟨g, 0, none⟩) 1 (dig b16 bit) := by
         have h1 := htr.out
         rw [<- h1]
         exact ⟨HBt.rd.take _, HBt.dg.take _, Nat.le_trans (trimL_le _) (by simp), by decide, Nat.le_trans (trimL_le _) (by simp)⟩
        rw [show trimN [bit] = (dig b16 bit).length from by rw [<- htr.out, trimL_length]]
        refine hK.out _ _ HB ?_
        clear hK K HBt
        refine rdy1 (i := 13) (by kernel_rfl) rfl (by rfl) (fun K hK => ?_)
        go_simp
        refine (add_r H6 HT).mono ?_
        rintro e V3 ⟨A7, c7, rfl, z1, z2, z3, bb⟩
        have H7 := Hr.of_ret z1 z2 z3 h2b.out (by omega)
        replace HB := HB.trans (bb.mono HB.size)
        refine hK.out _ _ HB ?_
        clear hK K bb z1 z2 z3 H6 HT
        refine ready_take (i := 14) (v := ?_) rfl (by kernel_rfl) (by kernel_rfl) (by kernel_rfl) (by rfl) ?_ HB ?_; rotate_left; (focus (intro w' _; go_simp; try with_reducible rfl)); simp only [Act.put, List.setIfInBounds_toArray, List.set_cons_zero, List.set_cons_succ]
        exact wpAnyH_done (by kernel_rfl) ⟨rfl, A7, c7, _, _, _, _, _, _, _, _, _, _, _, _, _, _, by rfl, H7, HB⟩ _
      .rintro v' V ⟨A5, c5, u41, u42, u43, u44, u45, u46, u47, u48, u49, u50, u51, u52, u53, u54, rfl, H5, HB5⟩
       simp only [Act.put, List.setIfInBounds_toArray, List.set_cons_zero, List.set_cons_succ]
       have R5 := Lib.hid H5
       have HV := Lib.hid HB5
       clear H5 HB5 e1 gw gm gt gb
       go_wp2_with fail
       refine (add_r (R3.out.to HV.out) (R3.out.to HV.out)).mono ?_
       rintro e V2 ⟨A6, c6, rfl, z1, z2, z3, bb⟩
       have R6 := Lib.hid (Hr.of_ret z1 z2 z3 hq2.out (by omega))
       have R7 := Lib.hid (R5.out.to bb)
       have HV2 := Lib.hid (HV.out.trans (bb.mono HV.out.size))
       have HYV := Lib.hid (HY.out.to (HB3.out.trans (HV2.out.mono HB3.out.size)))
       have HBV := Lib.hid (HB3.out.trans (HV2.out.mono HB3.out.size))
       clear z1 z2 z3 bb
       have hc := rcmp_any R7.out HYV.out
       rw [val_dig b16_one, eY.out] at hc
       have HC := Lib.hid hc
       clear hc R5 R3
       have h15 : Hid (s <= 15) := by show _ <= _; omega
       have gs : IntKind.i64.wrap ((s : Int) - 1) = (s : Int) - 1 := IntWalk.i64_in _ (by omega)
       have hnx : Hid ((15 : Int) - ((j + 1 : Nat) : Int) = (s : Int) - 1) := by show _ = _; omega
       rcases Nat.lt_or_ge (P % Y + P % Y + bit) Y with hlt | hge
       .have hb1 := bit_lt H0.out hbit hlt
        rw [cmpN_lt hlt] at HC
        rw [<- HP.out] at hb1
        have K1 := R6.out
        have K2 := R7.out
        rw [hb1.1] at K1
        rw [hb1.2] at K2
        have M1 := Lib.hid K1
        have M2 := Lib.hid K2
        have E1 := Lib.hid hb1.1
        have E2 := Lib.hid hb1.2
        clear K1 K2 hb1 hlt HP hbit
        go_wp2_with fail
        refine HC.out.mono ?_
        rintro e w' ⟨rfl, rfl⟩
        go_wp2
        go_roundw
        case rel => exact ⟨j + 1, A6, c6, A5, c5, by rw [<- E1.out], by rw [<- E2.out], by rw [hnx.out], by omega, M1.out, M2.out, HBV.out⟩
        case measure => simp [intOf]
       .have hb1 := bit_ge H0.out hbit hge
        rw [<- HP.out] at hb1
        obtain ⟨cn, ecn, hcn⟩ : ∃ n : Int, cmpN (P % Y + P % Y + bit) Y = n /\ 0 <= n := by
         refine ⟨_, rfl, ?_⟩
         unfold cmpN; split
         .omega
         .split <;> omega
        rw [ecn] at HC
        have hsb := rsub_any R7.out HYV.out (by rw [val_dig b16_one, eY.out]; exact hge)
        rw [val_dig b16_one, eY.out, hb1.2] at hsb
        have E1 := Lib.hid hb1.1
        have E2 := Lib.hid hb1.2
        have hRl : (T * 2 ^ (j + 1) + x / 2 ^ (16 - (j + 1))) % Y < b16 ^ ys.length := Nat.lt_trans (Nat.mod_lt _ H0.out) hYl.out
        obtain ⟨m, em⟩ : ∃ m, Hid ((T * 2 ^ (j + 1) + x / 2 ^ (16 - (j + 1))) % Y = m) := ⟨_, rfl⟩
        rw [em.out] at hsb hRl
        have HS := Lib.hid hsb
        have HRl := Lib.hid hRl
        have HQl : Hid (P / Y + P / Y + 1 < b16 ^ (xs.length + 2)) := by
         show _ < _
         rw [Nat.pow_succ]
         have h1 := hq2.out
         have h2 : b16 ^ (xs.length + 1) * 2 <= b16 ^ (xs.length + 1) * b16 := Nat.mul_le_mul_left _ (by decide)
         omega
        clear hsb ecn hRl hb1 hge HP hbit
        go_wp2_with fail
        refine HC.out.mono ?_
        rintro e w' ⟨rfl, rfl⟩
        go_wp2_with fail
        refine HS.out.mono ?_
        rintro e V3 ⟨A8, c8, rfl, z1, z2, z3, bb⟩
        have M2 := Lib.hid (Hr.of_ret z1 z2 z3 HRl.out (by omega))
        have R8 := Lib.hid (R6.out.to bb)
        have HBW := Lib.hid (HBV.out.trans (bb.mono HBV.out.size))
        clear z1 z2 z3 bb
        go_wp2_with fail
        have hn1 := @unit_new V3
        have ha := add_r (R8.out.to hn1.2) hn1.1
        rw [one_len] at ha
        refine ha.mono ?_
        rintro e V4 ⟨A9, c9, rfl, z1, z2, z3, bb⟩
        have M1 := Hr.of_ret z1 z2 z3 HQl.out (by omega)
        have bb2 := hn1.2.trans (bb.mono hn1.2.size)
        have M2' := Lib.hid (M2.out.to bb2)
        have HBW' := Lib.hid (HBW.out.trans (bb2.mono HBW.out.size))
        rw [E1.out] at M1
        have M1' := Lib.hid M1
        clear M1 ha hn1 z1 z2 z3 bb bb2
        go_wp2
        go_roundw
        case rel => exact ⟨j + 1, A9, c9, A8, c8, by rw [<- E1.out], by rw [em.out], by rw [hnx.out], by omega, M1'.out, by rw [em.out]; exact M2'.out, HBW'.out⟩
        case measure => simp [intOf]
     .obtain rfl : j = 16 := by omega
      have hx1 : T * 2 ^ 16 + x / 2 ^ (16 - 16) = val b16 (xs.drop q) := by
       rw [HVX.out, Nat.sub_self, Nat.pow_zero, Nat.div_one, show (2 : Nat) ^ 16 = 65536 from by decide]; omega
      rw [hx1] at hu hv r3 r4
      subst hu hv hij
      have R3 := Lib.hid r3
      have R4 := Lib.hid r4
      have HB3 := Lib.hid hb3
      clear r3 r4 hb3 hx1 R1 R2 HB
      go_wp2
      go_roundw
      case rel => exact ⟨q, A3, c3, A4, c4, rfl, rfl, by simp, by omega, R3.out, R4.out, HB3.out⟩
      case measure => simp [intOf]
theorem rdiv_any {A A' : Option Addr} {c c' : Nat} {xs ys : List Nat} {w : World} (hx : Hr w A c xs) (hy : Hr w A' c' ys) (hl1 : xs.length <= 100000) (hl2 : ys.length <= 100000) (h0 : 0 < val b16 ys) :
  Calls Tryz.prog 132 #[.slice A xs.length c, .slice A' ys.length c'] w (HR2 w (val b16 xs / val b16 ys) (val b16 xs % val b16 ys)) := by
 by_cases h : xs.length <= 3 /\ ys.length <= 3
 .exact rdiv_short hx hy h.1 h.2 h0
 .exact rdiv_long hx hy hl1 hl2 h h0
theorem div_r {A A' : Option Addr} {c c' m n : Nat} {w : World} (hx : Hr w A c (dig b16 m)) (hy : Hr w A' c' (dig b16 n)) (hl1 : (dig b16 m).length <= 100000) (hl2 : (dig b16 n).length <= 100000) (h0 : 0 < n) :
  Calls Tryz.prog 132 #[.slice A (dig b16 m).length c, .slice A' (dig b16 n).length c'] w (HR2 w (m / n) (m % n)) := by
 have h := rdiv_any hx hy hl1 hl2 (by rw [val_dig b16_one]; exact h0)
 rw [val_dig b16_one, val_dig b16_one] at h
 exact h
theorem Rd.uniq {kd : IntKind} {w : World} {B : Nat} {A : Option Addr} {xs ys : List Nat} (h : Rd kd w B A xs) (k : Rd kd w B A ys) (hl : xs.length = ys.length) : xs = ys := by
 refine List.ext_getElem hl fun i h1 h2 => ?_
 obtain ⟨b, o, rfl, _, e1⟩ := h i h1
 obtain ⟨b', o', e, _, e2⟩ := k i h2
 simp only [Option.some.injEq, Addr.mk.injEq, and_true] at e
 obtain ⟨rfl, rfl⟩ := e
 rw [e1] at e2
 simp only [Option.some.injEq, Value.int.injEq, true_and] at e2
 exact Int.ofNat.inj e2
open Classical in
noncomputable def magOf (w : World) (v : Value) : Nat := if h : ∃ n, ∃ A c, v = .slice A (dig b16 n).length c /\ Rd .i64 w w.heap.size A (dig b16 n) then h.choose else 0
theorem magOf_eq {w : World} {A : Option Addr} {c n : Nat} (h : Rd .i64 w w.heap.size A (dig b16 n)) : magOf w (.slice A (dig b16 n).length c) = n := by
 have hex : ∃ m, ∃ A' c', Value.slice A (dig b16 n).length c = .slice A' (dig b16 m).length c' /\ Rd .i64 w w.heap.size A' (dig b16 m) := ⟨n, A, c, rfl, h⟩
 unfold magOf
 rw [dif_pos hex]
 obtain ⟨A', c', e, h2⟩ := hex.choose_spec
 injection e with e1 e2 e3
 subst e1
 have h3 := Rd.uniq h2 h e2.symm
 have h4 : val b16 (dig b16 hex.choose) = val b16 (dig b16 n) := by rw [h3]
 rwa [val_dig b16_one, val_dig b16_one] at h4
theorem rGcd_any (n : Bool) (m : Bool) {A A' : Option Addr} {c c' : Nat} {xs ys : List Nat} {w : World} (hx : Arg w A c xs) (sx : xs.length <= 10000) (hy : Arg w A' c' ys) (sy : ys.length <= 10000) :
  Calls Tryz.prog 107 #[.agg #[.bool n, .slice A xs.length c], .agg #[.bool m, .slice A' ys.length c']] w (ZR w ((Nat.gcd (val b32 xs) (val b32 ys) : Nat) : Int)) := by
 obtain ⟨W0, hW0⟩ : ∃ W0, W0 = (((w.alloc (.cells #[.bool n, .slice A xs.length c] 24)).alloc (.cells #[.bool m, .slice A' ys.length c'] 24)).alloc (.cells #[.bool false, .slice none 0 0] 24)) := ⟨_, rfl⟩
 have hb : Below w.heap.size w W0 := by rw [hW0]; exact (((Below.refl _ _).alloc (Nat.le_refl _) _).alloc (by simp) _).alloc (by simp; omega) _
 have tX : Two W0 (w.heap.size) (.bool n) (.slice A xs.length c) := by
  have h := Two.new w (.bool n) (.slice A xs.length c) 24
  rw [hW0]; exact (h.alloc _).alloc _
 have tY : Two W0 (w.heap.size + 1) (.bool m) (.slice A' ys.length c') := by
  have h := Two.new (w.alloc (.cells #[.bool n, .slice A xs.length c] 24)) (.bool m) (.slice A' ys.length c') 24
  rw [World.size_alloc] at h
  rw [hW0]; exact h.alloc _
 have tR : Two W0 (w.heap.size + 1 + 1) (.bool false) (.slice none 0 0) := by
  have h := Two.new ((w.alloc (.cells #[.bool n, .slice A xs.length c] 24)).alloc (.cells #[.bool m, .slice A' ys.length c'] 24)) (.bool false) (.slice none 0 0) 24
  rw [World.size_alloc, World.size_alloc] at h
  rw [hW0]; exact h
 have HW0 := Lib.hid hW0
 have HB0 := Lib.hid hb
 have HX := Lib.hid hx
 have HY := Lib.hid hy
 have hBW : w.heap.size + 1 + 1 <= W0.heap.size := by rw [hW0]; simp
 have Dsx : val b32 xs < b16 ^ (2 * xs.length) := by rw [<- pow_2k]; exact val_lt hx.dg
 have Dsy : val b32 ys < b16 ^ (2 * ys.length) := by rw [<- pow_2k]; exact val_lt hy.dg
 clear hW0 hb hx hy
 go_enter Tryz.func107, Tryz.ntmps107
 go_wp2_with fail
 rw [<- HW0.out]
 refine wp_region_plan (S := fun w' => Below (w.heap.size + 1 + 1) W0 w') [(0, true), (1, true), (3, true), (4, true), (2, false), (5, false), (6, true), (7, true)] (by kernel_rfl) (by kernel_rfl) (Below.refl _ _).drew ?_
 have HB := (Below.refl W0.heap.size W0).drew
 repeat (refine plan_take (v := ?_) rfl (by rfl) ?_ ?_; rotate_left; (focus (intro w' hS; have k0 := (tX.toB hS (by omega)).c0; have k1 := (tX.toB hS (by omega)).c1; have k2 := (tY.toB hS (by omega)).c0; have k3 := (tY.toB hS (by omega)).c1; go_simp; try with_reducible rfl)); simp only [Act.put, List.setIfInBounds_toArray, List.set_cons_zero, List.set_cons_succ])
 refine plan_call rfl (by rfl) (fun K hK => ?_)
 go_simp
 refine (halves_r (HX.out.to (HB0.out.trans (HB.mono HB0.out.size)))).mono ?_
 rintro e V ⟨A1, c1, rfl, r1, l1, m1, bb⟩
 replace HB := HB.trans (bb.mono HB.size)
 have H1 := Hr.of_ret r1 l1 m1 Dsx (by omega)
 clear r1 l1 m1 bb
 refine hK.out _ _ (HB.mono hBW) ?_
 clear hK K
 refine plan_call rfl (by rfl) (fun K hK => ?_)
 go_simp
 refine (halves_r (HY.out.to (HB0.out.trans (HB.mono HB0.out.size)))).mono ?_
 rintro e V ⟨A2, c2, rfl, r1, l1, m1, bb⟩
 replace HB := HB.trans (bb.mono HB.size)
 have H2 := Hr.of_ret r1 l1 m1 Dsy (by omega)
 replace H1 := H1.to bb
 clear r1 l1 m1 bb
 refine hK.out _ _ (HB.mono hBW) ?_
 clear hK K
 repeat (refine plan_take (v := ?_) rfl (by rfl) ?_ ?_; rotate_left; (focus (intro w' hS; have k0 := (tX.toB hS (by omega)).c0; have k1 := (tX.toB hS (by omega)).c1; have k2 := (tY.toB hS (by omega)).c0; have k3 := (tY.toB hS (by omega)).c1; go_simp; try with_reducible rfl)); simp only [Act.put, List.setIfInBounds_toArray, List.set_cons_zero, List.set_cons_succ])
 refine plan_done ?_
 obtain ⟨N, hN⟩ : ∃ N, N = 20000 := ⟨_, rfl⟩
 have B1 : val b32 xs < b16 ^ N := Nat.lt_of_lt_of_le Dsx (Nat.pow_le_pow_right (by decide) (by omega))
 have B2 : val b32 ys < b16 ^ N := Nat.lt_of_lt_of_le Dsy (Nat.pow_le_pow_right (by decide) (by omega))
 obtain ⟨G, eG⟩ : ∃ G, Nat.gcd (val b32 xs) (val b32 ys) = G := ⟨_, rfl⟩
 have EG := Lib.hid eG
 have HI : Hid (∃ (X Y : Nat) , val b32 xs = X /\ val b32 ys = Y /\ Nat.gcd X Y = G /\ X < b16 ^ N /\ Y < b16 ^ N) := ⟨_, _, rfl, rfl, eG, B1, B2⟩
 clear Dsx Dsy HX HY tX tY eG B1 B2
 obtain ⟨X0, Y0, e1, e2, hG, B1, B2⟩ := HI.out
 rw [e1] at H1 ⊢
 rw [e2] at H2 ⊢
 clear e1 e2 HI
 have HN := Lib.hid (show N <= 20000 by omega)
 clear hN
 have RI := Lib.hid (show Hr _ A1 c1 (dig b16 X0) /\ Hr _ A2 c2 (dig b16 Y0) /\ Nat.gcd X0 Y0 = G /\ X0 < b16 ^ N /\ Y0 < b16 ^ N /\ Below W0.heap.size W0 _ from ⟨H1, H2, hG, B1, B2, HB⟩)
 clear H1 H2 hG B1 B2 HB
 go_wp2
 go_loopw [5, 6] (fun u v wr => ∃ (X Y : Nat) (A3 : Option Addr) (c3 : Nat) (A4 : Option Addr) (c4 : Nat), u = .slice A3 (dig b16 X).length c3 /\ v = .slice A4 (dig b16 Y).length c4 /\ Hr wr A3 c3 (dig b16 X) /\ Hr wr A4 c4 (dig b16 Y) /\ Nat.gcd X Y = G /\ X < b16 ^ N /\ Y < b16 ^ N /\ Below W0.heap.size W0 wr) (fun _ v wr => magOf wr v)
 case atStart => exact ⟨X0, Y0, A1, c1, A2, c2, rfl, rfl, RI.out⟩
 case round =>
  clear RI
  obtain ⟨X, Y, A3, c3, A4, c4, hu, hv, r3, r4, hG, b1, b2, hb⟩ := hrel
  subst hu hv
  have R3 := Lib.hid r3
  have R4 := Lib.hid r4
  have HG := Lib.hid hG
  have B1 := Lib.hid b1
  have B2 := Lib.hid b2
  have HB := Lib.hid hb
  have hM : magOf wr (.slice A4 (dig b16 Y).length c4) = Y := magOf_eq r4.rd
  clear r3 r4 hG b1 b2 hb
  rcases Nat.eq_zero_or_pos Y with rfl | hY
  .have hl : (dig b16 0).length = 0 := by rw [dig_zero]; rfl
   have HOF := Lib.hid (of_r false R3.out)
   have t2 := tR.to HB.out
   have hz : Hid (zof false X = ((X : Nat) : Int)) := by show _ = _; simp [zof]
   have hXG : Hid (X = G) := by show _ = _; rw [<- HG.out, Nat.gcd_zero_right]
   have HE0 := Lib.hid (HB0.out.trans (HB.out.mono HB0.out.size))
   clear hM HG B1 B2 R3 R4
   go_wp2_with fail
   refine HOF.out.mono ?_
   rintro e V2 ⟨xr, yr, rfl, rz, bb⟩
   have rz2 := rz
   obtain ⟨A5, c5, rfl, rfl, -⟩ := rz2
   have t3 := t2.to bb
   have HE := Lib.hid (HE0.out.trans (bb.mono HE0.out.size))
   have k0 := t3.c0
   have k1 := t3.c1
   have k2 := t3.f0
   have k3 := t3.f1
   have RZ := Lib.hid rz
   clear rz bb t2 HB HOF
   go_wp2
   have tF := t3.set (.bool (decide (zof false X < 0))) (.slice A5 (dig b32 (zof false X).natAbs).length c5)
   have KP := Kept.of t3 (fun n e => by cases e) (fun n e => by cases e) (.bool (decide (zof false X < 0))) (.slice A5 (dig b32 (zof false X).natAbs).length c5)
   refine bodyPost_ret (v := .agg #[.bool (decide (zof false X < 0)), .slice A5 (dig b32 (zof false X).natAbs).length c5]) (by simp [results, Tryz.f107, go_sem, tF.c0, tF.c1]) rfl ?_
   rw [EG.out, <- hXG.out, <- hz.out]
   exact ⟨_, _, rfl, KP.zc _ _ _ RZ.out, KP.bel _ _ HE.out (by omega)⟩
  .have hl : 0 < (dig b16 Y).length := by
    refine Nat.pos_of_ne_zero fun h => ?_
    rw [dig_len0 b16_one] at h; omega
   have hl' : (0 : Int) < ((dig b16 Y).length : Int) := by omega
   have HD := div_r R3.out R4.out (Nat.le_trans (dig_length_le b16_one B1.out) (by have := HN.out; omega)) (Nat.le_trans (dig_length_le b16_one B2.out) (by have := HN.out; omega)) hY
   have hQ : X / Y < b16 ^ N := Nat.lt_of_le_of_lt (Nat.div_le_self _ _) B1.out
   have hR : X % Y < b16 ^ N := Nat.lt_trans (Nat.mod_lt _ hY) B2.out
   have hRY : X % Y < Y := Nat.mod_lt _ hY
   have hGR : Nat.gcd Y (X % Y) = G := by rw [<- HG.out, Nat.gcd_comm X Y, Nat.gcd_rec Y X, Nat.gcd_comm]
   obtain ⟨q, eq⟩ : ∃ q, X / Y = q := ⟨_, rfl⟩
   obtain ⟨r, er⟩ : ∃ r, X % Y = r := ⟨_, rfl⟩
   rw [er] at HD hR hRY hGR
   rw [eq] at HD hQ
   have HD2 := Lib.hid HD
   have F := Lib.hid (show q < b16 ^ N /\ r < b16 ^ N /\ r < Y /\ Nat.gcd Y r = G from ⟨hQ, hR, hRY, hGR⟩)
   clear HD hQ hR hRY hGR eq er HG B1 R3 hl
   go_wp2_with fail
   refine HD2.out.mono ?_
   rintro e V2 ⟨A5, c5, A6, c6, rfl, -, -, -, z1, z2, z3, bb⟩
   have H6 := Lib.hid (Hr.of_ret z1 z2 z3 F.out.2.1 (by have := HN.out; omega))
   have H4 := Lib.hid (R4.out.to bb)
   have HBV := Lib.hid (HB.out.trans (bb.mono HB.out.size))
   clear z1 z2 z3 bb HD2 R4 HB
   go_wp2
   go_roundw
   case rel => exact ⟨Y, r, A4, c4, A6, c6, rfl, rfl, H4.out, H6.out, F.out.2.2.2, B2.out, F.out.2.1, HBV.out⟩
   case measure => rw [hM, magOf_eq H6.out.rd]; exact F.out.2.2.1
theorem rgcd_z {w : World} {x y x' y' : Value} {a b : Int} (ha : Zl w x y a) (hb : Zl w x' y' b) : Calls Tryz.prog 107 #[.agg #[x, y], .agg #[x', y']] w (ZR w ((Nat.gcd a.natAbs b.natAbs : Nat) : Int)) := by
 obtain ⟨n, A, c, xs, rfl, rfl, h3, h4, rfl⟩ := ha
 obtain ⟨m, B, d, ys, rfl, rfl, k3, k4, rfl⟩ := hb
 rw [zof_abs, zof_abs]
 exact rGcd_any n m h3 h4 k3 k4
end Go.Proofs.YtcgdbdhhoomgiaaGreat

namespace Go.Proofs.YtcgdbdhhoomgiaaGreat
open Go.RowKit Go.Shelf
def ZZ (w : World) (a b : Int) (e : Ending) (w' : World) : Prop := ∃ xq yq xr yr, e = .returned (.tuple #[.agg #[xq, yq], .agg #[xr, yr], .int .i64 0]) /\ Zc w' xq yq a /\ Zc w' xr yr b /\ Below w.heap.size w w'
theorem rDiv_f (m : Bool) {A A' : Option Addr} {c c' : Nat} {xs ys : List Nat} {w : World} (hx : Arg w A c xs) (sx : xs.length <= 10000) (hy : Arg w A' c' ys) (sy : ys.length <= 10000) (h0 : 0 < val b32 ys) :
  Calls Tryz.prog 108 #[.agg #[.bool false, .slice A xs.length c], .agg #[.bool m, .slice A' ys.length c']] w (ZZ w (zof m (val b32 xs / val b32 ys)) (zof false (val b32 xs % val b32 ys))) := by
 obtain ⟨W0, hW0⟩ : ∃ W0, W0 = ((((w.alloc (.cells #[.bool false, .slice A xs.length c] 24)).alloc (.cells #[.bool m, .slice A' ys.length c'] 24)).alloc (.cells #[.bool false, .slice none 0 0] 24)).alloc (.cells #[.bool false, .slice none 0 0] 24)) := ⟨_, rfl⟩
 have hb : Below w.heap.size w W0 := by rw [hW0]; exact ((((Below.refl _ _).alloc (Nat.le_refl _) _).alloc (by simp) _).alloc (by simp; omega) _).alloc (by simp; omega) _
 have tX : Two W0 (w.heap.size) (.bool false) (.slice A xs.length c) := by
  have h := Two.new w (.bool false) (.slice A xs.length c) 24
  rw [hW0]; exact (((h.alloc _).alloc _).alloc _)
 have tY : Two W0 (w.heap.size + 1) (.bool m) (.slice A' ys.length c') := by
  have h := Two.new (w.alloc (.cells #[.bool false, .slice A xs.length c] 24)) (.bool m) (.slice A' ys.length c') 24
  rw [World.size_alloc] at h
  rw [hW0]; exact ((h.alloc _).alloc _)
 have tR : Two W0 (w.heap.size + 1 + 1) (.bool false) (.slice none 0 0) := by
  have h := Two.new ((w.alloc (.cells #[.bool false, .slice A xs.length c] 24)).alloc (.cells #[.bool m, .slice A' ys.length c'] 24)) (.bool false) (.slice none 0 0) 24
  rw [World.size_alloc, World.size_alloc] at h
  rw [hW0]; exact (h.alloc _)
 have tS : Two W0 (w.heap.size + 1 + 1 + 1) (.bool false) (.slice none 0 0) := by
  have h := Two.new (((w.alloc (.cells #[.bool false, .slice A xs.length c] 24)).alloc (.cells #[.bool m, .slice A' ys.length c'] 24)).alloc (.cells #[.bool false, .slice none 0 0] 24)) (.bool false) (.slice none 0 0) 24
  rw [World.size_alloc, World.size_alloc, World.size_alloc] at h
  rw [hW0]; exact h
 have HW0 := Lib.hid hW0
 have HB0 := Lib.hid hb
 have HX := Lib.hid hx
 have HY := Lib.hid hy
 have hBW : w.heap.size + 1 + 1 <= W0.heap.size := by rw [hW0]; simp
 have Dsx : val b32 xs < b16 ^ (2 * xs.length) := by rw [<- pow_2k]; exact val_lt hx.dg
 have Dsy : val b32 ys < b16 ^ (2 * ys.length) := by rw [<- pow_2k]; exact val_lt hy.dg
 clear hW0 hb hx hy
 go_enter Tryz.func108, Tryz.ntmps108
 go_wp2_with fail
 rw [<- HW0.out]
 refine wp_region_plan (S := fun w' => Below (w.heap.size + 1 + 1) W0 w') [(0, true), (1, true), (3, true), (4, true), (2, false), (5, false), (6, true), (7, true)] (by kernel_rfl) (by kernel_rfl) (Below.refl _ _).drew ?_
 have HB := (Below.refl W0.heap.size W0).drew
 repeat (refine plan_take (v := ?_) rfl (by rfl) ?_ ?_; rotate_left; (focus (intro w' hS; have k0 := (tX.toB hS (by omega)).c0; have k1 := (tX.toB hS (by omega)).c1; have k2 := (tY.toB hS (by omega)).c0; have k3 := (tY.toB hS (by omega)).c1; go_simp; try with_reducible rfl)); simp only [Act.put, List.setIfInBounds_toArray, List.set_cons_zero, List.set_cons_succ])
 refine plan_call rfl (by rfl) (fun K hK => ?_)
 go_simp
 refine (halves_r (HX.out.to (HB0.out.trans (HB.mono HB0.out.size)))).mono ?_
 rintro e V ⟨A1, c1, rfl, r1, l1, m1, bb⟩
 replace HB := HB.trans (bb.mono HB.size)
 have H1 := Hr.of_ret r1 l1 m1 Dsx (by omega)
 clear r1 l1 m1 bb
 refine hK.out _ _ (HB.mono hBW) ?_
 clear hK K
 refine plan_call rfl (by rfl) (fun K hK => ?_)
 go_simp
 refine (halves_r (HY.out.to (HB0.out.trans (HB.mono HB0.out.size)))).mono ?_
 rintro e V ⟨A2, c2, rfl, r1, l1, m1, bb⟩
 replace HB := HB.trans (bb.mono HB.size)
 have H2 := Hr.of_ret r1 l1 m1 Dsy (by omega)
 replace H1 := H1.to bb
 clear r1 l1 m1 bb
 refine hK.out _ _ (HB.mono hBW) ?_
 clear hK K
 repeat (refine plan_take (v := ?_) rfl (by rfl) ?_ ?_; rotate_left; (focus (intro w' hS; have k0 := (tX.toB hS (by omega)).c0; have k1 := (tX.toB hS (by omega)).c1; have k2 := (tY.toB hS (by omega)).c0; have k3 := (tY.toB hS (by omega)).c1; go_simp; try with_reducible rfl)); simp only [Act.put, List.setIfInBounds_toArray, List.set_cons_zero, List.set_cons_succ])
 refine plan_done ?_
 have l1 : (dig b16 (val b32 xs)).length <= 100000 := Nat.le_trans (dig_length_le b16_one Dsx) (by omega)
 have l2 : (dig b16 (val b32 ys)).length <= 100000 := Nat.le_trans (dig_length_le b16_one Dsy) (by omega)
 have HD := div_r H1 H2 l1 l2 h0
 have hQ : val b32 xs / val b32 ys < b16 ^ (2 * xs.length) := Nat.lt_of_le_of_lt (Nat.div_le_self _ _) Dsx
 have hRY := Nat.mod_lt (val b32 xs) h0
 have hly : 0 < (dig b16 (val b32 ys)).length := by
  refine Nat.pos_of_ne_zero fun h => ?_
  rw [dig_len0 b16_one] at h; omega
 clear l1 l2
 obtain ⟨X, eX⟩ : ∃ X, Hid (val b32 xs = X) := ⟨_, rfl⟩
 obtain ⟨Y, eY⟩ : ∃ Y, Hid (val b32 ys = Y) := ⟨_, rfl⟩
 obtain ⟨Q, eQ⟩ : ∃ Q, Hid (X / Y = Q) := ⟨_, rfl⟩
 obtain ⟨R, eR⟩ : ∃ R, Hid (X % Y = R) := ⟨_, rfl⟩
 rw [eX.out, eY.out, eQ.out, eR.out] at HD
 rw [eX.out, eY.out, eQ.out] at hQ
 rw [eX.out, eY.out, eR.out] at hRY
 rw [eX.out] at H1 ⊢
 rw [eY.out] at H2 hly Dsy ⊢
 clear h0
 have hly' : (0 : Int) < ((dig b16 Y).length : Int) := by omega
 have hlz : (((dig b16 Y).length : Int) == 0) = false := by rw [beq_eq_false_iff_ne]; omega
 have HD2 := Lib.hid HD
 have HHY := Lib.hid H2
 have FF := Lib.hid (show Q < b16 ^ (2 * xs.length) /\ R < b16 ^ (2 * ys.length) from ⟨hQ, by omega⟩)
 clear HD H1 H2 hQ hRY Dsx Dsy HX HY hly
 go_wp2_with fail
 refine HD2.out.mono ?_
 rintro e V2 ⟨A5, c5, A6, c6, rfl, q1, q2, q3, z1, z2, z3, bb⟩
 have H5 := Lib.hid (Hr.of_ret q1 q2 q3 FF.out.1 (by omega))
 have H6 := Lib.hid (Hr.of_ret z1 z2 z3 FF.out.2 (by omega))
 have HY2 := Lib.hid (HHY.out.to bb)
 replace HB := HB.trans (bb.mono HB.size)
 clear q1 q2 q3 z1 z2 z3 bb HD2 HHY
 have k1 := (tX.to HB).c0
 have k2 := (tX.to HB).c1
 have k3 := (tY.to HB).c0
 have k4 := (tY.to HB).c1
 go_wp2_with fail
 clear k1 k2 k3 k4
 obtain ⟨q, eq⟩ : ∃ q : Int, Hid (zof m Q = q) := ⟨_, rfl⟩
 obtain ⟨r, er⟩ : ∃ r : Int, Hid (zof false R = r) := ⟨_, rfl⟩
 have O1 := of_r m H5.out
 rw [eq.out] at O1
 refine O1.mono ?_
 rintro e V5 ⟨xq, yq, rfl, rq, bb⟩
 obtain ⟨A9, c9, rfl, rfl, s1, s2, s3⟩ := rq
 have O2 := of_r false (H6.out.to bb)
 rw [er.out] at O2
 have O2' := Lib.hid O2
 have S1 := Lib.hid s1
 replace HB := HB.trans (bb.mono HB.size)
 clear O1 O2 s1 bb H5 H6
 go_wp2_with fail
 refine O2'.out.mono ?_
 rintro e V6 ⟨xr, yr, rfl, rr, bb⟩
 obtain ⟨A10, c10, rfl, rfl, v1, v2, v3⟩ := rr
 have S3 := Lib.hid (S1.out.to bb)
 have V3' := Lib.hid v1
 have HBF := Lib.hid (HB0.out.trans ((HB.trans (bb.mono HB.size)).mono HB0.out.size))
 have TQ := Lib.hid (tR.to (HB.trans (bb.mono HB.size)))
 have TR := Lib.hid (tS.to (HB.trans (bb.mono HB.size)))
 obtain ⟨g1, g2, g3, g4, g5⟩ := tR.to (HB.trans (bb.mono HB.size))
 obtain ⟨k1, k2, k3, k4, k5⟩ := tS.to (HB.trans (bb.mono HB.size))
 clear v1 bb HB O2' S1 tX tY tR tS
 go_wp2
 have tF := TQ.out.set (.bool (decide (q < 0))) (.slice A9 (dig b32 q.natAbs).length c9)
 have K1 := Kept.of TQ.out (fun n e => by cases e) (fun n e => by cases e) (.bool (decide (q < 0))) (.slice A9 (dig b32 q.natAbs).length c9)
 have tG0 := K1.two _ _ _ (by omega) TR.out
 have tG := tG0.set (.bool (decide (r < 0))) (.slice A10 (dig b32 r.natAbs).length c10)
 have K2 := Kept.of tG0 (fun n e => by cases e) (fun n e => by cases e) (.bool (decide (r < 0))) (.slice A10 (dig b32 r.natAbs).length c10)
 have tH := K2.two _ _ _ (by omega) tF
 refine bodyPost_ret (v := .tuple #[.agg #[.bool (decide (q < 0)), .slice A9 (dig b32 q.natAbs).length c9], .agg #[.bool (decide (r < 0)), .slice A10 (dig b32 r.natAbs).length c10], .int .i64 0])
  (by simp [results, Tryz.f108, go_sem, tH.c0, tH.c1, tG.c0, tG.c1]) rfl ?_
 have ZQ : Zc V6 (.bool (decide (q < 0))) (.slice A9 (dig b32 q.natAbs).length c9) q := ⟨A9, c9, rfl, rfl, S3.out, s2, s3⟩
 have ZR' : Zc V6 (.bool (decide (r < 0))) (.slice A10 (dig b32 r.natAbs).length c10) r := ⟨A10, c10, rfl, rfl, V3'.out, v2, v3⟩
 rw [eX.out, eY.out, eQ.out, eR.out, eq.out, er.out]
 exact ⟨_, _, _, _, rfl, K2.zc _ _ _ (K1.zc _ _ _ ZQ), K2.zc _ _ _ (K1.zc _ _ _ ZR'), K2.bel _ _ (K1.bel _ _ HBF.out (by omega)) (by omega)⟩
theorem rDiv_z (m : Bool) {A A' : Option Addr} {c c' : Nat} {xs ys : List Nat} {w : World} (hx : Arg w A c xs) (sx : xs.length <= 10000) (hy : Arg w A' c' ys) (sy : ys.length <= 10000) (h0 : 0 < val b32 ys) (hr : val b32 xs % val b32 ys = 0) :
  Calls Tryz.prog 108 #[.agg #[.bool true, .slice A xs.length c], .agg #[.bool m, .slice A' ys.length c']] w (ZZ w (zof (!m) (val b32 xs / val b32 ys)) (zof false (val b32 xs % val b32 ys))) := by
 obtain ⟨W0, hW0⟩ : ∃ W0, W0 = ((((w.alloc (.cells #[.bool true, .slice A xs.length c] 24)).alloc (.cells #[.bool m, .slice A' ys.length c'] 24)).alloc (.cells #[.bool false, .slice none 0 0] 24)).alloc (.cells #[.bool false, .slice none 0 0] 24)) := ⟨_, rfl⟩
 have hb : Below w.heap.size w W0 := by rw [hW0]; exact ((((Below.refl _ _).alloc (Nat.le_refl _) _).alloc (by simp) _).alloc (by simp; omega) _).alloc (by simp; omega) _
 have tX : Two W0 (w.heap.size) (.bool true) (.slice A xs.length c) := by
  have h := Two.new w (.bool true) (.slice A xs.length c) 24
  rw [hW0]; exact (((h.alloc _).alloc _).alloc _)
 have tY : Two W0 (w.heap.size + 1) (.bool m) (.slice A' ys.length c') := by
  have h := Two.new (w.alloc (.cells #[.bool true, .slice A xs.length c] 24)) (.bool m) (.slice A' ys.length c') 24
  rw [World.size_alloc] at h
  rw [hW0]; exact ((h.alloc _).alloc _)
 have tR : Two W0 (w.heap.size + 1 + 1) (.bool false) (.slice none 0 0) := by
  have h := Two.new ((w.alloc (.cells #[.bool true, .slice A xs.length c] 24)).alloc (.cells #[.bool m, .slice A' ys.length c'] 24)) (.bool false) (.slice none 0 0) 24
  rw [World.size_alloc, World.size_alloc] at h
  rw [hW0]; exact (h.alloc _)
 have tS : Two W0 (w.heap.size + 1 + 1 + 1) (.bool false) (.slice none 0 0) := by
  have h := Two.new (((w.alloc (.cells #[.bool true, .slice A xs.length c] 24)).alloc (.cells #[.bool m, .slice A' ys.length c'] 24)).alloc (.cells #[.bool false, .slice none 0 0] 24)) (.bool false) (.slice none 0 0) 24
  rw [World.size_alloc, World.size_alloc, World.size_alloc] at h
  rw [hW0]; exact h
 have HW0 := Lib.hid hW0
 have HB0 := Lib.hid hb
 have HX := Lib.hid hx
 have HY := Lib.hid hy
 have hBW : w.heap.size + 1 + 1 <= W0.heap.size := by rw [hW0]; simp
 have Dsx : val b32 xs < b16 ^ (2 * xs.length) := by rw [<- pow_2k]; exact val_lt hx.dg
 have Dsy : val b32 ys < b16 ^ (2 * ys.length) := by rw [<- pow_2k]; exact val_lt hy.dg
 clear hW0 hb hx hy
 go_enter Tryz.func108, Tryz.ntmps108
 go_wp2_with fail
 rw [<- HW0.out]
 refine wp_region_plan (S := fun w' => Below (w.heap.size + 1 + 1) W0 w') [(0, true), (1, true), (3, true), (4, true), (2, false), (5, false), (6, true), (7, true)] (by kernel_rfl) (by kernel_rfl) (Below.refl _ _).drew ?_
 have HB := (Below.refl W0.heap.size W0).drew
 repeat (refine plan_take (v := ?_) rfl (by rfl) ?_ ?_; rotate_left; (focus (intro w' hS; have k0 := (tX.toB hS (by omega)).c0; have k1 := (tX.toB hS (by omega)).c1; have k2 := (tY.toB hS (by omega)).c0; have k3 := (tY.toB hS (by omega)).c1; go_simp; try with_reducible rfl)); simp only [Act.put, List.setIfInBounds_toArray, List.set_cons_zero, List.set_cons_succ])
 refine plan_call rfl (by rfl) (fun K hK => ?_)
 go_simp
 refine (halves_r (HX.out.to (HB0.out.trans (HB.mono HB0.out.size)))).mono ?_
 rintro e V ⟨A1, c1, rfl, r1, l1, m1, bb⟩
 replace HB := HB.trans (bb.mono HB.size)
 have H1 := Hr.of_ret r1 l1 m1 Dsx (by omega)
 clear r1 l1 m1 bb
 refine hK.out _ _ (HB.mono hBW) ?_
 clear hK K
 refine plan_call rfl (by rfl) (fun K hK => ?_)
 go_simp
 refine (halves_r (HY.out.to (HB0.out.trans (HB.mono HB0.out.size)))).mono ?_
 rintro e V ⟨A2, c2, rfl, r1, l1, m1, bb⟩
 replace HB := HB.trans (bb.mono HB.size)
 have H2 := Hr.of_ret r1 l1 m1 Dsy (by omega)
 replace H1 := H1.to bb
 clear r1 l1 m1 bb
 refine hK.out _ _ (HB.mono hBW) ?_
 clear hK K
 repeat (refine plan_take (v := ?_) rfl (by rfl) ?_ ?_; rotate_left; (focus (intro w' hS; have k0 := (tX.toB hS (by omega)).c0; have k1 := (tX.toB hS (by omega)).c1; have k2 := (tY.toB hS (by omega)).c0; have k3 := (tY.toB hS (by omega)).c1; go_simp; try with_reducible rfl)); simp only [Act.put, List.setIfInBounds_toArray, List.set_cons_zero, List.set_cons_succ])
 refine plan_done ?_
 have l1 : (dig b16 (val b32 xs)).length <= 100000 := Nat.le_trans (dig_length_le b16_one Dsx) (by omega)
 have l2 : (dig b16 (val b32 ys)).length <= 100000 := Nat.le_trans (dig_length_le b16_one Dsy) (by omega)
 have HD := div_r H1 H2 l1 l2 h0
 have hQ : val b32 xs / val b32 ys < b16 ^ (2 * xs.length) := Nat.lt_of_le_of_lt (Nat.div_le_self _ _) Dsx
 have hRY := Nat.mod_lt (val b32 xs) h0
 have hly : 0 < (dig b16 (val b32 ys)).length := by
  refine Nat.pos_of_ne_zero fun h => ?_
  rw [dig_len0 b16_one] at h; omega
 clear l1 l2
 obtain ⟨X, eX⟩ : ∃ X, Hid (val b32 xs = X) := ⟨_, rfl⟩
 obtain ⟨Y, eY⟩ : ∃ Y, Hid (val b32 ys = Y) := ⟨_, rfl⟩
 obtain ⟨Q, eQ⟩ : ∃ Q, Hid (X / Y = Q) := ⟨_, rfl⟩
 obtain ⟨R, eR⟩ : ∃ R, Hid (X % Y = R) := ⟨_, rfl⟩
 rw [eX.out, eY.out, eR.out] at hr
 rw [eX.out, eY.out, eQ.out, eR.out] at HD
 rw [eX.out, eY.out, eQ.out] at hQ
 rw [eX.out, eY.out, eR.out] at hRY
 rw [eX.out] at H1 ⊢
 rw [eY.out] at H2 hly Dsy ⊢
 clear h0
 subst hr
 have hly' : (0 : Int) < ((dig b16 Y).length : Int) := by omega
 have hlz : (((dig b16 Y).length : Int) == 0) = false := by rw [beq_eq_false_iff_ne]; omega
 have hl0 : (dig b16 0).length = 0 := by rw [dig_zero]; rfl
 have HD2 := Lib.hid HD
 have HHY := Lib.hid H2
 have FF := Lib.hid (show Q < b16 ^ (2 * xs.length) /\ 0 < b16 ^ (2 * ys.length) from ⟨hQ, by omega⟩)
 clear HD H1 H2 hQ hRY Dsx Dsy HX HY hly
 go_wp2_with fail
 refine HD2.out.mono ?_
 rintro e V2 ⟨A5, c5, A6, c6, rfl, q1, q2, q3, z1, z2, z3, bb⟩
 have H5 := Lib.hid (Hr.of_ret q1 q2 q3 FF.out.1 (by omega))
 have H6 := Lib.hid (Hr.of_ret z1 z2 z3 FF.out.2 (by omega))
 have HY2 := Lib.hid (HHY.out.to bb)
 replace HB := HB.trans (bb.mono HB.size)
 clear q1 q2 q3 z1 z2 z3 bb HD2 HHY
 have k1 := (tX.to HB).c0
 have k2 := (tX.to HB).c1
 have k3 := (tY.to HB).c0
 have k4 := (tY.to HB).c1
 go_wp2_with fail
 clear k1 k2 k3 k4
 obtain ⟨q, eq⟩ : ∃ q : Int, Hid (zof (!m) Q = q) := ⟨_, rfl⟩
 obtain ⟨r, er⟩ : ∃ r : Int, Hid (zof false 0 = r) := ⟨_, rfl⟩
 have O1 := of_r (!m) H5.out
 rw [eq.out] at O1
 refine O1.mono ?_
 rintro e V5 ⟨xq, yq, rfl, rq, bb⟩
 obtain ⟨A9, c9, rfl, rfl, s1, s2, s3⟩ := rq
 have O2 := of_r false (H6.out.to bb)
 rw [er.out] at O2
 have O2' := Lib.hid O2
 have S1 := Lib.hid s1
 replace HB := HB.trans (bb.mono HB.size)
 clear O1 O2 s1 bb H5 H6
 go_wp2_with fail
 refine O2'.out.mono ?_
 rintro e V6 ⟨xr, yr, rfl, rr, bb⟩
 obtain ⟨A10, c10, rfl, rfl, v1, v2, v3⟩ := rr
 have S3 := Lib.hid (S1.out.to bb)
 have V3' := Lib.hid v1
 have HBF := Lib.hid (HB0.out.trans ((HB.trans (bb.mono HB.size)).mono HB0.out.size))
 have TQ := Lib.hid (tR.to (HB.trans (bb.mono HB.size)))
 have TR := Lib.hid (tS.to (HB.trans (bb.mono HB.size)))
 obtain ⟨g1, g2, g3, g4, g5⟩ := tR.to (HB.trans (bb.mono HB.size))
 obtain ⟨k1, k2, k3, k4, k5⟩ := tS.to (HB.trans (bb.mono HB.size))
 clear v1 bb HB O2' S1 tX tY tR tS
 go_wp2
 have tF := TQ.out.set (.bool (decide (q < 0))) (.slice A9 (dig b32 q.natAbs).length c9)
 have K1 := Kept.of TQ.out (fun n e => by cases e) (fun n e => by cases e) (.bool (decide (q < 0))) (.slice A9 (dig b32 q.natAbs).length c9)
 have tG0 := K1.two _ _ _ (by omega) TR.out
 have tG := tG0.set (.bool (decide (r < 0))) (.slice A10 (dig b32 r.natAbs).length c10)
 have K2 := Kept.of tG0 (fun n e => by cases e) (fun n e => by cases e) (.bool (decide (r < 0))) (.slice A10 (dig b32 r.natAbs).length c10)
 have tH := K2.two _ _ _ (by omega) tF
 refine bodyPost_ret (v := .tuple #[.agg #[.bool (decide (q < 0)), .slice A9 (dig b32 q.natAbs).length c9], .agg #[.bool (decide (r < 0)), .slice A10 (dig b32 r.natAbs).length c10], .int .i64 0])
  (by simp [results, Tryz.f108, go_sem, tH.c0, tH.c1, tG.c0, tG.c1]) rfl ?_
 have ZQ : Zc V6 (.bool (decide (q < 0))) (.slice A9 (dig b32 q.natAbs).length c9) q := ⟨A9, c9, rfl, rfl, S3.out, s2, s3⟩
 have ZR' : Zc V6 (.bool (decide (r < 0))) (.slice A10 (dig b32 r.natAbs).length c10) r := ⟨A10, c10, rfl, rfl, V3'.out, v2, v3⟩
 rw [eX.out, eY.out, eQ.out, eR.out, eq.out, er.out]
 exact ⟨_, _, _, _, rfl, K2.zc _ _ _ (K1.zc _ _ _ ZQ), K2.zc _ _ _ (K1.zc _ _ _ ZR'), K2.bel _ _ (K1.bel _ _ HBF.out (by omega)) (by omega)⟩
theorem rDiv_r (m : Bool) {A A' : Option Addr} {c c' : Nat} {xs ys : List Nat} {w : World} (hx : Arg w A c xs) (sx : xs.length <= 10000) (hy : Arg w A' c' ys) (sy : ys.length <= 10000) (h0 : 0 < val b32 ys) (hr : 0 < val b32 xs % val b32 ys) :
  Calls Tryz.prog 108 #[.agg #[.bool true, .slice A xs.length c], .agg #[.bool m, .slice A' ys.length c']] w (ZZ w (zof (!m) (val b32 xs / val b32 ys + 1)) (zof false (val b32 ys - val b32 xs % val b32 ys))) := by
 obtain ⟨W0, hW0⟩ : ∃ W0, W0 = ((((w.alloc (.cells #[.bool true, .slice A xs.length c] 24)).alloc (.cells #[.bool m, .slice A' ys.length c'] 24)).alloc (.cells #[.bool false, .slice none 0 0] 24)).alloc (.cells #[.bool false, .slice none 0 0] 24)) := ⟨_, rfl⟩
 have hb : Below w.heap.size w W0 := by rw [hW0]; exact ((((Below.refl _ _).alloc (Nat.le_refl _) _).alloc (by simp) _).alloc (by simp; omega) _).alloc (by simp; omega) _
 have tX : Two W0 (w.heap.size) (.bool true) (.slice A xs.length c) := by
  have h := Two.new w (.bool true) (.slice A xs.length c) 24
  rw [hW0]; exact (((h.alloc _).alloc _).alloc _)
 have tY : Two W0 (w.heap.size + 1) (.bool m) (.slice A' ys.length c') := by
  have h := Two.new (w.alloc (.cells #[.bool true, .slice A xs.length c] 24)) (.bool m) (.slice A' ys.length c') 24
  rw [World.size_alloc] at h
  rw [hW0]; exact ((h.alloc _).alloc _)
 have tR : Two W0 (w.heap.size + 1 + 1) (.bool false) (.slice none 0 0) := by
  have h := Two.new ((w.alloc (.cells #[.bool true, .slice A xs.length c] 24)).alloc (.cells #[.bool m, .slice A' ys.length c'] 24)) (.bool false) (.slice none 0 0) 24
  rw [World.size_alloc, World.size_alloc] at h
  rw [hW0]; exact (h.alloc _)
 have tS : Two W0 (w.heap.size + 1 + 1 + 1) (.bool false) (.slice none 0 0) := by
  have h := Two.new (((w.alloc (.cells #[.bool true, .slice A xs.length c] 24)).alloc (.cells #[.bool m, .slice A' ys.length c'] 24)).alloc (.cells #[.bool false, .slice none 0 0] 24)) (.bool false) (.slice none 0 0) 24
  rw [World.size_alloc, World.size_alloc, World.size_alloc] at h
  rw [hW0]; exact h
 have HW0 := Lib.hid hW0
 have HB0 := Lib.hid hb
 have HX := Lib.hid hx
 have HY := Lib.hid hy
 have hBW : w.heap.size + 1 + 1 <= W0.heap.size := by rw [hW0]; simp
 have Dsx : val b32 xs < b16 ^ (2 * xs.length) := by rw [<- pow_2k]; exact val_lt hx.dg
 have Dsy : val b32 ys < b16 ^ (2 * ys.length) := by rw [<- pow_2k]; exact val_lt hy.dg
 clear hW0 hb hx hy
 go_enter Tryz.func108, Tryz.ntmps108
 go_wp2_with fail
 rw [<- HW0.out]
 refine wp_region_plan (S := fun w' => Below (w.heap.size + 1 + 1) W0 w') [(0, true), (1, true), (3, true), (4, true), (2, false), (5, false), (6, true), (7, true)] (by kernel_rfl) (by kernel_rfl) (Below.refl _ _).drew ?_
 have HB := (Below.refl W0.heap.size W0).drew
 repeat (refine plan_take (v := ?_) rfl (by rfl) ?_ ?_; rotate_left; (focus (intro w' hS; have k0 := (tX.toB hS (by omega)).c0; have k1 := (tX.toB hS (by omega)).c1; have k2 := (tY.toB hS (by omega)).c0; have k3 := (tY.toB hS (by omega)).c1; go_simp; try with_reducible rfl)); simp only [Act.put, List.setIfInBounds_toArray, List.set_cons_zero, List.set_cons_succ])
 refine plan_call rfl (by rfl) (fun K hK => ?_)
 go_simp
 refine (halves_r (HX.out.to (HB0.out.trans (HB.mono HB0.out.size)))).mono ?_
 rintro e V ⟨A1, c1, rfl, r1, l1, m1, bb⟩
 replace HB := HB.trans (bb.mono HB.size)
 have H1 := Hr.of_ret r1 l1 m1 Dsx (by omega)
 clear r1 l1 m1 bb
 refine hK.out _ _ (HB.mono hBW) ?_
 clear hK K
 refine plan_call rfl (by rfl) (fun K hK => ?_)
 go_simp
 refine (halves_r (HY.out.to (HB0.out.trans (HB.mono HB0.out.size)))).mono ?_
 rintro e V ⟨A2, c2, rfl, r1, l1, m1, bb⟩
 replace HB := HB.trans (bb.mono HB.size)
 have H2 := Hr.of_ret r1 l1 m1 Dsy (by omega)
 replace H1 := H1.to bb
 clear r1 l1 m1 bb
 refine hK.out _ _ (HB.mono hBW) ?_
 clear hK K
 repeat (refine plan_take (v := ?_) rfl (by rfl) ?_ ?_; rotate_left; (focus (intro w' hS; have k0 := (tX.toB hS (by omega)).c0; have k1 := (tX.toB hS (by omega)).c1; have k2 := (tY.toB hS (by omega)).c0; have k3 := (tY.toB hS (by omega)).c1; go_simp; try with_reducible rfl)); simp only [Act.put, List.setIfInBounds_toArray, List.set_cons_zero, List.set_cons_succ])
 refine plan_done ?_
 have l1 : (dig b16 (val b32 xs)).length <= 100000 := Nat.le_trans (dig_length_le b16_one Dsx) (by omega)
 have l2 : (dig b16 (val b32 ys)).length <= 100000 := Nat.le_trans (dig_length_le b16_one Dsy) (by omega)
 have HD := div_r H1 H2 l1 l2 h0
 have hQ : val b32 xs / val b32 ys < b16 ^ (2 * xs.length) := Nat.lt_of_le_of_lt (Nat.div_le_self _ _) Dsx
 have hRY := Nat.mod_lt (val b32 xs) h0
 have hly : 0 < (dig b16 (val b32 ys)).length := by
  refine Nat.pos_of_ne_zero fun h => ?_
  rw [dig_len0 b16_one] at h; omega
 clear l1 l2
 obtain ⟨X, eX⟩ : ∃ X, Hid (val b32 xs = X) := ⟨_, rfl⟩
 obtain ⟨Y, eY⟩ : ∃ Y, Hid (val b32 ys = Y) := ⟨_, rfl⟩
 obtain ⟨Q, eQ⟩ : ∃ Q, Hid (X / Y = Q) := ⟨_, rfl⟩
 obtain ⟨R, eR⟩ : ∃ R, Hid (X % Y = R) := ⟨_, rfl⟩
 rw [eX.out, eY.out, eR.out] at hr
 rw [eX.out, eY.out, eQ.out, eR.out] at HD
 rw [eX.out, eY.out, eQ.out] at hQ
 rw [eX.out, eY.out, eR.out] at hRY
 rw [eX.out] at H1 ⊢
 rw [eY.out] at H2 hly Dsy ⊢
 clear h0
 have hly' : (0 : Int) < ((dig b16 Y).length : Int) := by omega
 have hlz : (((dig b16 Y).length : Int) == 0) = false := by rw [beq_eq_false_iff_ne]; omega
 have hlr : 0 < (dig b16 R).length := by
  refine Nat.pos_of_ne_zero fun h => ?_
  rw [dig_len0 b16_one] at h; omega
 have hlr' : (0 : Int) < ((dig b16 R).length : Int) := by omega
 have FR := Lib.hid (show R <= Y /\ Y - R < b16 ^ (2 * ys.length) from ⟨by omega, by omega⟩)
 have FQ : Hid (Q + 1 < b16 ^ (2 * xs.length + 1)) := by
  show _ < _
  rw [Nat.pow_succ]
  have h2 : b16 ^ (2 * xs.length) * 2 <= b16 ^ (2 * xs.length) * b16 := Nat.mul_le_mul_left _ (by decide)
  omega
 clear hlr
 have HD2 := Lib.hid HD
 have HHY := Lib.hid H2
 have FF := Lib.hid (show Q < b16 ^ (2 * xs.length) /\ R < b16 ^ (2 * ys.length) from ⟨hQ, by omega⟩)
 clear HD H1 H2 hQ hRY Dsx Dsy HX HY hly
 go_wp2_with fail
 refine HD2.out.mono ?_
 rintro e V2 ⟨A5, c5, A6, c6, rfl, q1, q2, q3, z1, z2, z3, bb⟩
 have H5 := Lib.hid (Hr.of_ret q1 q2 q3 FF.out.1 (by omega))
 have H6 := Lib.hid (Hr.of_ret z1 z2 z3 FF.out.2 (by omega))
 have HY2 := Lib.hid (HHY.out.to bb)
 replace HB := HB.trans (bb.mono HB.size)
 clear q1 q2 q3 z1 z2 z3 bb HD2 HHY
 have k1 := (tX.to HB).c0
 have k2 := (tX.to HB).c1
 have k3 := (tY.to HB).c0
 have k4 := (tY.to HB).c1
 go_wp2_with fail
 clear k1 k2 k3 k4
 have hn1 := @unit_new V2
 have ha := add_r (H5.out.to hn1.2) hn1.1
 rw [one_len] at ha
 refine ha.mono ?_
 rintro e V3 ⟨A7, c7, rfl, z1, z2, z3, bb⟩
 have H7 := Lib.hid (Hr.of_ret z1 z2 z3 FQ.out (by omega))
 have bb2 := hn1.2.trans (bb.mono hn1.2.size)
 have H6' := Lib.hid (H6.out.to bb2)
 have HY3 := Lib.hid (HY2.out.to bb2)
 replace HB := HB.trans (bb2.mono HB.size)
 clear z1 z2 z3 bb bb2 H5 H6 HY2 ha hn1
 go_wp2_with fail
 refine (sub_r HY3.out H6'.out FR.out.1).mono ?_
 rintro e V4 ⟨A8, c8, rfl, z1, z2, z3, bb⟩
 have H8 := Lib.hid (Hr.of_ret z1 z2 z3 FR.out.2 (by omega))
 have H9 := Lib.hid (H7.out.to bb)
 replace HB := HB.trans (bb.mono HB.size)
 clear z1 z2 z3 bb H6' H7 HY3
 have k1 := (tX.to HB).c0
 have k2 := (tX.to HB).c1
 have k3 := (tY.to HB).c0
 have k4 := (tY.to HB).c1
 go_wp2_with fail
 clear k1 k2 k3 k4
 obtain ⟨q, eq⟩ : ∃ q : Int, Hid (zof (!m) (Q + 1) = q) := ⟨_, rfl⟩
 obtain ⟨r, er⟩ : ∃ r : Int, Hid (zof false (Y - R) = r) := ⟨_, rfl⟩
 have O1 := of_r (!m) H9.out
 rw [eq.out] at O1
 refine O1.mono ?_
 rintro e V5 ⟨xq, yq, rfl, rq, bb⟩
 obtain ⟨A9, c9, rfl, rfl, s1, s2, s3⟩ := rq
 have O2 := of_r false (H8.out.to bb)
 rw [er.out] at O2
 have O2' := Lib.hid O2
 have S1 := Lib.hid s1
 replace HB := HB.trans (bb.mono HB.size)
 clear O1 O2 s1 bb H9 H8
 go_wp2_with fail
 refine O2'.out.mono ?_
 rintro e V6 ⟨xr, yr, rfl, rr, bb⟩
 obtain ⟨A10, c10, rfl, rfl, v1, v2, v3⟩ := rr
 have S3 := Lib.hid (S1.out.to bb)
 have V3' := Lib.hid v1
 have HBF := Lib.hid (HB0.out.trans ((HB.trans (bb.mono HB.size)).mono HB0.out.size))
 have TQ := Lib.hid (tR.to (HB.trans (bb.mono HB.size)))
 have TR := Lib.hid (tS.to (HB.trans (bb.mono HB.size)))
 obtain ⟨g1, g2, g3, g4, g5⟩ := tR.to (HB.trans (bb.mono HB.size))
 obtain ⟨k1, k2, k3, k4, k5⟩ := tS.to (HB.trans (bb.mono HB.size))
 clear v1 bb HB O2' S1 tX tY tR tS
 go_wp2
 have tF := TQ.out.set (.bool (decide (q < 0))) (.slice A9 (dig b32 q.natAbs).length c9)
 have K1 := Kept.of TQ.out (fun n e => by cases e) (fun n e => by cases e) (.bool (decide (q < 0))) (.slice A9 (dig b32 q.natAbs).length c9)
 have tG0 := K1.two _ _ _ (by omega) TR.out
 have tG := tG0.set (.bool (decide (r < 0))) (.slice A10 (dig b32 r.natAbs).length c10)
 have K2 := Kept.of tG0 (fun n e => by cases e) (fun n e => by cases e) (.bool (decide (r < 0))) (.slice A10 (dig b32 r.natAbs).length c10)
 have tH := K2.two _ _ _ (by omega) tF
 refine bodyPost_ret (v := .tuple #[.agg #[.bool (decide (q < 0)), .slice A9 (dig b32 q.natAbs).length c9], .agg #[.bool (decide (r < 0)), .slice A10 (dig b32 r.natAbs).length c10], .int .i64 0])
  (by simp [results, Tryz.f108, go_sem, tH.c0, tH.c1, tG.c0, tG.c1]) rfl ?_
 have ZQ : Zc V6 (.bool (decide (q < 0))) (.slice A9 (dig b32 q.natAbs).length c9) q := ⟨A9, c9, rfl, rfl, S3.out, s2, s3⟩
 have ZR' : Zc V6 (.bool (decide (r < 0))) (.slice A10 (dig b32 r.natAbs).length c10) r := ⟨A10, c10, rfl, rfl, V3'.out, v2, v3⟩
 rw [eX.out, eY.out, eQ.out, eR.out, eq.out, er.out]
 exact ⟨_, _, _, _, rfl, K2.zc _ _ _ (K1.zc _ _ _ ZQ), K2.zc _ _ _ (K1.zc _ _ _ ZR'), K2.bel _ _ (K1.bel _ _ HBF.out (by omega)) (by omega)⟩
theorem rDiv_0 (m : Bool) {A A' : Option Addr} {c c' : Nat} {xs ys : List Nat} {w : World} (hx : Arg w A c xs) (sx : xs.length <= 10000) (hy : Arg w A' c' ys) (sy : ys.length <= 10000) (n : Bool) (h0 : val b32 ys = 0) :
  Calls Tryz.prog 108 #[.agg #[.bool n, .slice A xs.length c], .agg #[.bool m, .slice A' ys.length c']] w fun e w' => e = .returned (.tuple #[.agg #[.bool false, .slice none 0 0], .agg #[.bool false, .slice none 0 0], .int .i64 7]) /\ Below w.heap.size w w' := by
 obtain ⟨W0, hW0⟩ : ∃ W0, W0 = ((((w.alloc (.cells #[.bool n, .slice A xs.length c] 24)).alloc (.cells #[.bool m, .slice A' ys.length c'] 24)).alloc (.cells #[.bool false, .slice none 0 0] 24)).alloc (.cells #[.bool false, .slice none 0 0] 24)) := ⟨_, rfl⟩
 have hb : Below w.heap.size w W0 := by rw [hW0]; exact ((((Below.refl _ _).alloc (Nat.le_refl _) _).alloc (by simp) _).alloc (by simp; omega) _).alloc (by simp; omega) _
 have tX : Two W0 (w.heap.size) (.bool n) (.slice A xs.length c) := by
  have h := Two.new w (.bool n) (.slice A xs.length c) 24
  rw [hW0]; exact (((h.alloc _).alloc _).alloc _)
 have tY : Two W0 (w.heap.size + 1) (.bool m) (.slice A' ys.length c') := by
  have h := Two.new (w.alloc (.cells #[.bool n, .slice A xs.length c] 24)) (.bool m) (.slice A' ys.length c') 24
  rw [World.size_alloc] at h
  rw [hW0]; exact ((h.alloc _).alloc _)
 have tR : Two W0 (w.heap.size + 1 + 1) (.bool false) (.slice none 0 0) := by
  have h := Two.new ((w.alloc (.cells #[.bool n, .slice A xs.length c] 24)).alloc (.cells #[.bool m, .slice A' ys.length c'] 24)) (.bool false) (.slice none 0 0) 24
  rw [World.size_alloc, World.size_alloc] at h
  rw [hW0]; exact (h.alloc _)
 have tS : Two W0 (w.heap.size + 1 + 1 + 1) (.bool false) (.slice none 0 0) := by
  have h := Two.new (((w.alloc (.cells #[.bool n, .slice A xs.length c] 24)).alloc (.cells #[.bool m, .slice A' ys.length c'] 24)).alloc (.cells #[.bool false, .slice none 0 0] 24)) (.bool false) (.slice none 0 0) 24
  rw [World.size_alloc, World.size_alloc, World.size_alloc] at h
  rw [hW0]; exact h
 have HW0 := Lib.hid hW0
 have HB0 := Lib.hid hb
 have HX := Lib.hid hx
 have HY := Lib.hid hy
 have hBW : w.heap.size + 1 + 1 <= W0.heap.size := by rw [hW0]; simp
 have Dsx : val b32 xs < b16 ^ (2 * xs.length) := by rw [<- pow_2k]; exact val_lt hx.dg
 have Dsy : val b32 ys < b16 ^ (2 * ys.length) := by rw [<- pow_2k]; exact val_lt hy.dg
 clear hW0 hb hx hy
 go_enter Tryz.func108, Tryz.ntmps108
 go_wp2_with fail
 rw [<- HW0.out]
 refine wp_region_plan (S := fun w' => Below (w.heap.size + 1 + 1) W0 w') [(0, true), (1, true), (3, true), (4, true), (2, false), (5, false), (6, true), (7, true)] (by kernel_rfl) (by kernel_rfl) (Below.refl _ _).drew ?_
 have HB := (Below.refl W0.heap.size W0).drew
 repeat (refine plan_take (v := ?_) rfl (by rfl) ?_ ?_; rotate_left; (focus (intro w' hS; have k0 := (tX.toB hS (by omega)).c0; have k1 := (tX.toB hS (by omega)).c1; have k2 := (tY.toB hS (by omega)).c0; have k3 := (tY.toB hS (by omega)).c1; go_simp; try with_reducible rfl)); simp only [Act.put, List.setIfInBounds_toArray, List.set_cons_zero, List.set_cons_succ])
 refine plan_call rfl (by rfl) (fun K hK => ?_)
 go_simp
 refine (halves_r (HX.out.to (HB0.out.trans (HB.mono HB0.out.size)))).mono ?_
 rintro e V ⟨A1, c1, rfl, r1, l1, m1, bb⟩
 replace HB := HB.trans (bb.mono HB.size)
 have H1 := Hr.of_ret r1 l1 m1 Dsx (by omega)
 clear r1 l1 m1 bb
 refine hK.out _ _ (HB.mono hBW) ?_
 clear hK K
 refine plan_call rfl (by rfl) (fun K hK => ?_)
 go_simp
 refine (halves_r (HY.out.to (HB0.out.trans (HB.mono HB0.out.size)))).mono ?_
 rintro e V ⟨A2, c2, rfl, r1, l1, m1, bb⟩
 replace HB := HB.trans (bb.mono HB.size)
 have H2 := Hr.of_ret r1 l1 m1 Dsy (by omega)
 replace H1 := H1.to bb
 clear r1 l1 m1 bb
 refine hK.out _ _ (HB.mono hBW) ?_
 clear hK K
 repeat (refine plan_take (v := ?_) rfl (by rfl) ?_ ?_; rotate_left; (focus (intro w' hS; have k0 := (tX.toB hS (by omega)).c0; have k1 := (tX.toB hS (by omega)).c1; have k2 := (tY.toB hS (by omega)).c0; have k3 := (tY.toB hS (by omega)).c1; go_simp; try with_reducible rfl)); simp only [Act.put, List.setIfInBounds_toArray, List.set_cons_zero, List.set_cons_succ])
 refine plan_done ?_
 rw [h0] at H2 ⊢
 have hl0 : (dig b16 0).length = 0 := by rw [dig_zero]; rfl
 have HE := Lib.hid (HB0.out.trans (HB.mono HB0.out.size))
 have TQ := Lib.hid (tR.to HB)
 have TR := Lib.hid (tS.to HB)
 obtain ⟨g1, g2, g3, g4, g5⟩ := tR.to HB
 obtain ⟨k1, k2, k3, k4, k5⟩ := tS.to HB
 clear HB tX tY tR tS H1 H2 Dsx Dsy h0 HX HY
 go_wp2
 have tF := TQ.out.set (.bool false) (.slice none 0 0)
 have K1 := Kept.of TQ.out (fun n e => by cases e) (fun n e => by cases e) (.bool false) (.slice none 0 0)
 have tG0 := K1.two _ _ _ (by omega) TR.out
 have tG := tG0.set (.bool false) (.slice none 0 0)
 have K2 := Kept.of tG0 (fun n e => by cases e) (fun n e => by cases e) (.bool false) (.slice none 0 0)
 have tH := K2.two _ _ _ (by omega) tF
 refine bodyPost_ret (v := .tuple #[.agg #[.bool false, .slice none 0 0], .agg #[.bool false, .slice none 0 0], .int .i64 7])
  (by simp [results, Tryz.f108, go_sem, tH.c0, tH.c1, tG.c0, tG.c1]) rfl ?_
 exact ⟨rfl, K2.bel _ _ (K1.bel _ _ HE.out (by omega)) (by omega)⟩
theorem ediv_one {a b q r : Int} (hb : b ≠ 0) (h : a = q * b + r) (h0 : 0 <= r) (h1 : r < b.natAbs) : a / b = q /\ a % b = r := by
 have h2 := Int.emod_add_mul_ediv a b
 have h5 : a % b = r := by
  rw [h, Int.add_comm, Int.mul_comm, Int.add_mul_emod_self_left]
  rcases Int.lt_or_le b 0 with hn | hp
  .rw [<- Int.emod_neg, Int.emod_eq_of_lt h0 (by omega)]
  .rw [Int.emod_eq_of_lt h0 (by omega)]
 refine ⟨?_, h5⟩
 have h6 : b * (a / b) = b * q := by rw [Int.mul_comm b q]; omega
 exact Int.eq_of_mul_eq_mul_left hb h6
theorem zdiv_f {X Y : Nat} (m : Bool) (hY : 0 < Y) : zof false X / zof m Y = zof m (X / Y) /\ zof false X % zof m Y = zof false (X % Y) := by
 have h1 := Nat.mod_add_div X Y
 have h2 := Nat.mod_lt X hY
 obtain ⟨q, eq⟩ : ∃ q, X / Y = q := ⟨_, rfl⟩
 obtain ⟨r, er⟩ : ∃ r, X % Y = r := ⟨_, rfl⟩
 rw [eq, er] at h1 ⊢
 rw [er] at h2
 have h3 : (X : Int) = (q : Int) * (Y : Int) + (r : Int) := by rw [<- h1, Int.mul_comm]; push_cast; omega
 cases m
 .exact ediv_one (by simp [zof]; omega) (by simpa [zof] using h3) (by simp [zof]) (by simp [zof]; omega)
 .exact ediv_one (by simp [zof]; omega) (by simp only [zof, if_true, Bool.false_eq_true, if_false, Int.neg_mul, Int.mul_neg]; omega) (by simp [zof]) (by simp [zof]; omega)
theorem zdiv_t {X Y : Nat} (m : Bool) (hY : 0 < Y) (hr : X % Y = 0) : zof true X / zof m Y = zof (!m) (X / Y) /\ zof true X % zof m Y = zof false 0 := by
 have h1 := Nat.mod_add_div X Y
 obtain ⟨q, eq⟩ : ∃ q, X / Y = q := ⟨_, rfl⟩
 rw [hr, eq] at h1
 rw [eq]
 have h3 : (X : Int) = (q : Int) * (Y : Int) := by rw [<- h1, Int.mul_comm]; push_cast; omega
 cases m
 .exact ediv_one (by simp [zof]; omega) (by simp only [zof, if_true, Bool.false_eq_true, if_false, Int.neg_mul, Int.mul_neg, Bool.not_false]; omega) (by simp [zof]) (by simp [zof]; omega)
 .exact ediv_one (by simp [zof]; omega) (by simp only [zof, if_true, Bool.false_eq_true, if_false, Int.neg_mul, Int.mul_neg, Bool.not_true]; omega) (by simp [zof]) (by simp [zof]; omega)
theorem zdiv_r {X Y : Nat} (m : Bool) (hY : 0 < Y) (hr : 0 < X % Y) : zof true X / zof m Y = zof (!m) (X / Y + 1) /\ zof true X % zof m Y = zof false (Y - X % Y) := by
 have h1 := Nat.mod_add_div X Y
 have h2 := Nat.mod_lt X hY
 obtain ⟨q, eq⟩ : ∃ q, X / Y = q := ⟨_, rfl⟩
 obtain ⟨r, er⟩ : ∃ r, X % Y = r := ⟨_, rfl⟩
 rw [eq, er] at h1 ⊢
 rw [er] at h2 hr
 have h3 : (X : Int) = (q : Int) * (Y : Int) + (r : Int) := by rw [<- h1, Int.mul_comm]; push_cast; omega
 cases m
 .exact ediv_one (by simp [zof]; omega) (by simp only [zof, if_true, Bool.false_eq_true, if_false, Int.neg_mul, Int.mul_neg, Bool.not_false]; push_cast [Nat.le_of_lt h2]; rw [Int.add_mul]; omega) (by simp [zof]) (by simp [zof]; omega)
 .exact ediv_one (by simp [zof]; omega) (by simp only [zof, if_true, Bool.false_eq_true, if_false, Int.neg_mul, Int.mul_neg, Bool.not_true]; push_cast [Nat.le_of_lt h2]; rw [Int.add_mul]; omega) (by simp [zof]) (by simp [zof]; omega)
theorem rdiv_z {w : World} {x y x' y' : Value} {a b : Int} (ha : Zl w x y a) (hb : Zl w x' y' b) (hb0 : b ≠ 0) : Calls Tryz.prog 108 #[.agg #[x, y], .agg #[x', y']] w (ZZ w (a / b) (a % b)) := by
 obtain ⟨n, A, c, xs, rfl, rfl, h3, h4, rfl⟩ := ha
 obtain ⟨m, B, d, ys, rfl, rfl, k3, k4, rfl⟩ := hb
 have hY : 0 < val b32 ys := Nat.pos_of_ne_zero fun e => hb0 (by rw [e]; cases m <;> simp [zof])
 cases n
 .rw [(zdiv_f m hY).1, (zdiv_f m hY).2]
  exact rDiv_f m h3 h4 k3 k4 hY
 .rcases Nat.eq_zero_or_pos (val b32 xs % val b32 ys) with hr | hr
  .have h := rDiv_z m h3 h4 k3 k4 hY hr
   rw [(zdiv_t m hY hr).1, (zdiv_t m hY hr).2]
   rwa [hr] at h
  .rw [(zdiv_r m hY hr).1, (zdiv_r m hY hr).2]
   exact rDiv_r m h3 h4 k3 k4 hY hr
theorem rdiv_z0 {w : World} {x y x' y' : Value} {a : Int} (ha : Zl w x y a) (hb : Zl w x' y' 0) : Calls Tryz.prog 108 #[.agg #[x, y], .agg #[x', y']] w (fun e w' => e = .returned (.tuple #[.agg #[.bool false, .slice none 0 0], .agg #[.bool false, .slice none 0 0], .int .i64 7]) /\ Below w.heap.size w w') := by
 obtain ⟨n, A, c, xs, rfl, rfl, h3, h4, rfl⟩ := ha
 obtain ⟨m, B, d, ys, rfl, rfl, k3, k4, h0⟩ := hb
 exact rDiv_0 m h3 h4 k3 k4 n (by cases m <;> simp [zof] at h0 <;> omega)
end Go.Proofs.YtcgdbdhhoomgiaaGreat
