/- Parts: 10. -/
import Derived.Test.YtcgdbdhhoomgiabGreatVb3
import Derived.Test.YtcgdbdhhoomgiabGreatVb4
import Derived.Deep.RegionHeld3
import Derived.Laws.EntriesVeiled
set_option linter.unusedVariables false
set_option linter.unusedSimpArgs false
set_option maxRecDepth 100000
set_option maxHeartbeats 40000000

namespace Go.Proofs.YtcgdbdhhoomgiabGreat
open Go.RowKit Go.Shelf

theorem multiplier_any (f : Nat) (w : World) :
    Calls Tryz.prog 109 #[.int .u32 (f : Nat), .int .u32 0] w fun e w' => e = .returned (.func (.func 121) #[] #[.pointer (some ⟨w.heap.size, 0, none⟩), .pointer (some ⟨w.heap.size + 1, 0, none⟩)]) /\
      w' = (w.alloc (.cells #[.int .u32 (f : Nat)] 75)).alloc (.cells #[.int .u64 0] 73) := by
  go_enter Tryz.func109, Tryz.ntmps109
  go_wp2
  go_ret
  exact ⟨rfl, rfl⟩

theorem multiplier1_any (f u v r Bf Br : Nat) (w : World) (hf : f < 4294967296) (hu : u < 4294967296) (hv : v < 4294967296) (hr : r < 4294967296)
    (cf : w.cell? ⟨Bf, 0, none⟩ = some (.int .u32 (f : Nat))) (cr : w.cell? ⟨Br, 0, none⟩ = some (.int .u64 (r : Nat))) (fr : w.frozen? ⟨Br, 0, none⟩ = false) :
    Calls Tryz.prog 121 #[.int .u32 (u : Nat), .int .u32 (v : Nat), .pointer (some ⟨Bf, 0, none⟩), .pointer (some ⟨Br, 0, none⟩)] w fun e w' =>
      e = .returned (.int .u32 ((f * u + v + r) % 4294967296 : Nat)) /\ w' = w.setCell ⟨Br, 0, none⟩ (.int .u64 ((f * u + v + r) / 4294967296 : Nat)) := by
  have hlt := carry_lt hf hu hv hr
  have hp : (f : Int) * (u : Int) = ((f * u : Nat) : Int) := by simp
  obtain ⟨p, ep⟩ : ∃ p, f * u = p := ⟨_, rfl⟩
  rw [ep] at hlt hp ⊢
  have E1 : Hid (((p + v + r) % 4294967296 : Nat) = ((p : Int) + (v : Int) + (r : Int)) % 4294967296) := by show _ = _; omega
  have E2 : Hid (((p + v + r) / 4294967296 : Nat) = ((p : Int) + (v : Int) + (r : Int)) / 4294967296) := by show _ = _; omega
  have W1 : IntKind.u64.wrap (f : Int) = (f : Int) := by rw [IntKind.wrap_u64]; omega
  have W2 : IntKind.u64.wrap (u : Int) = (u : Int) := by rw [IntKind.wrap_u64]; omega
  have W3 : IntKind.u64.wrap (v : Int) = (v : Int) := by rw [IntKind.wrap_u64]; omega
  have W4 : IntKind.u64.wrap (p : Int) = (p : Int) := by rw [IntKind.wrap_u64]; omega
  have W5 : IntKind.u64.wrap ((p : Int) + (v : Int)) = (p : Int) + (v : Int) := by rw [IntKind.wrap_u64]; omega
  have W6 : IntKind.u64.wrap ((p : Int) + (v : Int) + (r : Int)) = (p : Int) + (v : Int) + (r : Int) := by rw [IntKind.wrap_u64]; omega
  have W7 : IntKind.u64.wrap (((p : Int) + (v : Int) + (r : Int)) / 4294967296) = ((p : Int) + (v : Int) + (r : Int)) / 4294967296 := by rw [IntKind.wrap_u64]; omega
  have W8 : IntKind.u32.wrap ((p : Int) + (v : Int) + (r : Int)) = ((p : Int) + (v : Int) + (r : Int)) % 4294967296 := by simp [IntKind.wrap, IntKind.bits, IntKind.signed]
  have HEP := Lib.hid ep
  clear ep hlt
  rw [E1.out, E2.out]
  go_enter Tryz.func121, Tryz.ntmps121
  go_wp2
  go_ret
  exact ⟨rfl, rfl⟩

theorem Buf.from_own {kd : IntKind} {w : World} {base : Nat} {e : TypeId} {g n cap : Nat} {xs : List Nat} (hn : xs.length = n) (h : w.ownsRow base e 1 (.slice (some ⟨g, 0, none⟩) n cap) n (ints kd xs)) : Buf kd e g cap xs w := by
  rcases h.2 with ⟨e, _⟩ | ⟨g', cap', cur, e, _, hg, h1, h2, h3, h4⟩
  · cases e
  · injection e with e1 e2 e3
    injection e1 with e1
    injection e1 with e1
    subst e1 e3 hn
    exact ⟨cur, hg, by omega, by rw [<- h4, Nat.mul_one]⟩

/-- Nothing stands from place n on. -/
def Zf (P : List Nat) (n : Nat) : Prop := ∀ j, n <= j -> P.getD j 0 = 0

theorem Zf.set {P : List Nat} {n j : Nat} (h : Zf P n) (hj : j < n) (v : Nat) : Zf (P.set j v) n := fun i hi => by rw [getD_set_other P v (by omega)]; exact h i hi

theorem multiply_any {A A' : Option Addr} {c c' : Nat} {xs ys : List Nat} {w : World} (hx : Arg w A c xs) (hy : Arg w A' c' ys) :
    Calls Tryz.prog 94 #[.slice A xs.length c, .slice A' ys.length c'] w fun e w' => ∃ A1 c1 ps, e = .returned (.slice A1 ps.length c1) /\ Rd .u32 w' w'.heap.size A1 ps /\ Dg b32 ps /\ val b32 ps = val b32 xs * val b32 ys /\
      ps.length = xs.length + ys.length /\ ps.length <= c1 /\ c1 <= 9223372036854775807 /\ Below w.heap.size w w' := by
  obtain ⟨i0, hi', hz0, hz1, hz2⟩ := info_parts infoWord
  have HX := Lib.hid hx
  have HY := Lib.hid hy
  have hxl := hx.small
  have hyl := hy.small
  clear hx hy
  obtain ⟨N, hN⟩ : ∃ N, xs.length + ys.length = N := ⟨_, rfl⟩
  have HN := Lib.hid hN
  go_enter Tryz.func94, Tryz.ntmps94
  go_wp2_with (at_make; refine wpList_make_full _ rfl _ _ 27 rfl w.heap.size 75 i0 (.int .u32 0) 1 Tryz.underlying27 hi' hz0 hz1 .i64 .i64 _ _ N rfl rfl (by omega) (by omega) (by rw [hz2]; omega) (by unfold maxLen; omega) (Nat.le_refl _) ?_; intro w4 hown4 hgrow4)
  have hb4 : Below w.heap.size w w4 := (Below.refl _ _).grown hgrow4 (Nat.le_refl _) (fun k e => by cases e)
  have hbuf4 : Buf .u32 75 w.heap.size N (List.replicate N 0) w4 := by
    refine Buf.from_own (base := w.heap.size) (xs := List.replicate N 0) (List.length_replicate ..) ?_
    have h := hown4
    rw [Nat.mul_one, show (Value.int .u32 0).cells = #[.int .u32 0] from rfl, toList_madeCells_one] at h
    simpa [ints] using h
  clear hown4 hgrow4
  go_loopw [19] (fun iv wr => ∃ (i : Nat) (P : List Nat), iv = .int .i64 i /\ i <= xs.length /\ P.length = N /\ Dg b32 P /\ Zf P (i + ys.length) /\ Hid (val b32 P = val b32 (xs.take i) * val b32 ys) /\ Buf .u32 75 w.heap.size N P wr /\ Below w.heap.size w wr)
    (fun iv _ => xs.length - (intOf iv).toNat)
  case atStart =>
    refine ⟨0, List.replicate N 0, rfl, Nat.zero_le _, by simp, ?_, ?_, ?_, hbuf4, hb4⟩
    · intro d hd
      rw [List.eq_of_mem_replicate hd]; decide
    · intro j _
      simp [List.getD, List.getElem?_replicate]
      split <;> rfl
    · show _ = _
      rw [val_zeros]; simp [val]
  case round =>
    obtain ⟨i, P, rfl, hi, hPl, hPd, hPz, HV, hbf, hb⟩ := hrel
    by_cases hlt : i < xs.length
    · obtain ⟨bx, ox, rfl, _, hcx⟩ := (HX.out.to hb).rd.at_ hlt
      have ex := hcx i hlt
      rw [<- getD_at hlt] at ex
      have hf := getD_dg (by decide) HX.out.dg i
      have HTK := Lib.hid (val_take_succ (b := b32) xs i)
      obtain ⟨f, ef⟩ : ∃ f, Hid (xs.getD i 0 = f) := ⟨_, rfl⟩
      rw [ef.out] at ex hf HTK
      have hs := hb.size
      have hPzH := Lib.hid hPz
      clear hcx hPz
      go_wp2_with fail
      refine (multiplier_any f _).mono ?_
      rintro e w5 ⟨rfl, ew5⟩
      have b1 : Boxed w5 wr.heap.size 75 (.int .u32 (f : Nat)) := by rw [ew5]; exact (Boxed.new wr _ _).alloc _
      have b2 : Boxed w5 (wr.heap.size + 1) 73 (.int .u64 (0 : Nat)) := by
        have h := Boxed.new (wr.alloc (.cells #[.int .u32 (f : Nat)] 75)) 73 (.int .u64 (0 : Nat))
        rw [World.size_alloc] at h
        rw [ew5]; exact h
      have hbf5 : Buf .u32 75 w.heap.size N P w5 := by rw [ew5]; exact (hbf.kept (World.grownBy_alloc _ _ none) (by simp)).kept (World.grownBy_alloc _ _ none) (by simp)
      have hb5 : Below w.heap.size w w5 := by rw [ew5]; exact (hb.alloc hs _).alloc (by simp; omega) _
      have hgl := hbf.lt
      obtain ⟨B, eB⟩ : ∃ B, wr.heap.size = B := ⟨_, rfl⟩
      rw [eB] at b1 b2 hgl ⊢
      have h0 : Hid (val b32 P + b32 ^ (i + 0) * 0 = val b32 (xs.take i) * val b32 ys + b32 ^ i * (f * val b32 (ys.take 0))) := by show _ = _; rw [HV.out]; simp [val]
      clear ew5 hbf hb hs eB HV ex
      go_wp2
      go_loopw [28] (fun kv wi => ∃ (k : Nat) (Q : List Nat) (r : Nat), kv = .int .i64 k /\ k <= ys.length /\ Q.length = N /\ Dg b32 Q /\ Hid (Zf Q (i + ys.length)) /\ r < b32 /\ Hid (val b32 Q + b32 ^ (i + k) * r = val b32 (xs.take i) * val b32 ys + b32 ^ i * (f * val b32 (ys.take k))) /\
          Buf .u32 75 w.heap.size N Q wi /\ Boxed wi B 75 (.int .u32 (f : Nat)) /\ Boxed wi (B + 1) 73 (.int .u64 (r : Nat)) /\ Below w.heap.size w wi)
        (fun kv _ => ys.length - (intOf kv).toNat)
      case atStart => exact ⟨0, P, 0, rfl, Nat.zero_le _, hPl, hPd, hPzH, by decide, h0, hbf5, b1, b2, hb5⟩
      case round =>
        obtain ⟨k, Q, r, rfl, hk, hQl, hQd, HZ, hr, HV, hbf, c1, c2, hb⟩ := hrel
        have hN2 := HN.out
        by_cases hkl : k < ys.length
        · obtain ⟨by_, oy, rfl, _, hcy⟩ := (HY.out.to hb).rd.at_ hkl
          have ey := hcy k hkl
          rw [<- getD_at hkl] at ey
          have hu := getD_dg (by decide) HY.out.dg k
          have hik : i + k < Q.length := by omega
          have ev := hbf.cell hik
          rw [<- getD_at hik] at ev
          have fv := hbf.frozen (i + k)
          have hv := getD_dg (by decide) hQd (i + k)
          have HTY := Lib.hid (val_take_succ (b := b32) ys k)
          obtain ⟨u, eu⟩ : ∃ u, Hid (ys.getD k 0 = u) := ⟨_, rfl⟩
          obtain ⟨v, hvv⟩ : ∃ v, Hid (Q.getD (i + k) 0 = v) := ⟨_, rfl⟩
          rw [eu.out] at ey hu HTY
          rw [hvv.out] at ev hv
          have HM := Lib.hid (mul_step (u := u) hik hvv.out HV.out)
          rw [<- HTY.out] at HM
          have hclt := carry_lt hf hu hv hr
          have hcar : (f * u + v + r) / b32 < b32 := by rw [Nat.div_lt_iff_lt_mul (by decide)]; exact hclt
          have hdig : (f * u + v + r) % b32 < b32 := Nat.mod_lt _ (by decide)
          have STEP := multiplier1_any f u v r B (B + 1) wr hf hu hv hr c1.cell c2.cell c2.frozen
          rw [show (4294967296 : Nat) = b32 from rfl] at STEP
          obtain ⟨t, et⟩ : ∃ t, (f * u + v + r) % b32 = t := ⟨_, rfl⟩
          obtain ⟨r', er⟩ : ∃ r', (f * u + v + r) / b32 = r' := ⟨_, rfl⟩
          rw [et] at STEP HM hdig
          rw [er] at STEP HM hcar
          have d1 := hbf.kept (grownBy_setCell' wr (B + 1) (.int .u64 (r' : Nat))) (by simp; omega)
          have d2 := c1.other (B' := B + 1) (by omega) (.int .u64 (r' : Nat))
          have d3 := c2.set (.int .u64 (r' : Nat))
          have hs := hb.size
          have d4 := hb.setCell (p := ⟨B + 1, 0, none⟩) (by show w.heap.size <= B + 1; omega) (.int .u64 (r' : Nat))
          have ev2 := d1.cell hik
          have fv2 := d1.frozen (i + k)
          have gs := grownBy_at (wr.setCell ⟨B + 1, 0, none⟩ (.int .u64 (r' : Nat))) w.heap.size (i + k) (.int .u32 (t : Nat))
          have FIN : Buf .u32 75 w.heap.size N (Q.set (i + k) t) ((wr.setCell ⟨B + 1, 0, none⟩ (.int .u64 (r' : Nat))).setCell ⟨w.heap.size, i + k, none⟩ (.int .u32 (t : Nat))) /\
              Boxed ((wr.setCell ⟨B + 1, 0, none⟩ (.int .u64 (r' : Nat))).setCell ⟨w.heap.size, i + k, none⟩ (.int .u32 (t : Nat))) B 75 (.int .u32 (f : Nat)) /\
              Boxed ((wr.setCell ⟨B + 1, 0, none⟩ (.int .u64 (r' : Nat))).setCell ⟨w.heap.size, i + k, none⟩ (.int .u32 (t : Nat))) (B + 1) 73 (.int .u64 (r' : Nat)) /\
              Below w.heap.size w ((wr.setCell ⟨B + 1, 0, none⟩ (.int .u64 (r' : Nat))).setCell ⟨w.heap.size, i + k, none⟩ (.int .u32 (t : Nat))) :=
            ⟨d1.set _ _, d2.kept gs (by simp; omega), d3.kept gs (by simp; omega), d4.setCell (p := ⟨w.heap.size, i + k, none⟩) (Nat.le_refl _) _⟩
          have FINH := Lib.hid FIN
          have STEPH := Lib.hid STEP
          have hi0 : (0 : Int) <= (i : Int) + (k : Int) := by omega
          have hi1 : (i : Int) + (k : Int) < (N : Int) := by omega
          obtain ⟨o, HO⟩ : ∃ o, Q[i + k] = o := ⟨_, rfl⟩
          rw [HO] at ev2
          clear FIN STEP d1 d2 d3 d4 gs et er hcy hclt HO hbf c1 c2 hb hN2
          go_wp2_with fail
          refine STEPH.out.mono ?_
          rintro e w' ⟨rfl, rfl⟩
          clear STEPH
          go_wp2
          go_roundw
          case rel => exact ⟨k + 1, Q.set (i + k) t, r', by simp, by omega, by rw [List.length_set]; exact hQl, hQd.set _ hdig, HZ.out.set (by omega) _, hcar, HM, FINH.out.1, FINH.out.2.1, FINH.out.2.2.1, FINH.out.2.2.2⟩
          case measure => simp [intOf]; omega
        · obtain rfl : k = ys.length := by omega
          have hik : i + ys.length < Q.length := by omega
          have ev := hbf.cell hik
          have hz0 : Q.getD (i + ys.length) 0 = 0 := HZ.out _ (Nat.le_refl _)
          have HL := Lib.hid (mul_last hik hz0 HV.out)
          rw [List.take_of_length_le (Nat.le_refl _)] at HL
          have STEP := multiplier1_any f 0 0 r B (B + 1) wr hf (by decide) (by decide) hr c1.cell c2.cell c2.frozen
          have e1 : (f * 0 + 0 + r) % 4294967296 = r := by
            rw [Nat.mul_zero, Nat.add_zero, Nat.zero_add]
            exact Nat.mod_eq_of_lt hr
          rw [e1] at STEP
          obtain ⟨r', er⟩ : ∃ r', (f * 0 + 0 + r) / 4294967296 = r' := ⟨_, rfl⟩
          rw [er] at STEP
          have d1 := hbf.kept (grownBy_setCell' wr (B + 1) (.int .u64 (r' : Nat))) (by simp; omega)
          have d4 := hb.setCell (p := ⟨B + 1, 0, none⟩) (by show w.heap.size <= B + 1; omega) (.int .u64 (r' : Nat))
          have ev2 := d1.cell hik
          have fv2 := d1.frozen (i + ys.length)
          have FIN : Buf .u32 75 w.heap.size N (Q.set (i + ys.length) r) ((wr.setCell ⟨B + 1, 0, none⟩ (.int .u64 (r' : Nat))).setCell ⟨w.heap.size, i + ys.length, none⟩ (.int .u32 (r : Nat))) /\
              Below w.heap.size w ((wr.setCell ⟨B + 1, 0, none⟩ (.int .u64 (r' : Nat))).setCell ⟨w.heap.size, i + ys.length, none⟩ (.int .u32 (r : Nat))) :=
            ⟨d1.set _ _, d4.setCell (p := ⟨w.heap.size, i + ys.length, none⟩) (Nat.le_refl _) _⟩
          have HZ2 : Hid (Zf (Q.set (i + ys.length) r) (i + 1 + ys.length)) := fun j hj => by rw [getD_set_other Q r (by omega)]; exact HZ.out j (by omega)
          have HVN : Hid (val b32 (Q.set (i + ys.length) r) = val b32 (xs.take (i + 1)) * val b32 ys) := by
            show _ = _
            rw [HL.out, HTK.out, Nat.add_mul, Nat.mul_assoc]
          have FINH := Lib.hid FIN
          have STEPH := Lib.hid STEP
          have hi0 : (0 : Int) <= (i : Int) + (ys.length : Int) := by omega
          have hi1 : (i : Int) + (ys.length : Int) < (N : Int) := by omega
          obtain ⟨o, HO⟩ : ∃ o, Q[i + ys.length] = o := ⟨_, rfl⟩
          rw [HO] at ev2 ev
          clear FIN STEP d1 d4 er HO hbf c1 c2 hb hN2 e1 hz0
          go_wp2_with fail
          refine STEPH.out.mono ?_
          rintro e w' ⟨rfl, rfl⟩
          clear STEPH
          go_wp2
          go_roundw
          case rel => exact ⟨i + 1, Q.set (i + ys.length) r, by simp, by omega, by rw [List.length_set]; exact hQl, hQd.set _ hr, HZ2.out, HVN, FINH.out.1, FINH.out.2⟩
          case measure => simp [intOf]; omega
    · obtain rfl : i = xs.length := by omega
      rw [List.take_of_length_le (Nat.le_refl _)] at HV
      have HR : Hid (Rd .u32 wr wr.heap.size (some ⟨w.heap.size, 0, none⟩) P) := hbf.rd hbf.lt
      have HB := Lib.hid hb
      rw [<- hPl]
      have hN2 := HN.out
      clear hbf hb hPz
      go_wp2
      go_ret
      exact ⟨_, _, P, rfl, HR.out, hPd, HV.out, by omega, Nat.le_refl _, by omega, HB.out⟩
end Go.Proofs.YtcgdbdhhoomgiabGreat

namespace Go.Proofs.YtcgdbdhhoomgiabGreat
open Go

section
variable {P : Program} {ops : Array Oper} {Q : Exit -> Act -> World -> Prop} {md : Region.Mode} {S : World -> Prop} {R : Act -> World -> Prop}

/-- The plan fits the region: what is marked may come first, what is not marked is then the only one that may come. -/
def planOk (md : Region.Mode) (ops : Array Oper) : List (Nat × Bool) -> Array Bool -> Bool
  | [], listed => (Region.ready md ops listed).isEmpty
  | (i, true) :: rest, listed => (Region.ready md ops listed).contains i && (Region.free md ops listed i && planOk md ops rest (listed.setIfInBounds i true))
  | (i, false) :: rest, listed => (Region.ready md ops listed == [i]) && planOk md ops rest (listed.setIfInBounds i true)

/-- The walk along the plan. -/
def wpPlan (P : Program) (ops : Array Oper) (Q : Exit -> Act -> World -> Prop) (S : World -> Prop) (R : Act -> World -> Prop) : List (Nat × Bool) -> Act -> World -> Prop
  | [], a, w => R a w
  | (i, true) :: rest, a, w => ∃ o v, ops[i]? = some o /\ YieldsIf P ops S o v a /\ wpPlan P ops Q S R rest (a.put o.dst v) w
  | (i, false) :: rest, a, w => wpOp P ops Q i (fun a' w' => S w' /\ wpPlan P ops Q S R rest a' w') a w

theorem wpAnyH_plan (hs : Region.noSelect ops = true) (hQ : ∀ c a d v w, Q (.panic c) (Act.put a d v) w -> Q (.panic c) a w) :
    ∀ (plan : List (Nat × Bool)) (listed : Array Bool) (a : Act) (w : World), planOk md ops plan listed = true -> S w -> wpPlan P ops Q S (Q .normal) plan a w ->
      ∀ fuel, plan.length <= fuel -> wpAnyH P md ops Q S fuel listed a w
  | [], listed, a, w, hk, _, h, fuel, _ => wpAnyH_done (by simpa [planOk] using hk) h fuel
  | (i, true) :: rest, listed, a, w, hk, hS, h, fuel, hf => by
    obtain ⟨o, v, ho, hy, h⟩ := h
    simp only [planOk, Bool.and_eq_true] at hk
    obtain ⟨f, rfl⟩ : ∃ f, fuel = f + 1 := ⟨fuel - 1, by simp only [List.length_cons] at hf; omega⟩
    exact wpAnyH_take ho hs hk.2.1 hk.1 (fun c a w => hQ c a o.dst v w) hy hS (wpAnyH_plan hs hQ rest _ _ _ hk.2.2 hS h f (by simp only [List.length_cons] at hf; omega))
  | (i, false) :: rest, listed, a, w, hk, _, h, fuel, hf => by
    simp only [planOk, Bool.and_eq_true, beq_iff_eq] at hk
    obtain ⟨f, rfl⟩ : ∃ f, fuel = f + 1 := ⟨fuel - 1, by simp only [List.length_cons] at hf; omega⟩
    refine wpAnyH_all hk.1 (by simp) fun j hj => ?_
    obtain rfl : j = i := by simpa using hj
    exact wpOp_mono (fun a' w' h' => ⟨h'.1, wpAnyH_plan hs hQ rest _ _ _ hk.2 h'.1 h'.2 f (by simp only [List.length_cons] at hf; omega)⟩) h

/-- **The beginning.** No operation of the region panics. -/
theorem wp_region_plan (plan : List (Nat × Bool)) {id : Nat} {a : Act} {w : World} (hm : P.follows .mixedOrders = true)
    (hk : (Region.noSelect ops && (decide (plan.length <= ops.size) && planOk .any ops plan (Array.replicate ops.size false))) = true)
    (hS : S w.drew) (h : wpPlan P ops (NoPanic Q) S (NoPanic Q .normal) plan a w.drew) : (Code.region id ops true).wp P Q a w := by
  simp only [Bool.and_eq_true, decide_eq_true_eq] at hk
  exact wp_region_noPanic (wp_region_held hm (wpAnyH_plan hk.1 (fun _ _ _ _ _ h => h) plan _ a _ hk.2.2 hS h _ hk.2.1))

/-- An operation that only reads. -/
theorem plan_take {i : Nat} {rest : List (Nat × Bool)} {d : Option Tmp} {op : Op} {ty : TypeId} {pos : String} {after : Array Edge} {guard : Option (Nat × Bool)} {v : Value} {a : Act} {w : World}
    (ho : ops[i]? = some ⟨d, op, ty, pos, after, guard⟩) (hw : Region.wanted ⟨d, op, ty, pos, after, guard⟩ (yielded ops a.tmps) = true)
    (hy : ∀ w, S w -> (execOp a.eval ⟨d, op, ty, pos, after, guard⟩).run P w = .ok (.value v) w) (h : wpPlan P ops Q S R rest (a.put d v) w) : wpPlan P ops Q S R ((i, true) :: rest) a w :=
  ⟨_, v, ho, .inl ⟨hw, hy⟩, h⟩

/-- An operation behind a guard that is not met. -/
theorem plan_skip {i : Nat} {rest : List (Nat × Bool)} {d : Option Tmp} {op : Op} {ty : TypeId} {pos : String} {after : Array Edge} {guard : Option (Nat × Bool)} {a : Act} {w : World}
    (ho : ops[i]? = some ⟨d, op, ty, pos, after, guard⟩) (hw : Region.wanted ⟨d, op, ty, pos, after, guard⟩ (yielded ops a.tmps) = false)
    (h : wpPlan P ops Q S R rest (a.put d undef) w) : wpPlan P ops Q S R ((i, true) :: rest) a w :=
  ⟨_, undef, ho, .inr ⟨hw, rfl⟩, h⟩

/-- An operation that turns the world: behind it S is shown anew. -/
theorem plan_call {i : Nat} {rest : List (Nat × Bool)} {d : Option Tmp} {op : Op} {ty : TypeId} {pos : String} {after : Array Edge} {guard : Option (Nat × Bool)} {a : Act} {w : World}
    (ho : ops[i]? = some ⟨d, op, ty, pos, after, guard⟩) (hw : Region.wanted ⟨d, op, ty, pos, after, guard⟩ (yielded ops a.tmps) = true)
    (h : ∀ K : Act -> World -> Prop, Shut (∀ a w, S w -> wpPlan P ops Q S R rest a w -> K a w) -> Oper.wp P ⟨d, op, ty, pos, after, guard⟩ a w K Q) :
    wpPlan P ops Q S R ((i, false) :: rest) a w :=
  wpOp_step ho (fun K hK => by
    rw [if_pos hw]
    exact h K (fun a w hS hW => hK a w ⟨hS, hW⟩))

theorem plan_done {a : Act} {w : World} (h : Q .normal a w) : wpPlan P ops (NoPanic Q) S (NoPanic Q .normal) [] a w := h

/-- The plan's first part fits the region, and leaves what l says. -/
def planTo (md : Region.Mode) (ops : Array Oper) (l : Array Bool) : List (Nat × Bool) -> Array Bool -> Bool
  | [], listed => listed == l
  | (i, true) :: rest, listed => (Region.ready md ops listed).contains i && (Region.free md ops listed i && planTo md ops l rest (listed.setIfInBounds i true))
  | (i, false) :: rest, listed => (Region.ready md ops listed == [i]) && planTo md ops l rest (listed.setIfInBounds i true)

theorem wpAnyH_planTo {l : Array Bool} {k : Nat} (hs : Region.noSelect ops = true) (hQ : ∀ c a d v w, Q (.panic c) (Act.put a d v) w -> Q (.panic c) a w) :
    ∀ (plan : List (Nat × Bool)) (listed : Array Bool) (a : Act) (w : World), planTo md ops l plan listed = true -> S w -> wpPlan P ops Q S (fun a w => S w -> wpAnyH P md ops Q S k l a w) plan a w ->
      wpAnyH P md ops Q S (plan.length + k) listed a w
  | [], listed, a, w, hk, hS, h => by
    rw [show listed = l from by simpa [planTo] using hk, List.length_nil, Nat.zero_add]
    exact h hS
  | (i, true) :: rest, listed, a, w, hk, hS, h => by
    obtain ⟨o, v, ho, hy, h⟩ := h
    simp only [planTo, Bool.and_eq_true] at hk
    rw [List.length_cons, show rest.length + 1 + k = (rest.length + k) + 1 from by omega]
    exact wpAnyH_take ho hs hk.2.1 hk.1 (fun c a w => hQ c a o.dst v w) hy hS (wpAnyH_planTo hs hQ rest _ _ _ hk.2.2 hS h)
  | (i, false) :: rest, listed, a, w, hk, _, h => by
    simp only [planTo, Bool.and_eq_true, beq_iff_eq] at hk
    rw [List.length_cons, show rest.length + 1 + k = (rest.length + k) + 1 from by omega]
    refine wpAnyH_all hk.1 (by simp) fun j hj => ?_
    obtain rfl : j = i := by simpa using hj
    exact wpOp_mono (fun a' w' h' => ⟨h'.1, wpAnyH_planTo hs hQ rest _ _ _ hk.2 h'.1 h'.2⟩) h

/-- **The beginning**, where behind the plan's first part several may come next. No operation of the region panics. -/
theorem wp_region_planTo (plan : List (Nat × Bool)) (l : Array Bool) (k : Nat) {id : Nat} {a : Act} {w : World} (hm : P.follows .mixedOrders = true)
    (hk : (Region.noSelect ops && (decide (plan.length + k = ops.size) && planTo .any ops l plan (Array.replicate ops.size false))) = true)
    (hS : S w.drew) (h : wpPlan P ops (NoPanic Q) S (fun a w => S w -> wpAnyH P .any ops (NoPanic Q) S k l a w) plan a w.drew) : (Code.region id ops true).wp P Q a w := by
  simp only [Bool.and_eq_true, decide_eq_true_eq] at hk
  have h1 := wpAnyH_planTo (k := k) hk.1 (fun _ _ _ _ _ h => h) plan _ a _ hk.2.2 hS h
  rw [hk.2.1] at h1
  exact wp_region_noPanic (wp_region_held hm h1)

/-- One of those that may come next. -/
theorem ready_cons {fuel : Nat} {listed : Array Bool} {i : Nat} {rs : List Nat} {d : Option Tmp} {op : Op} {ty : TypeId} {pos : String} {after : Array Edge} {guard : Option (Nat × Bool)} {a : Act} {w : World}
    (ho : ops[i]? = some ⟨d, op, ty, pos, after, guard⟩) (hw : Region.wanted ⟨d, op, ty, pos, after, guard⟩ (yielded ops a.tmps) = true)
    (h : ∀ K : Act -> World -> Prop, Shut (∀ a w, S w -> wpAnyH P md ops Q S fuel (listed.setIfInBounds i true) a w -> K a w) -> Oper.wp P ⟨d, op, ty, pos, after, guard⟩ a w K Q)
    (hs : AllReadyH P md ops Q S fuel listed a w rs) : AllReadyH P md ops Q S fuel listed a w (i :: rs) := fun j hj => by
  rcases List.mem_cons.1 hj with rfl | hj
  · refine wpOp_step ho (fun K hK => ?_)
    rw [if_pos hw]
    exact h K (fun a w hS hW => hK a w ⟨hS, hW⟩)
  · exact hs j hj

/-- Only one may come next. -/
theorem rdy1 {fuel : Nat} {listed : Array Bool} {i : Nat} {d : Option Tmp} {op : Op} {ty : TypeId} {pos : String} {after : Array Edge} {guard : Option (Nat × Bool)} {a : Act} {w : World}
    (hr : Region.ready md ops listed = [i]) (ho : ops[i]? = some ⟨d, op, ty, pos, after, guard⟩) (hw : Region.wanted ⟨d, op, ty, pos, after, guard⟩ (yielded ops a.tmps) = true)
    (h : ∀ K : Act -> World -> Prop, Shut (∀ a w, S w -> wpAnyH P md ops Q S fuel (listed.setIfInBounds i true) a w -> K a w) -> Oper.wp P ⟨d, op, ty, pos, after, guard⟩ a w K Q) : wpAnyH P md ops Q S (fuel + 1) listed a w :=
  wpAnyH_ready (rs := [i]) hr (by simp) (ready_cons ho hw h fun _ hj => by cases hj)

/-- A region's states, each shown once. -/
theorem dag {k : Nat} {l : Array Bool} {a : Act} {w : World} (h : ∀ G : Nat -> Array Bool -> Act -> World -> Prop, (∀ {k l a w}, wpAnyH P md ops Q S k l a w -> G k l a w) -> (∀ {k l a w}, G k l a w -> wpAnyH P md ops Q S k l a w) -> G k l a w) : wpAnyH P md ops Q S k l a w :=
  h _ (fun h => h) (fun h => h)

/-- What a region leaves, said once for all its ways. -/
theorem wp_cut (R : Act -> Act -> World -> Prop) {c : Code} {a : Act} {w : World} (h : c.wp P (fun e a' w' => e = .normal /\ R a a' w') a w) (hR : ∀ a' w', R a a' w' -> Q .normal a' w') : c.wp P Q a w :=
  Code.wp_mono (fun _ a' w' h => by obtain ⟨rfl, h⟩ := h; exact hR a' w' h) h
end
end Go.Proofs.YtcgdbdhhoomgiabGreat

namespace Go.Proofs.YtcgdbdhhoomgiabGreat
open Go.RowKit Go.Shelf

theorem mul_any (na nb : Bool) {A A' : Option Addr} {c c' : Nat} {xs ys : List Nat} {w : World} (hx : Arg w A c xs) (hy : Arg w A' c' ys) :
    Calls Tryz.prog 74 #[.agg #[.bool na, .slice A xs.length c], .agg #[.bool nb, .slice A' ys.length c']] w (ZRet w (zof (!(na == nb)) (val b32 xs * val b32 ys))) := by
  have HX := Lib.hid hx
  have HY := Lib.hid hy
  clear hx hy
  obtain ⟨s, hs⟩ : ∃ s, (!(na == nb)) = s := ⟨_, rfl⟩
  rw [hs]
  obtain ⟨W0, hW0⟩ : ∃ W0, W0 = ((w.alloc (.cells #[.bool na, .slice A xs.length c] 29)).alloc (.cells #[.bool nb, .slice A' ys.length c'] 29)).alloc (.cells #[.bool false, .slice none 0 0] 29) := ⟨_, rfl⟩
  have hb : Below w.heap.size w W0 := by rw [hW0]; exact (((Below.refl _ _).alloc (Nat.le_refl _) _).alloc (by simp) _).alloc (by simp; omega) _
  have tX : Two W0 w.heap.size (.bool na) (.slice A xs.length c) := by rw [hW0]; exact ((Two.new w _ _ _).alloc _).alloc _
  have tY : Two W0 (w.heap.size + 1) (.bool nb) (.slice A' ys.length c') := by
    have h := Two.new (w.alloc (.cells #[.bool na, .slice A xs.length c] 29)) (.bool nb) (.slice A' ys.length c') 29
    rw [World.size_alloc] at h
    rw [hW0]; exact h.alloc _
  have tR : Two W0 (w.heap.size + 1 + 1) (.bool false) (.slice none 0 0) := by
    have h := Two.new ((w.alloc (.cells #[.bool na, .slice A xs.length c] 29)).alloc (.cells #[.bool nb, .slice A' ys.length c'] 29)) (.bool false) (.slice none 0 0) 29
    rw [World.size_alloc, World.size_alloc] at h
    rw [hW0]; exact h
  have HW0 := Lib.hid hW0
  clear hW0
  go_enter Tryz.func74, Tryz.ntmps74
  go_wp2_with fail
  rw [<- HW0.out]
  have q1 := tX.c0
  have q2 := tX.c1
  have q3 := tY.c0
  have q4 := tY.c1
  have tXd := tX.to ((Below.refl _ W0).drew)
  have tYd := tY.to ((Below.refl _ W0).drew)
  have tRd := tR.to ((Below.refl _ W0).drew)
  obtain ⟨z, ez⟩ : ∃ z, Hid (zof s (val b32 xs * val b32 ys) = z) := ⟨_, rfl⟩
  have HM := Lib.hid (multiply_any (HX.out.to hb.drew).trim (HY.out.to hb.drew).trim)
  rw [val_trimL, val_trimL] at HM
  have q5 : W0.drew.cell? ⟨w.heap.size, 0, none⟩ = some (.bool na) := q1
  refine wp_region_plan (S := fun w' => w'.cell? ⟨w.heap.size, 0, none⟩ = some (.bool na) /\ w'.cell? ⟨w.heap.size, 1, none⟩ = some (.slice A xs.length c) /\ w'.cell? ⟨w.heap.size + 1, 0, none⟩ = some (.bool nb) /\ w'.cell? ⟨w.heap.size + 1, 1, none⟩ = some (.slice A' ys.length c')) [(0, true), (1, true), (2, true), (3, true), (4, true), (5, true), (6, true), (8, true), (9, true), (7, false), (10, false), (11, false), (12, false), (13, false)] (by kernel_rfl) (by kernel_rfl) ⟨q1, q2, q3, q4⟩ ?_
  repeat (refine plan_take (v := ?_) rfl (by rfl) ?_ ?_; rotate_left; (focus (intro w' hS; obtain ⟨k1, k2, k3, k4⟩ := hS; go_simp; try with_reducible rfl)); simp only [Act.put, List.setIfInBounds_toArray, List.set_cons_zero, List.set_cons_succ])
  refine plan_call rfl (by rfl) (fun K hK => ?_)
  go_simp
  refine (trim_q (HX.out.to hb.drew)).mono ?_
  rintro e w' ⟨rfl, rfl⟩
  refine hK.out _ _ ⟨q1, q2, q3, q4⟩ ?_
  clear hK K
  refine plan_call rfl (by rfl) (fun K hK => ?_)
  go_simp
  refine (trim_q (HY.out.to hb.drew)).mono ?_
  rintro e w' ⟨rfl, rfl⟩
  refine hK.out _ _ ⟨q1, q2, q3, q4⟩ ?_
  clear hK K
  refine plan_call rfl (by rfl) (fun K hK => ?_)
  go_simp
  refine HM.out.mono ?_
  rintro e w2 ⟨A1, c1, ps, rfl, r1, rd, rv, rl, r2, r3, hb2⟩
  refine hK.out _ _ ⟨(tXd.to hb2).c0, (tXd.to hb2).c1, (tYd.to hb2).c0, (tYd.to hb2).c1⟩ ?_
  clear hK K
  have HI := Lib.hid (integer_l s r1 rd r2 r3)
  rw [rv, ez.out] at HI
  clear rl rv
  refine plan_call rfl (by rfl) (fun K hK => ?_)
  go_simp
  refine HI.out.mono ?_
  rintro e w3 ⟨A3, c3, rfl, s1, s2, s3, hb3⟩
  have t3 := (tXd.to hb2).to hb3
  have t5 := (tYd.to hb2).to hb3
  have t4 := (tRd.to hb2).to hb3
  refine hK.out _ _ ⟨t3.c0, t3.c1, t5.c0, t5.c1⟩ ?_
  clear hK K q1 q2 q3 q4 q5
  have u0 := t4.c0
  have u1 := t4.c1
  have u2 := t4.f0
  have u3 := t4.f1
  refine plan_call rfl (by rfl) (fun K hK => ?_)
  go_simp
  refine hK.out _ _ ⟨(t3.far (by omega) _ _).c0, (t3.far (by omega) _ _).c1, (t5.far (by omega) _ _).c0, (t5.far (by omega) _ _).c1⟩ ?_
  clear hK K
  refine plan_done ?_
  have HB3 : Below w.heap.size w w3 := (hb.drew.trans (hb2.mono hb.size)).trans (hb3.mono (hb.drew.trans (hb2.mono hb.size)).size)
  go_wp2
  have tF := t4.set (.bool (decide (z < 0))) (.slice A3 (dig b32 z.natAbs).length c3)
  refine bodyPost_ret (v := .agg #[.bool (decide (z < 0)), .slice A3 (dig b32 z.natAbs).length c3]) (by simp [results, Tryz.f74, go_sem, tF.c0, tF.c1]) rfl ?_
  rw [ez.out]
  exact zret_stored t4 (by omega) s1 s2 s3 HB3
end Go.Proofs.YtcgdbdhhoomgiabGreat

namespace Go.Proofs.YtcgdbdhhoomgiabGreat
open Go.RowKit Go.Shelf

/-- The sign of a number. -/
def sgn (z : Int) : Int := if z = 0 then 0 else if z < 0 then -1 else 1

theorem sign_any (n : Bool) {A : Option Addr} {c : Nat} {xs : List Nat} {w : World} (hx : Arg w A c xs) :
    Calls Tryz.prog 35 #[.agg #[.bool n, .slice A xs.length c]] w fun e w' => e = .returned (.int .i64 (sgn (zof n (val b32 xs)))) /\ Below w.heap.size w w' := by
  have hb := Lib.hid ((Below.refl w.heap.size w).alloc (Nat.le_refl _) (.cells #[.bool n, .slice A xs.length c] 29))
  have HT := Lib.hid (trim_q (hx.to hb.out))
  have hlen : ((trimL xs).length = 0) ↔ val b32 xs = 0 := by
    rw [trimL_dig b32_one hx.dg]
    exact ⟨fun h => (dig_nil b32_one).1 (List.eq_nil_of_length_eq_zero h), fun h => by rw [h]; rfl⟩
  obtain ⟨m, hm⟩ : ∃ m, (trimL xs).length = m := ⟨_, rfl⟩
  rw [hm] at HT hlen
  by_cases h0 : m = 0
  · have HS : Hid (sgn (zof n (val b32 xs)) = 0) := by show _ = _; rw [hlen.1 h0]; cases n <;> rfl
    subst h0
    clear hm hlen hx
    rw [HS.out]
    go_enter Tryz.func35, Tryz.ntmps35
    go_wp2_with fail
    refine HT.out.mono ?_
    rintro e w' ⟨rfl, rfl⟩
    go_wp2
    go_ret
    exact ⟨rfl, hb.out⟩
  · have hv : val b32 xs ≠ 0 := fun h => h0 (hlen.2 h)
    have hq : ((m : Int) == 0) = false := by rw [beq_eq_false_iff_ne]; omega
    cases n with
    | false =>
      have HS : Hid (sgn (zof false (val b32 xs)) = 1) := by show _ = _; simp [sgn, zof, hv]
      clear hm hlen hx hv
      rw [HS.out]
      go_enter Tryz.func35, Tryz.ntmps35
      go_wp2_with fail
      refine HT.out.mono ?_
      rintro e w' ⟨rfl, rfl⟩
      go_wp2
      go_ret
      exact ⟨rfl, hb.out⟩
    | true =>
      have HS : Hid (sgn (zof true (val b32 xs)) = -1) := by
        show _ = _
        have h1 : zof true (val b32 xs) < 0 := by simp [zof]; omega
        unfold sgn
        rw [if_neg (by omega), if_pos h1]
      clear hm hlen hx hv
      rw [HS.out]
      go_enter Tryz.func35, Tryz.ntmps35
      go_wp2_with fail
      refine HT.out.mono ?_
      rintro e w' ⟨rfl, rfl⟩
      go_wp2
      go_ret
      exact ⟨rfl, hb.out⟩
end Go.Proofs.YtcgdbdhhoomgiabGreat

namespace Go.Proofs.YtcgdbdhhoomgiabGreat
open Go.RowKit Go.Shelf

/-- How two numbers compare. -/
def cmpZ (a b : Int) : Int := if a < b then -1 else if b < a then 1 else 0

theorem cmpZ_self (a : Int) : cmpZ a a = 0 := by simp [cmpZ]
theorem sgn_range (a : Int) : sgn a = -1 ∨ sgn a = 0 ∨ sgn a = 1 := by unfold sgn; split <;> (try split) <;> simp
theorem cmpZ_sgn {a b : Int} (h : sgn a ≠ sgn b) : cmpZ (sgn a) (sgn b) = cmpZ a b /\ cmpZ a b ≠ 0 := by
  unfold sgn cmpZ at *
  repeat' split at h
  all_goals (repeat' split)
  all_goals omega
theorem cmpZ_mag {n m : Bool} {x y : Nat} (h : sgn (zof n x) = sgn (zof m y)) : sgn (zof n x) * cmpN x y = cmpZ (zof n x) (zof m y) := by
  cases n <;> cases m <;> simp only [sgn, zof, cmpZ, cmpN, Bool.false_eq_true, if_false, if_true] at *
  all_goals (repeat' split at h)
  all_goals (repeat' split)
  all_goals omega

theorem cmpI_any (a b : Int) (w : World) (ha : -9223372036854775808 <= a) (ha' : a <= 9223372036854775807) (hb : -9223372036854775808 <= b) (hb' : b <= 9223372036854775807) :
    Calls Tryz.prog 72 #[.int .i64 a, .int .i64 b] w fun e w' => e = .returned (.int .i64 (cmpZ a b)) /\ w = w' := by
  unfold cmpZ
  have h1 : (a != a) = false := by simp
  have h2 : (b != b) = false := by simp
  rcases Int.lt_trichotomy a b with h | h | h
  · rw [if_pos h]
    go_enter Tryz.func72, Tryz.ntmps72
    go_wp2
    go_ret
    exact ⟨rfl, rfl⟩
  · subst h
    rw [if_neg (by omega), if_neg (by omega)]
    go_enter Tryz.func72, Tryz.ntmps72
    go_wp2
    go_ret
    exact ⟨rfl, rfl⟩
  · rw [if_neg (by omega), if_pos h]
    go_enter Tryz.func72, Tryz.ntmps72
    go_wp2
    go_ret
    exact ⟨rfl, rfl⟩

theorem cmp_any (na nb : Bool) {A A' : Option Addr} {c c' : Nat} {xs ys : List Nat} {w : World} (hx : Arg w A c xs) (hy : Arg w A' c' ys) :
    Calls Tryz.prog 46 #[.agg #[.bool na, .slice A xs.length c], .agg #[.bool nb, .slice A' ys.length c']] w fun e w' => e = .returned (.int .i64 (cmpZ (zof na (val b32 xs)) (zof nb (val b32 ys)))) /\ Below w.heap.size w w' := by
  obtain ⟨W0, hW0⟩ : ∃ W0, W0 = (w.alloc (.cells #[.bool na, .slice A xs.length c] 29)).alloc (.cells #[.bool nb, .slice A' ys.length c'] 29) := ⟨_, rfl⟩
  have hb : Below w.heap.size w W0 := by rw [hW0]; exact ((Below.refl _ _).alloc (Nat.le_refl _) _).alloc (by simp) _
  have tX : Two W0 w.heap.size (.bool na) (.slice A xs.length c) := by rw [hW0]; exact (Two.new w _ _ _).alloc _
  have tY : Two W0 (w.heap.size + 1) (.bool nb) (.slice A' ys.length c') := by
    have h := Two.new (w.alloc (.cells #[.bool na, .slice A xs.length c] 29)) (.bool nb) (.slice A' ys.length c') 29
    rw [World.size_alloc] at h
    rw [hW0]; exact h
  have HW0 := Lib.hid hW0
  have HX := Lib.hid (hx.to hb)
  have HY := Lib.hid (hy.to hb)
  obtain ⟨z1, e1⟩ : ∃ z, zof na (val b32 xs) = z := ⟨_, rfl⟩
  obtain ⟨z2, e2⟩ : ∃ z, zof nb (val b32 ys) = z := ⟨_, rfl⟩
  have hmag := @cmpZ_mag na nb (val b32 xs) (val b32 ys)
  have HS1 := Lib.hid (sign_any na (hx.to hb))
  have HS2 := Lib.hid fun (V : World) (h : Below W0.heap.size W0 V) => sign_any nb ((hy.to hb).to h)
  rw [e1, e2] at hmag
  rw [e1] at HS1
  rw [e2] at HS2
  rw [e1, e2]
  obtain ⟨s1, hs1⟩ : ∃ s, sgn z1 = s := ⟨_, rfl⟩
  obtain ⟨s2, hs2⟩ : ∃ s, sgn z2 = s := ⟨_, rfl⟩
  have r1 := sgn_range z1
  have r2 := sgn_range z2
  have hne := @cmpZ_sgn z1 z2
  rw [hs1, hs2] at hmag hne
  rw [hs1] at HS1 r1
  rw [hs2] at HS2 r2
  have HC := Lib.hid fun V : World => cmpI_any s1 s2 V (by omega) (by omega) (by omega) (by omega)
  clear hW0 hx hy hs1 hs2
  by_cases h12 : s1 = s2
  · subst h12
    rw [cmpZ_self] at HC
    rw [<- hmag rfl]
    obtain ⟨k, hk⟩ : ∃ k, cmpN (val b32 xs) (val b32 ys) = k := ⟨_, rfl⟩
    have rk : k = -1 ∨ k = 0 ∨ k = 1 := by rw [<- hk]; unfold cmpN; split <;> (try split) <;> simp
    have hwr : IntKind.i64.wrap (s1 * k) = s1 * k := by rcases r1 with rfl | rfl | rfl <;> rcases rk with rfl | rfl | rfl <;> decide
    rw [hk]
    have HK := Lib.hid hk
    clear hk hmag hne r1 r2 e1 e2 rk
    go_enter Tryz.func46, Tryz.ntmps46
    go_wp2_with fail
    rw [<- HW0.out]
    have q1 := tX.c0
    have q2 := tX.c1
    have q3 := tY.c0
    have q4 := tY.c1
    go_wp2_with fail
    refine HS1.out.mono ?_
    rintro e w1 ⟨rfl, b1⟩
    have t3 := tX.to b1
    have t4 := tY.to b1
    have HB := Lib.hid b1
    clear q1 q2 q3 q4 b1
    have q1 := t3.c0
    have q2 := t3.c1
    have q3 := t4.c0
    have q4 := t4.c1
    go_wp2_with fail
    refine (HS2.out _ HB.out).mono ?_
    rintro e w2 ⟨rfl, b2⟩
    have t5 := t3.to b2
    have t6 := t4.to b2
    have HB2 := Lib.hid (HB.out.trans (b2.mono HB.out.size))
    clear q1 q2 q3 q4 b2 t3 t4 tX tY
    have q1 := t5.c0
    have q2 := t5.c1
    have q3 := t6.c0
    have q4 := t6.c1
    go_wp2_with fail
    refine (HC.out _).mono ?_
    rintro e w3 ⟨rfl, rfl⟩
    go_wp2_with fail
    have HX2 := Lib.hid ((HX.out.to HB2.out).to (Below.refl _ _).drew)
    have HY2 := Lib.hid ((HY.out.to HB2.out).to (Below.refl _ _).drew)
    clear t5 t6
    refine wp_region_plan (S := fun w' => w'.cell? ⟨w.heap.size, 1, none⟩ = some (.slice A xs.length c) /\ w'.cell? ⟨w.heap.size + 1, 1, none⟩ = some (.slice A' ys.length c')) [(0, true), (1, true), (2, true), (4, true), (5, true), (3, false), (6, false), (7, false), (8, true), (9, true)] (by kernel_rfl) (by kernel_rfl) ⟨q2, q4⟩ ?_
    repeat (refine plan_take (v := ?_) rfl (by rfl) ?_ ?_; rotate_left; (focus (intro w' hS; obtain ⟨k1, k2⟩ := hS; go_simp; try with_reducible rfl)); simp only [Act.put, List.setIfInBounds_toArray, List.set_cons_zero, List.set_cons_succ])
    refine plan_call rfl (by rfl) (fun K hK => ?_)
    go_simp
    refine (trim_q HX2.out).mono ?_
    rintro e w' ⟨rfl, rfl⟩
    refine hK.out _ _ ⟨q2, q4⟩ ?_
    clear hK K
    refine plan_call rfl (by rfl) (fun K hK => ?_)
    go_simp
    refine (trim_q HY2.out).mono ?_
    rintro e w' ⟨rfl, rfl⟩
    refine hK.out _ _ ⟨q2, q4⟩ ?_
    clear hK K
    have HK2 := Lib.hid (compare_any A A' c c' (trimL xs) (trimL ys) _ HX2.out.trim.rd HY2.out.trim.rd (trim_trimmed b32_one HX2.out.dg) (trim_trimmed b32_one HY2.out.dg) HX2.out.trim.dg HY2.out.trim.dg HX2.out.trim.le HX2.out.cap HY2.out.trim.le HY2.out.cap)
    rw [val_trimL, val_trimL, HK.out] at HK2
    refine plan_call rfl (by rfl) (fun K hK => ?_)
    go_simp
    refine HK2.out.mono ?_
    rintro e w4 ⟨rfl, b4⟩
    have HB4 := Lib.hid ((HB2.out.drew).trans (b4.mono HB2.out.drew.size))
    refine hK.out _ _ ⟨(b4.cell (World.block_lt_of_cell? _ _ q2)).trans q2, (b4.cell (World.block_lt_of_cell? _ _ q4)).trans q4⟩ ?_
    clear hK K q1 q2 q3 q4 b4
    repeat (refine plan_take (v := ?_) rfl (by rfl) ?_ ?_; rotate_left; (focus (intro w' hS; obtain ⟨k1, k2⟩ := hS; go_simp; try with_reducible rfl)); simp only [Act.put, List.setIfInBounds_toArray, List.set_cons_zero, List.set_cons_succ])
    refine plan_done ?_
    go_wp2
    go_ret
    exact ⟨rfl, hb.trans (HB4.out.mono hb.size)⟩
  · obtain ⟨hz, hn⟩ := hne h12
    rw [<- hz]
    obtain ⟨o, ho⟩ : ∃ o, cmpZ s1 s2 = o := ⟨_, rfl⟩
    rw [ho] at HC
    rw [ho]
    have ho0 : ((o != 0) = true) := by rw [<- ho, hz]; simpa using hn
    have ho1 : ((o == 0) = false) := by rw [<- ho, hz]; simpa using hn
    clear hz hn hmag hne r1 r2 e1 e2 ho h12
    go_enter Tryz.func46, Tryz.ntmps46
    go_wp2_with fail
    rw [<- HW0.out]
    have q1 := tX.c0
    have q2 := tX.c1
    have q3 := tY.c0
    have q4 := tY.c1
    go_wp2_with fail
    refine HS1.out.mono ?_
    rintro e w1 ⟨rfl, b1⟩
    have t3 := tX.to b1
    have t4 := tY.to b1
    have HB := Lib.hid b1
    clear q1 q2 q3 q4 b1
    have q1 := t3.c0
    have q2 := t3.c1
    have q3 := t4.c0
    have q4 := t4.c1
    go_wp2_with fail
    refine (HS2.out _ HB.out).mono ?_
    rintro e w2 ⟨rfl, b2⟩
    have HB2 := Lib.hid (HB.out.trans (b2.mono HB.out.size))
    clear q1 q2 q3 q4 b2 t3 t4 tX tY
    go_wp2_with fail
    refine (HC.out _).mono ?_
    rintro e w3 ⟨rfl, rfl⟩
    go_wp2
    go_ret
    exact ⟨rfl, hb.trans (HB2.out.mono hb.size)⟩
end Go.Proofs.YtcgdbdhhoomgiabGreat

namespace Go.Proofs.YtcgdbdhhoomgiabGreat
open Go.RowKit Go.Shelf

/-- Whether sign and words are a canonical form. -/
def canon (n : Bool) (xs : List Nat) : Bool := if xs.length = 0 then !n else decide (xs.getD (xs.length - 1) 0 ≠ 0)

end Go.Proofs.YtcgdbdhhoomgiabGreat

namespace Go.Proofs.YtcgdbdhhoomgiabGreat
open Go.RowKit Go.Shelf

/-- Two cells that are an integer, in whatever form. -/
def Zi (W : World) (x y : Value) (z : Int) : Prop := ∃ n A c xs, x = .bool n /\ y = .slice A xs.length c /\ Arg W A c xs /\ zof n (val b32 xs) = z

/-- Two cells that are an integer in canonical form. -/
def Zc (W : World) (x y : Value) (z : Int) : Prop := ∃ A c, x = .bool (decide (z < 0)) /\ y = .slice A (dig b32 z.natAbs).length c /\ Rd .u32 W W.heap.size A (dig b32 z.natAbs) /\ (dig b32 z.natAbs).length <= c /\ c <= 9223372036854775807

/-- An integer of at most k words. -/
def Sm (k : Nat) (z : Int) : Prop := z.natAbs < b32 ^ k

theorem Zi.to {W V : World} {x y : Value} {z : Int} (h : Zi W x y z) (hb : Below W.heap.size W V) : Zi V x y z := by
  obtain ⟨n, A, c, xs, h1, h2, h3, h4⟩ := h
  exact ⟨n, A, c, xs, h1, h2, h3.to hb, h4⟩
theorem Zc.to {W V : World} {x y : Value} {z : Int} (h : Zc W x y z) (hb : Below W.heap.size W V) : Zc V x y z := by
  obtain ⟨A, c, h1, h2, h3, h4, h5⟩ := h
  exact ⟨A, c, h1, h2, h3.to hb, h4, h5⟩

theorem Sm.add {k : Nat} {a b : Int} (ha : Sm k a) (hb : Sm k b) : Sm (k + 1) (a + b) := by
  unfold Sm at *
  rw [Nat.pow_succ]
  have : b32 ^ k * 2 <= b32 ^ k * b32 := Nat.mul_le_mul_left _ (by decide)
  omega
theorem Sm.sub {k : Nat} {a b : Int} (ha : Sm k a) (hb : Sm k b) : Sm (k + 1) (a - b) := by
  unfold Sm at *
  rw [Nat.pow_succ]
  have : b32 ^ k * 2 <= b32 ^ k * b32 := Nat.mul_le_mul_left _ (by decide)
  omega
theorem Sm.mono {k l : Nat} {a : Int} (ha : Sm k a) (h : k <= l) : Sm l a := Nat.lt_of_lt_of_le ha (Nat.pow_le_pow_right (by decide) h)
theorem Sm.mul {k l : Nat} {a b : Int} (ha : Sm k a) (hb : Sm l b) : Sm (k + l) (a * b) := by
  unfold Sm at *
  rw [Int.natAbs_mul, Nat.pow_add]
  exact Nat.mul_lt_mul'' ha hb
theorem Sm.neg {k : Nat} {a : Int} (ha : Sm k a) : Sm k (-a) := by unfold Sm at *; rwa [Int.natAbs_neg]
theorem Sm.zof {k : Nat} {n : Bool} {xs : List Nat} (h : Dg b32 xs) (hl : xs.length <= k) : Sm k (zof n (val b32 xs)) := by
  unfold Sm
  rw [zof_abs]
  exact Nat.lt_of_lt_of_le (val_lt h) (Nat.pow_le_pow_right (by decide) hl)

theorem zof_dec (z : Int) : zof (decide (z < 0)) z.natAbs = z := by
  by_cases h : z < 0 <;> simp [h, Go.Proofs.YtcgdbdhhoomgiabGreat.zof] <;> omega

theorem Zc.zi {W : World} {x y : Value} {z : Int} {k : Nat} (h : Zc W x y z) (hs : Sm k z) (hk : k <= 4294967295) : Zi W x y z := by
  obtain ⟨A, c, h1, h2, h3, h4, h5⟩ := h
  exact ⟨_, A, c, _, h1, h2, ⟨h3, Dg_dig b32_one _, h4, h5, Nat.le_trans (dig_length_le b32_one hs) hk⟩, by rw [val_dig b32_one]; exact zof_dec z⟩

/-- A call hands back z, in canonical form. -/
def ZR (w : World) (z : Int) (e : Ending) (w' : World) : Prop := ∃ x y, e = .returned (.agg #[x, y]) /\ Zc w' x y z /\ Below w.heap.size w w'

theorem ZRet.zr {w w' : World} {z : Int} {e : Ending} (h : ZRet w z e w') : ZR w z e w' := by
  obtain ⟨A, c, rfl, h1, h2, h3, h4⟩ := h
  exact ⟨_, _, rfl, ⟨A, c, rfl, rfl, h1, h2, h3⟩, h4⟩

variable {w : World} {x y x' y' : Value} {a b : Int}

theorem add_z (ha : Zi w x y a) (hb : Zi w x' y' b) : Calls Tryz.prog 61 #[.agg #[x, y], .agg #[x', y']] w (ZR w (a + b)) := by
  obtain ⟨n, A, c, xs, rfl, rfl, h3, rfl⟩ := ha
  obtain ⟨m, B, d, ys, rfl, rfl, k3, rfl⟩ := hb
  exact (add_any n m h3 k3).mono fun _ _ h => h.zr

theorem zof_mul (n m : Bool) (a b : Nat) : zof (!(n == m)) (a * b) = zof n a * zof m b := by
  cases n <;> cases m <;> simp [zof, Int.neg_mul, Int.mul_neg]

theorem mul_z (ha : Zi w x y a) (hb : Zi w x' y' b) : Calls Tryz.prog 74 #[.agg #[x, y], .agg #[x', y']] w (ZR w (a * b)) := by
  obtain ⟨n, A, c, xs, rfl, rfl, h3, rfl⟩ := ha
  obtain ⟨m, B, d, ys, rfl, rfl, k3, rfl⟩ := hb
  have h := mul_any n m h3 k3
  rw [zof_mul] at h
  exact h.mono fun _ _ h => h.zr

theorem neg_z (ha : Zi w x y a) : Calls Tryz.prog 64 #[.agg #[x, y]] w (ZR w (-a)) := by
  obtain ⟨n, A, c, xs, rfl, rfl, h3, rfl⟩ := ha
  have h := neg_any n h3
  rw [zof_not] at h
  exact h.mono fun _ _ h => h.zr

theorem sign_z (ha : Zi w x y a) : Calls Tryz.prog 35 #[.agg #[x, y]] w fun e w' => e = .returned (.int .i64 (sgn a)) /\ Below w.heap.size w w' := by
  obtain ⟨n, A, c, xs, rfl, rfl, h3, rfl⟩ := ha
  exact sign_any n h3

theorem cmp_z (ha : Zi w x y a) (hb : Zi w x' y' b) : Calls Tryz.prog 46 #[.agg #[x, y], .agg #[x', y']] w fun e w' => e = .returned (.int .i64 (cmpZ a b)) /\ Below w.heap.size w w' := by
  obtain ⟨n, A, c, xs, rfl, rfl, h3, rfl⟩ := ha
  obtain ⟨m, B, d, ys, rfl, rfl, k3, rfl⟩ := hb
  exact cmp_any n m h3 k3

theorem zof_inj_dec {a b : Int} (h1 : decide (a < 0) = decide (b < 0)) (h2 : dig b32 a.natAbs = dig b32 b.natAbs) : a = b := by
  have h3 := dig_inj b32_one h2
  by_cases ha : a < 0 <;> by_cases hb : b < 0 <;> simp [ha, hb] at h1 <;> omega

theorem same_c (ha : Zc w x y a) (hb : Zc w x' y' b) : Calls Tryz.prog 51 #[.agg #[x, y], .agg #[x', y']] w fun e w' => e = .returned (.bool (decide (a = b))) /\ Below w.heap.size w w' := by
  obtain ⟨A, c, rfl, rfl, h3, h4, h5⟩ := ha
  obtain ⟨A', c', rfl, rfl, k3, k4, k5⟩ := hb
  have h := same_any (decide (a < 0)) (decide (b < 0)) h3 k3 h4 h5 k4 k5
  rw [show decide (decide (a < 0) = decide (b < 0) /\ dig b32 a.natAbs = dig b32 b.natAbs) = decide (a = b) from by
    rw [decide_eq_decide]
    exact ⟨fun h => zof_inj_dec h.1 h.2, fun h => by rw [h]; exact ⟨rfl, rfl⟩⟩] at h
  exact h

/-- A load of an integer's two cells. -/
theorem load_two {W : World} {g t : Nat} {u v : Value} {ac : Act} {d : Option Tmp} {ty : TypeId} {pos : String} {after : Array Edge} {guard : Option (Nat × Bool)} (ht : ac.eval (.tmp t) = .pointer (some ⟨g, 0, none⟩)) (h : Two W g u v) :
    (execOp ac.eval ⟨d, .load 29 (.tmp t), ty, pos, after, guard⟩).run Tryz.prog W = .ok (.value (.agg #[u, v])) W := by
  have h0 := h.c0
  have h1 := h.c1
  simp only [execOp, ht]
  go_simp
end Go.Proofs.YtcgdbdhhoomgiabGreat

namespace Go.Proofs.YtcgdbdhhoomgiabGreat
open Go.RowKit Go.Shelf

/-- A variable that holds an integer in whatever form. -/
structure Zb (W : World) (g : Nat) (x y : Value) (z : Int) : Prop where
  two : Two W g x y
  zi : Zi W x y z
/-- A variable that holds an integer in canonical form. -/
structure Cb (W : World) (g : Nat) (x y : Value) (z : Int) : Prop where
  two : Two W g x y
  zc : Zc W x y z

theorem Zb.to {W V : World} {g : Nat} {x y : Value} {z : Int} (h : Zb W g x y z) (hb : Below W.heap.size W V) : Zb V g x y z := ⟨h.two.to hb, h.zi.to hb⟩
theorem Cb.to {W V : World} {g : Nat} {x y : Value} {z : Int} (h : Cb W g x y z) (hb : Below W.heap.size W V) : Cb V g x y z := ⟨h.two.to hb, h.zc.to hb⟩

/-- What a store into a variable that holds no number leaves as it was. -/
structure Kept (g : Nat) (w V : World) : Prop where
  two : ∀ g' u v, g' ≠ g -> Two w g' u v -> Two V g' u v
  zc : ∀ x y z, Zc w x y z -> Zc V x y z
  zi : ∀ x y z, Zi w x y z -> Zi V x y z
  bel : ∀ B w0, Below B w0 w -> B <= g -> Below B w0 V
  size : V.heap.size = w.heap.size

theorem Rd.set2' {kd : IntKind} {w : World} {B g : Nat} {A : Option Addr} {xs : List Nat} {x y : Value} (t : Two w g x y) (hx : ∀ n : Int, x ≠ .int kd n) (hy : ∀ n : Int, y ≠ .int kd n) (h : Rd kd w B A xs) (a b : Value) : Rd kd ((w.setCell ⟨g, 0, none⟩ a).setCell ⟨g, 1, none⟩ b) B A xs := by
  have h1 : (w.setCell ⟨g, 0, none⟩ a).cell? ⟨g, 1, none⟩ = some y := (World.cell?_setCell_other _ _ _ _ (by simp)).trans t.c1
  exact (h.set t.c0 hx a).set h1 hy b

theorem Kept.of {w : World} {g : Nat} {x y : Value} (t : Two w g x y) (hx : ∀ n : Int, x ≠ .int .u32 n) (hy : ∀ n : Int, y ≠ .int .u32 n) (a b : Value) : Kept g w ((w.setCell ⟨g, 0, none⟩ a).setCell ⟨g, 1, none⟩ b) := by
  have hsz : ((w.setCell ⟨g, 0, none⟩ a).setCell ⟨g, 1, none⟩ b).heap.size = w.heap.size := by simp [World.setCell]
  refine ⟨fun g' u v hne t' => t'.far hne _ _, ?_, ?_, fun B w0 h hg => (h.setCell (p := ⟨g, 0, none⟩) hg _).setCell (p := ⟨g, 1, none⟩) hg _, hsz⟩
  · rintro x y z ⟨A, c, h1, h2, h3, h4, h5⟩
    exact ⟨A, c, h1, h2, (Rd.set2' t hx hy h3 _ _).more (by rw [hsz]; exact Nat.le_refl _), h4, h5⟩
  · rintro x y z ⟨n, A, c, xs, h1, h2, ⟨r1, r2, r3, r4, r5⟩, h4⟩
    exact ⟨n, A, c, xs, h1, h2, ⟨(Rd.set2' t hx hy r1 _ _).more (by rw [hsz]; exact Nat.le_refl _), r2, r3, r4, r5⟩, h4⟩

/-- A flag and a slice. -/
def Fs (x y : Value) : Prop := ∃ n A k c, x = .bool n /\ y = .slice A k c
theorem Zc.fs {w : World} {x y : Value} {z : Int} (h : Zc w x y z) : Fs x y := by
  obtain ⟨A, c, rfl, rfl, _⟩ := h
  exact ⟨_, _, _, _, rfl, rfl⟩
theorem Zi.fs {w : World} {x y : Value} {z : Int} (h : Zi w x y z) : Fs x y := by
  obtain ⟨n, A, c, xs, rfl, rfl, _⟩ := h
  exact ⟨_, _, _, _, rfl, rfl⟩
theorem Fs.nil : Fs (.bool false) (.slice none 0 0) := ⟨_, _, _, _, rfl, rfl⟩

theorem Zc.nint {w : World} {x y : Value} {z : Int} (h : Zc w x y z) : (∀ n : Int, x ≠ .int .u32 n) /\ (∀ n : Int, y ≠ .int .u32 n) := by
  obtain ⟨A, c, rfl, rfl, _⟩ := h
  exact ⟨(fun n e => by cases e), (fun n e => by cases e)⟩

variable {ac : Act} {w : World} {K : Act -> World -> Prop} {Q : Exit -> Act -> World -> Prop} {d : Option Tmp} {ty : TypeId} {pos : String} {after : Array Edge} {guard : Option (Nat × Bool)}

theorem wp_store_two {g : Nat} {x y x0 y0 : Value} {p v : Operand} (hp : ac.eval p = .pointer (some ⟨g, 0, none⟩)) (hv : ac.eval v = .agg #[x, y]) (t : Two w g x0 y0) (f0 : Fs x0 y0) (f1 : Fs x y)
    (h : ∀ V : World, Two V g x y -> Kept g w V -> K (ac.put d undef) V) :
    Oper.wp Tryz.prog ⟨d, .store 29 p v, ty, pos, after, guard⟩ ac w K Q := by
  obtain ⟨n0, A0, k0, c0, rfl, rfl⟩ := f0
  obtain ⟨n1, A1, k1, c1, rfl, rfl⟩ := f1
  have h1 := h _ (t.set _ _) (Kept.of t (fun n e => by cases e) (fun n e => by cases e) _ _)
  have u0 := t.c0
  have u1 := t.c1
  have v0 := t.f0
  have v1 := t.f1
  clear h t
  simp only [Oper.wp, execOp, hp, hv]
  go_simp
  exact h1
end Go.Proofs.YtcgdbdhhoomgiabGreat

namespace Go.Proofs.YtcgdbdhhoomgiabGreat
open Go.RowKit Go.Shelf

/-- A magnitude in base 2^16 that a function is given. -/
structure Hr (w : World) (A : Option Addr) (c : Nat) (xs : List Nat) : Prop where
  rd : Rd .i64 w w.heap.size A xs
  dg : Dg b16 xs
  le : xs.length <= c
  cap : c <= 9223372036854775807
  small : xs.length <= 4294967296

theorem Hr.to {w w' : World} {A : Option Addr} {c : Nat} {xs : List Nat} (h : Hr w A c xs) (hb : Below w.heap.size w w') : Hr w' A c xs := ⟨h.rd.to hb, h.dg, h.le, h.cap, h.small⟩

/-- A call hands back the magnitude n, trimmed. -/
def HRet (w : World) (n : Nat) (e : Ending) (w' : World) : Prop := ∃ A c, e = .returned (.slice A (dig b16 n).length c) /\ Rd .i64 w' w'.heap.size A (dig b16 n) /\ (dig b16 n).length <= c /\ c <= 9223372036854775807 /\ Below w.heap.size w w'

theorem val_le_take {b : Nat} (xs : List Nat) (k : Nat) (h : xs.length <= k) : xs.take k = xs := List.take_of_length_le h

theorem tmod16 (d : Nat) : ((d : Nat) : Int).tmod 65536 = ((d % 65536 : Nat) : Int) := by rw [Int.tmod_eq_emod_of_nonneg (by omega)]; omega
theorem tdiv16 (d : Nat) : ((d : Nat) : Int).tdiv 65536 = ((d / 65536 : Nat) : Int) := by rw [Int.tdiv_eq_ediv_of_nonneg (by omega)]; omega
theorem wrap_nat (d : Nat) (h : d < 9223372036854775808) : IntKind.i64.wrap ((d : Nat) : Int) = (d : Int) := IntWalk.i64_in _ (by omega)

/-- One digit more. -/
theorem digit_step {b k v T : Nat} {S : List Nat} (hl : S.length = k) {N r d : Nat} (h : val b S + b ^ k * r = N) (hv : v = d + r) (hT : T = N + b ^ k * d) : val b (S ++ [v % b]) + b ^ (k + 1) * (v / b) = T := by
  rw [val_append, hl, hT, <- h, Nat.pow_succ]
  simp only [val, Nat.mul_zero, Nat.add_zero]
  have h1 : v = v % b + b * (v / b) := (Nat.mod_add_div v b).symm
  have h2 : b ^ k * v = b ^ k * (v % b) + b ^ k * b * (v / b) := by
    rw [Nat.mul_assoc, <- Nat.mul_add]; rw [<- h1]
  rw [hv, Nat.mul_add, <- hv] at h2
  omega

theorem radd_any {A A' : Option Addr} {c c' : Nat} {xs ys : List Nat} {w : World} (hx : Hr w A c xs) (hy : Hr w A' c' ys) :
    Calls Tryz.prog 96 #[.slice A xs.length c, .slice A' ys.length c'] w (HRet w (val b16 xs + val b16 ys)) := by
  obtain ⟨i0, hi, hz0, hz1, hz2⟩ := info_parts infoInt
  obtain ⟨n, en⟩ : ∃ n, Hid (val b16 xs + val b16 ys = n) := ⟨_, rfl⟩
  rw [en.out]
  have HX := Lib.hid hx
  have HY := Lib.hid hy
  have hxs := hx.small
  have hys := hy.small
  have hxl := hx.le
  have hxc := hx.cap
  have hyl := hy.le
  have hyc := hy.cap
  clear hx hy
  obtain ⟨m, em⟩ : ∃ m, m = max xs.length ys.length := ⟨_, rfl⟩
  have hm1 : xs.length <= m := by omega
  have hm2 : ys.length <= m := by omega
  have hm3 : m <= 4294967296 := by omega
  have EM := Lib.hid em
  clear em
  go_enter Tryz.func96, Tryz.ntmps96
  go_wp2
  go_loopw [5, 6, 7] (fun v q i wr => ∃ (k r : Nat) (S : List Nat) (A1 : Option Addr) (c1 : Nat), v = .slice A1 k c1 /\ q = .int .i64 r /\ i = .int .i64 k /\ r <= 1 /\ k <= m + 1 /\ S.length = k /\ Dg b16 S /\ val b16 S + b16 ^ k * r = val b16 (xs.take k) + val b16 (ys.take k) /\
      wr.ownsRow w.heap.size 3 1 (.slice A1 k c1) k (ints .i64 S) /\ Below w.heap.size w wr) (fun _ _ i _ => m + 1 - (intOf i).toNat)
  case atStart => exact ⟨0, 0, [], none, 0, rfl, rfl, rfl, by omega, by omega, rfl, Dg.nil, by simp [val], by simpa [ints] using World.ownsRow_nil _ _ _ _, Below.refl _ _⟩
  case round =>
    obtain ⟨k, r, S, A1, c1, rfl, rfl, rfl, hr, hk, hS, hdg, hval, hown, hb⟩ := hrel
    by_cases hend : ¬ k < xs.length /\ ¬ k < ys.length /\ ¬ 0 < r
    · obtain ⟨h1, h2, h3⟩ := hend
      obtain rfl : r = 0 := by omega
      have hv : val b16 S = n := by rw [<- en.out, val_le_take (b := b16) xs k (by omega), val_le_take (b := b16) ys k (by omega)] at *; omega
      obtain ⟨hc1, hc2⟩ := own_caps hown
      have hrd := Rd.of_own hown (Nat.le_refl _)
      have HT := Lib.hid (rtrim_any A1 c1 _ S wr hrd (by omega) hc2)
      have hta := trimL_dig b16_one hdg
      rw [hv] at hta
      have htn : trimN S = (dig b16 n).length := by rw [<- hta, trimL_length]
      have hrt : Rd .i64 wr wr.heap.size A1 (dig b16 n) := by rw [<- hta]; exact hrd.take _
      have hle : (dig b16 n).length <= c1 := by rw [<- htn]; have := trimN_le S; omega
      rw [hS, htn] at HT
      have HF := Lib.hid hrt
      have HB := Lib.hid hb
      clear hrt hb hown hrd hta hval hdg htn hv
      go_wp2_with fail
      refine HT.out.mono ?_
      rintro e w' ⟨rfl, rfl⟩
      go_wp2
      go_ret
      exact ⟨A1, c1, rfl, HF.out, hle, hc2, HB.out⟩
    · have hkm : k <= m := by
        refine Classical.byContradiction fun hgt => ?_
        have hk1 : k = m + 1 := by omega
        rw [val_le_take (b := b16) xs k (by omega), val_le_take (b := b16) ys k (by omega)] at hval
        have h1 := val_lt HX.out.dg
        have h2 := val_lt HY.out.dg
        have h3 : b16 ^ xs.length <= b16 ^ m := Nat.pow_le_pow_right (by decide) hm1
        have h4 : b16 ^ ys.length <= b16 ^ m := Nat.pow_le_pow_right (by decide) hm2
        have h5 : b16 ^ k = b16 ^ m * 65536 := by rw [hk1, Nat.pow_succ]; rfl
        have h6 : 1 <= r := by omega
        have h7 : b16 ^ k * 1 <= b16 ^ k * r := Nat.mul_le_mul_left _ h6
        omega
      obtain ⟨x, ex⟩ : ∃ x, Hid (xs.getD k 0 = x) := ⟨_, rfl⟩
      obtain ⟨y, ey⟩ : ∃ y, Hid (ys.getD k 0 = y) := ⟨_, rfl⟩
      have hu := getD_dg (by decide) HX.out.dg k
      have hz := getD_dg (by decide) HY.out.dg k
      have HA1 := Lib.hid (at_int (c := c) (HX.out.to hb).rd (by omega) (k : Int) (by omega) (by omega))
      have HA2 := Lib.hid (at_int (c := c') (HY.out.to hb).rd (by omega) (k : Int) (by omega) (by omega))
      rw [show ((k : Int)).toNat = k from by omega] at HA1 HA2
      rw [ex.out] at hu HA1
      rw [ey.out] at hz HA2
      unfold b16 at hu hz
      obtain ⟨d, ed⟩ : ∃ d, d = x + y + r := ⟨_, rfl⟩
      have hd : d < 131072 := by omega
      have hd2 : d / 65536 <= 1 := by omega
      have hsum : (x : Int) + (y : Int) + (r : Int) = (d : Int) := by omega
      have g1 := tmod16 d
      have g2 := tdiv16 d
      have g3 := wrap_nat (d % 65536) (by omega)
      have g4 := wrap_nat (d / 65536) (by omega)
      have NEXTV : val b16 (S ++ [d % 65536]) + b16 ^ (k + 1) * (d / 65536) = val b16 (xs.take (k + 1)) + val b16 (ys.take (k + 1)) := by
        refine digit_step (d := x + y) hS hval (by omega) ?_
        rw [val_take_succ, val_take_succ, ex.out, ey.out, Nat.mul_add]; omega
      have NV := Lib.hid NEXTV
      have hs1 := hb.size
      have NEXT : ∀ v' w1, w1.ownsRow w.heap.size 3 1 v' (k + 1) (ints .i64 S ++ [.int .i64 ((d % 65536 : Nat) : Int)]) -> (wr.alloc (.cells #[.int .i64 ((d % 65536 : Nat) : Int)] 3)).grownBy w1 (Value.slice A1 k c1).ownBlock ->
          ∃ (A2 : Option Addr) (c2 : Nat), v' = .slice A2 (k + 1) c2 /\ w1.ownsRow w.heap.size 3 1 (.slice A2 (k + 1) c2) (k + 1) (ints .i64 (S ++ [d % 65536])) /\ Below w.heap.size w w1 := by
        intro v' w1 hown' hgrow
        obtain ⟨A2, c2, rfl⟩ := own_shape hown'
        refine ⟨A2, c2, rfl, ?_, (hb.alloc hs1 _).grown hgrow (by simp; omega) (fun j e => (hown.lt j e).1)⟩
        simpa [ints] using hown'
      have hownA := hown.alloc (.cells #[.int .i64 ((d % 65536 : Nat) : Int)] 3)
      have HN := Lib.hid NEXT
      have HSD := Lib.hid hdg
      have hcase : k < xs.length ∨ (¬ k < xs.length /\ k < ys.length) ∨ (¬ k < xs.length /\ ¬ k < ys.length /\ 0 < r) := by omega
      clear NEXT NEXTV hb hown ex ey ed hval hdg hend
      rcases hcase with t1 | ⟨t1, t2⟩ | ⟨t1, t2, t3⟩
      all_goals
        go_wp2_with fail
        refine HA1.out.mono ?_
        rintro e w' ⟨rfl, rfl⟩
        go_wp2_with fail
        refine HA2.out.mono ?_
        rintro e w' ⟨rfl, rfl⟩
        go_wp2_with (at_builtin; refine wpList_append_own _ rfl (.tmp 34) (.tmp 37) 93 rfl w.heap.size 3 i0 (.int .i64 0) 1 8 Tryz.underlying93 hi hz0 hz1 hz2 rfl (by decide) (.slice A1 k c1) k _ rfl hownA ⟨wr.heap.size, 0, none⟩ 1 1 [.int .i64 ((d % 65536 : Nat) : Int)] rfl rfl (cell_one_new _ _ _) (by simp [Value.oneCell']) (by unfold maxLen; omega) (by omega) (by simp; omega) ?_; intro v' w1 hown' hgrow _; obtain ⟨A2, c2, rfl, n1, n2⟩ := HN.out _ _ hown' hgrow; have N1 := Lib.hid n1; have N2 := Lib.hid n2; clear n1 n2 hown' hgrow)
        go_roundw
        case rel => exact ⟨k + 1, d / 65536, S ++ [d % 65536], A2, c2, rfl, by simp, by simp, by omega, by omega, by simp [hS], HSD.out.app (Dg.one (by unfold b16; omega)), NV.out, N1.out, N2.out⟩
        case measure => simp [intOf]; omega
end Go.Proofs.YtcgdbdhhoomgiabGreat

namespace Go.Proofs.YtcgdbdhhoomgiabGreat
open Go.RowKit Go.Shelf

/-- Whether an int64 holds z, and what Int64 hands back. -/
def inI (z : Int) : Bool := decide (-9223372036854775808 <= z /\ z <= 9223372036854775807)
def i64v (z : Int) : Int := if inI z then z else 0

theorem inI_t {z : Int} (h1 : -9223372036854775808 <= z) (h2 : z <= 9223372036854775807) : inI z = true /\ i64v z = z := by
  have h : inI z = true := decide_eq_true ⟨h1, h2⟩
  exact ⟨h, by unfold i64v; rw [h]; rfl⟩
theorem inI_f {z : Int} (h1 : ¬ (-9223372036854775808 <= z /\ z <= 9223372036854775807)) : inI z = false /\ i64v z = 0 := by
  have h : inI z = false := decide_eq_false h1
  exact ⟨h, by unfold i64v; rw [h]; rfl⟩

theorem trim_long {xs : List Nat} (hd : Dg b32 xs) (h : 2 < (trimL xs).length) : 18446744073709551616 <= val b32 xs := by
  refine Classical.byContradiction fun hn => ?_
  have h1 := dig_length_le b32_one (k := 2) (n := val b32 xs) (by rw [show b32 ^ 2 = 18446744073709551616 from by decide]; omega)
  rw [<- trimL_dig b32_one hd] at h1
  omega

theorem int64_any (n : Bool) {A : Option Addr} {c : Nat} {xs : List Nat} {w : World} (hx : Arg w A c xs) :
    Calls Tryz.prog 86 #[.agg #[.bool n, .slice A xs.length c]] w fun e w' => e = .returned (.tuple #[.int .i64 (i64v (zof n (val b32 xs))), .bool (inI (zof n (val b32 xs)))]) /\ Below w.heap.size w w' := by
  have hb := Lib.hid ((Below.refl w.heap.size w).alloc (Nat.le_refl _) (.cells #[.bool n, .slice A xs.length c] 29))
  have HT := Lib.hid (trim_q (hx.to hb.out))
  have hdg := hx.dg
  have hlong := trim_long hdg
  have hv := val_trimL (b := b32) xs
  have HU : Hid ((trimL xs).length <= 2 -> Calls Tryz.prog 90 #[.slice A (trimL xs).length c] (w.alloc (.cells #[.bool n, .slice A xs.length c] 29)) fun e w' => e = .returned (.int .u64 (val b32 (trimL xs) : Nat)) /\ (w.alloc (.cells #[.bool n, .slice A xs.length c] 29)) = w') := fun h =>
    toUint64_any (hx.to hb.out).trim.rd (hx.to hb.out).trim.dg h
  obtain ⟨l, hl⟩ : ∃ l, (trimL xs).length = l := ⟨_, rfl⟩
  obtain ⟨v, ev⟩ : ∃ v, val b32 xs = v := ⟨_, rfl⟩
  have hv64 : l <= 2 -> v < 18446744073709551616 := fun h => by
    have h1 := val_lt hx.trim.dg
    rw [val_trimL, ev] at h1
    have h2 : b32 ^ (trimL xs).length <= b32 ^ 2 := Nat.pow_le_pow_right (by decide) (by omega)
    rw [show b32 ^ 2 = 18446744073709551616 from by decide] at h2
    omega
  have hsl : l <= 4294967295 := by rw [<- hl]; exact Nat.le_trans (trimL_le xs) hx.small
  rw [hv] at HU
  rw [ev] at HU hlong
  rw [hl] at HT HU hlong
  rw [ev]
  clear hv ev hl hdg hx
  rcases Nat.lt_or_ge 2 l with h2 | h2
  · have hz := hlong h2
    obtain ⟨i1, i2⟩ := inI_f (z := zof n v) (by cases n <;> simp [zof] <;> omega)
    rw [i1, i2]
    clear i1 i2 hz hlong hv64
    go_enter Tryz.func86, Tryz.ntmps86
    go_wp2_with fail
    refine HT.out.mono ?_
    rintro e w' ⟨rfl, rfl⟩
    go_wp2
    go_ret2
    exact ⟨rfl, hb.out⟩
  · have HU2 := Lib.hid (HU.out h2)
    have hv := hv64 h2
    clear hlong hv64 HU
    cases n with
    | false =>
      rcases Nat.lt_or_ge 9223372036854775807 v with hbig | hsm
      · obtain ⟨i1, i2⟩ := inI_f (z := zof false v) (by simp [zof]; omega)
        rw [i1, i2]
        clear i1 i2
        rcases Nat.lt_or_ge 9223372036854775808 v with hb2 | hb2
        all_goals
          go_enter Tryz.func86, Tryz.ntmps86
          go_wp2_with fail
          refine HT.out.mono ?_
          rintro e w' ⟨rfl, rfl⟩
          go_wp2_with fail
          refine HU2.out.mono ?_
          rintro e w' ⟨rfl, rfl⟩
          go_wp2
          go_ret2
          exact ⟨rfl, hb.out⟩
      · obtain ⟨i1, i2⟩ := inI_t (z := zof false v) (by unfold zof; simp only [Bool.false_eq_true, if_false]; omega) (by unfold zof; simp only [Bool.false_eq_true, if_false]; omega)
        rw [i1, i2, show zof false v = (v : Int) from by simp [zof]]
        have g := wrap_nat v (by omega)
        clear i1 i2
        go_enter Tryz.func86, Tryz.ntmps86
        go_wp2_with fail
        refine HT.out.mono ?_
        rintro e w' ⟨rfl, rfl⟩
        go_wp2_with fail
        refine HU2.out.mono ?_
        rintro e w' ⟨rfl, rfl⟩
        go_wp2
        go_ret2
        exact ⟨rfl, hb.out⟩
    | true =>
      rcases Nat.lt_or_ge 9223372036854775808 v with hbig | hsm
      · obtain ⟨i1, i2⟩ := inI_f (z := zof true v) (by simp [zof]; omega)
        rw [i1, i2]
        clear i1 i2
        go_enter Tryz.func86, Tryz.ntmps86
        go_wp2_with fail
        refine HT.out.mono ?_
        rintro e w' ⟨rfl, rfl⟩
        go_wp2_with fail
        refine HU2.out.mono ?_
        rintro e w' ⟨rfl, rfl⟩
        go_wp2
        go_ret2
        exact ⟨rfl, hb.out⟩
      · obtain ⟨i1, i2⟩ := inI_t (z := zof true v) (by unfold zof; simp only [if_true]; omega) (by unfold zof; simp only [if_true]; omega)
        obtain ⟨z, ez⟩ : ∃ z, zof true v = z := ⟨_, rfl⟩
        obtain ⟨u, eu⟩ : ∃ u, IntKind.i64.wrap ((v : Nat) : Int) = u := ⟨_, rfl⟩
        have g : IntKind.i64.wrap (-u) = z := by
          rw [<- eu, <- ez, IntKind.wrap_i64, IntKind.wrap_i64]
          simp [zof]
          omega
        rw [i1, i2, ez]
        clear i1 i2 ez
        rcases Nat.lt_or_ge 9223372036854775807 v with hb2 | hb2
        all_goals
          go_enter Tryz.func86, Tryz.ntmps86
          go_wp2_with fail
          refine HT.out.mono ?_
          rintro e w' ⟨rfl, rfl⟩
          go_wp2_with fail
          refine HU2.out.mono ?_
          rintro e w' ⟨rfl, rfl⟩
          go_wp2
          go_ret2
          exact ⟨rfl, hb.out⟩
end Go.Proofs.YtcgdbdhhoomgiabGreat
