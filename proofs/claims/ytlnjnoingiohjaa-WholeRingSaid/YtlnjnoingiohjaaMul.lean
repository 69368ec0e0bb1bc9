/- whole.multiplier, the function that it returns, and whole.multiply. -/
import Derived.Test.YtlnjnoingiohjaaMulMath
import Derived.Test.YtlnjnoingiohjaaBuf
import Derived.Test.YtlnjnoingiohjaaDivide
import Derived.Laws.EntriesVeiled
namespace Go.Proofs.Ytlnjnoingiohjaa
open Go.RowKit Go.Shelf

theorem multiplier_any (f : Nat) (w : World) :
    Calls Try.prog 72 #[.int .u32 (f : Nat), .int .u32 0] w fun e w' => e = .returned (.func (.func 86) #[] #[.pointer (some ⟨w.heap.size, 0, none⟩), .pointer (some ⟨w.heap.size + 1, 0, none⟩)]) ∧
      w' = (w.alloc (.cells #[.int .u32 (f : Nat)] 52)).alloc (.cells #[.int .u64 0] 48) := by
  go_enter Try.func72, Try.ntmps72
  go_wp2
  go_ret
  exact ⟨rfl, rfl⟩

set_option maxHeartbeats 1000000 in
theorem multiplier1_any (f u v r Bf Br : Nat) (w : World) (hf : f < 4294967296) (hu : u < 4294967296) (hv : v < 4294967296) (hr : r < 4294967296)
    (cf : w.cell? ⟨Bf, 0, none⟩ = some (.int .u32 (f : Nat))) (cr : w.cell? ⟨Br, 0, none⟩ = some (.int .u64 (r : Nat))) (fr : w.frozen? ⟨Br, 0, none⟩ = false) :
    Calls Try.prog 86 #[.int .u32 (u : Nat), .int .u32 (v : Nat), .pointer (some ⟨Bf, 0, none⟩), .pointer (some ⟨Br, 0, none⟩)] w fun e w' =>
      e = .returned (.int .u32 ((f * u + v + r) % 4294967296 : Nat)) ∧ w' = w.setCell ⟨Br, 0, none⟩ (.int .u64 ((f * u + v + r) / 4294967296 : Nat)) := by
  have hlt := carry_lt hf hu hv hr
  have hp : (f : Int) * (u : Int) = ((f * u : Nat) : Int) := by simp
  obtain ⟨p, ep⟩ : ∃ p, f * u = p := ⟨_, rfl⟩
  rw [ep] at hlt hp ⊢
  have E1 : Hid (((p + v + r) % 4294967296 : Nat) = ((p : Int) + (v : Int) + (r : Int)) % 4294967296) := by show _ = _; omega
  have E2 : Hid (((p + v + r) / 4294967296 : Nat) = ((p : Int) + (v : Int) + (r : Int)) / 4294967296) := by show _ = _; omega
  have W1 : IntKind.u64.wrap (f : Int) = (f : Int) := by rw [IntKind.wrap_u64]; omega
  have W2 : IntKind.u64.wrap (u : Int) = (u : Int) := by rw [IntKind.wrap_u64]; omega
  have W3 : IntKind.u64.wrap (v : Int) = (v : Int) := by rw [IntKind.wrap_u64]; omega
  have W4 : IntKind.u64.wrap (p : Int) = (p : Int) := by rw [IntKind.wrap_u64]; omega
  have W5 : IntKind.u64.wrap ((p : Int) + (v : Int)) = (p : Int) + (v : Int) := by rw [IntKind.wrap_u64]; omega
  have W6 : IntKind.u64.wrap ((p : Int) + (v : Int) + (r : Int)) = (p : Int) + (v : Int) + (r : Int) := by rw [IntKind.wrap_u64]; omega
  have W7 : IntKind.u64.wrap (((p : Int) + (v : Int) + (r : Int)) / 4294967296) = ((p : Int) + (v : Int) + (r : Int)) / 4294967296 := by rw [IntKind.wrap_u64]; omega
  have W8 : IntKind.u32.wrap ((p : Int) + (v : Int) + (r : Int)) = ((p : Int) + (v : Int) + (r : Int)) % 4294967296 := by simp [IntKind.wrap, IntKind.bits, IntKind.signed]
  have HEP := Lib.hid ep
  clear ep hlt
  rw [E1.out, E2.out]
  go_enter Try.func86, Try.ntmps86
  go_wp2
  go_ret
  exact ⟨rfl, rfl⟩

theorem Buf.from_own {kd : IntKind} {w : World} {base : Nat} {e : TypeId} {g n cap : Nat} {xs : List Nat} (hn : xs.length = n) (h : w.ownsRow base e 1 (.slice (some ⟨g, 0, none⟩) n cap) n (ints kd xs)) : Buf kd e g cap xs w := by
  rcases h.2 with ⟨e, _⟩ | ⟨g', cap', cur, e, _, hg, h1, h2, h3, h4⟩
  · cases e
  · injection e with e1 e2 e3
    injection e1 with e1
    injection e1 with e1
    subst e1 e3 hn
    exact ⟨cur, hg, by omega, by rw [← h4, Nat.mul_one]⟩

/-- Nothing stands from place n on. -/
def Zf (P : List Nat) (n : Nat) : Prop := ∀ j, n ≤ j → P.getD j 0 = 0

theorem Zf.set {P : List Nat} {n j : Nat} (h : Zf P n) (hj : j < n) (v : Nat) : Zf (P.set j v) n := fun i hi => by rw [getD_set_other P v (by omega)]; exact h i hi

set_option maxRecDepth 100000 in
set_option maxHeartbeats 4000000 in
theorem multiply_any {A A' : Option Addr} {c c' : Nat} {xs ys : List Nat} {w : World} (hx : Arg w A c xs) (hy : Arg w A' c' ys) :
    Calls Try.prog 54 #[.slice A xs.length c, .slice A' ys.length c'] w fun e w' => ∃ A1 c1 ps, e = .returned (.slice A1 ps.length c1) ∧ Rd .u32 w' w'.heap.size A1 ps ∧ Dg b32 ps ∧ val b32 ps = val b32 xs * val b32 ys ∧
      ps.length = xs.length + ys.length ∧ ps.length ≤ c1 ∧ c1 ≤ 9223372036854775807 ∧ Below w.heap.size w w' := by
  obtain ⟨i0, hi', hz0, hz1, hz2⟩ := info_parts infoWord
  have HX := Lib.hid hx
  have HY := Lib.hid hy
  have hxl := hx.small
  have hyl := hy.small
  clear hx hy
  obtain ⟨N, hN⟩ : ∃ N, xs.length + ys.length = N := ⟨_, rfl⟩
  have HN := Lib.hid hN
  go_enter Try.func54, Try.ntmps54
  go_wp2_with (at_make; refine wpList_make_full _ rfl _ _ 22 rfl w.heap.size 52 i0 (.int .u32 0) 1 Try.underlying22 hi' hz0 hz1 .i64 .i64 _ _ N rfl rfl (by omega) (by omega) (by rw [hz2]; omega) (by unfold maxLen; omega) (Nat.le_refl _) ?_; intro w4 hown4 hgrow4)
  have hb4 : Below w.heap.size w w4 := (Below.refl _ _).grown hgrow4 (Nat.le_refl _) (fun k e => by cases e)
  have hbuf4 : Buf .u32 52 w.heap.size N (List.replicate N 0) w4 := by
    refine Buf.from_own (base := w.heap.size) (xs := List.replicate N 0) (List.length_replicate ..) ?_
    have h := hown4
    rw [Nat.mul_one, show (Value.int .u32 0).cells = #[.int .u32 0] from rfl, toList_madeCells_one] at h
    simpa [ints] using h
  clear hown4 hgrow4
  go_loopw [19] (fun iv wr => ∃ (i : Nat) (P : List Nat), iv = .int .i64 i ∧ i ≤ xs.length ∧ P.length = N ∧ Dg b32 P ∧ Zf P (i + ys.length) ∧ Hid (val b32 P = val b32 (xs.take i) * val b32 ys) ∧ Buf .u32 52 w.heap.size N P wr ∧ Below w.heap.size w wr)
    (fun iv _ => xs.length - (intOf iv).toNat)
  case atStart =>
    refine ⟨0, List.replicate N 0, rfl, Nat.zero_le _, by simp, ?_, ?_, ?_, hbuf4, hb4⟩
    · intro d hd
      rw [List.eq_of_mem_replicate hd]; decide
    · intro j _
      simp [List.getD, List.getElem?_replicate]
      split <;> rfl
    · show _ = _
      rw [val_zeros]; simp [val]
  case round =>
    obtain ⟨i, P, rfl, hi, hPl, hPd, hPz, HV, hbf, hb⟩ := hrel
    by_cases hlt : i < xs.length
    · obtain ⟨bx, ox, rfl, _, hcx⟩ := (HX.out.to hb).rd.at_ hlt
      have ex := hcx i hlt
      rw [← getD_at hlt] at ex
      have hf := getD_dg (by decide) HX.out.dg i
      have HTK := Lib.hid (val_take_succ (b := b32) xs i)
      obtain ⟨f, ef⟩ : ∃ f, Hid (xs.getD i 0 = f) := ⟨_, rfl⟩
      rw [ef.out] at ex hf HTK
      have hs := hb.size
      have hPzH := Lib.hid hPz
      clear hcx hPz
      go_wp2_with fail
      refine (multiplier_any f _).mono ?_
      rintro e w5 ⟨rfl, ew5⟩
      have b1 : Boxed w5 wr.heap.size 52 (.int .u32 (f : Nat)) := by rw [ew5]; exact (Boxed.new wr _ _).alloc _
      have b2 : Boxed w5 (wr.heap.size + 1) 48 (.int .u64 (0 : Nat)) := by
        have h := Boxed.new (wr.alloc (.cells #[.int .u32 (f : Nat)] 52)) 48 (.int .u64 (0 : Nat))
        rw [World.size_alloc] at h
        rw [ew5]; exact h
      have hbf5 : Buf .u32 52 w.heap.size N P w5 := by rw [ew5]; exact (hbf.kept (World.grownBy_alloc _ _ none) (by simp)).kept (World.grownBy_alloc _ _ none) (by simp)
      have hb5 : Below w.heap.size w w5 := by rw [ew5]; exact (hb.alloc hs _).alloc (by simp; omega) _
      have hgl := hbf.lt
      obtain ⟨B, eB⟩ : ∃ B, wr.heap.size = B := ⟨_, rfl⟩
      rw [eB] at b1 b2 hgl ⊢
      have h0 : Hid (val b32 P + b32 ^ (i + 0) * 0 = val b32 (xs.take i) * val b32 ys + b32 ^ i * (f * val b32 (ys.take 0))) := by show _ = _; rw [HV.out]; simp [val]
      clear ew5 hbf hb hs eB HV ex
      go_wp2
      go_loopw [28] (fun kv wi => ∃ (k : Nat) (Q : List Nat) (r : Nat), kv = .int .i64 k ∧ k ≤ ys.length ∧ Q.length = N ∧ Dg b32 Q ∧ Hid (Zf Q (i + ys.length)) ∧ r < b32 ∧ Hid (val b32 Q + b32 ^ (i + k) * r = val b32 (xs.take i) * val b32 ys + b32 ^ i * (f * val b32 (ys.take k))) ∧
          Buf .u32 52 w.heap.size N Q wi ∧ Boxed wi B 52 (.int .u32 (f : Nat)) ∧ Boxed wi (B + 1) 48 (.int .u64 (r : Nat)) ∧ Below w.heap.size w wi)
        (fun kv _ => ys.length - (intOf kv).toNat)
      case atStart => exact ⟨0, P, 0, rfl, Nat.zero_le _, hPl, hPd, hPzH, by decide, h0, hbf5, b1, b2, hb5⟩
      case round =>
        obtain ⟨k, Q, r, rfl, hk, hQl, hQd, HZ, hr, HV, hbf, c1, c2, hb⟩ := hrel
        have hN2 := HN.out
        by_cases hkl : k < ys.length
        · obtain ⟨by_, oy, rfl, _, hcy⟩ := (HY.out.to hb).rd.at_ hkl
          have ey := hcy k hkl
          rw [← getD_at hkl] at ey
          have hu := getD_dg (by decide) HY.out.dg k
          have hik : i + k < Q.length := by omega
          have ev := hbf.cell hik
          rw [← getD_at hik] at ev
          have fv := hbf.frozen (i + k)
          have hv := getD_dg (by decide) hQd (i + k)
          have HTY := Lib.hid (val_take_succ (b := b32) ys k)
          obtain ⟨u, eu⟩ : ∃ u, Hid (ys.getD k 0 = u) := ⟨_, rfl⟩
          obtain ⟨v, hvv⟩ : ∃ v, Hid (Q.getD (i + k) 0 = v) := ⟨_, rfl⟩
          rw [eu.out] at ey hu HTY
          rw [hvv.out] at ev hv
          have HM := Lib.hid (mul_step (u := u) hik hvv.out HV.out)
          rw [← HTY.out] at HM
          have hclt := carry_lt hf hu hv hr
          have hcar : (f * u + v + r) / b32 < b32 := by rw [Nat.div_lt_iff_lt_mul (by decide)]; exact hclt
          have hdig : (f * u + v + r) % b32 < b32 := Nat.mod_lt _ (by decide)
          have STEP := multiplier1_any f u v r B (B + 1) wr hf hu hv hr c1.cell c2.cell c2.frozen
          rw [show (4294967296 : Nat) = b32 from rfl] at STEP
          obtain ⟨t, et⟩ : ∃ t, (f * u + v + r) % b32 = t := ⟨_, rfl⟩
          obtain ⟨r', er⟩ : ∃ r', (f * u + v + r) / b32 = r' := ⟨_, rfl⟩
          rw [et] at STEP HM hdig
          rw [er] at STEP HM hcar
          have d1 := hbf.kept (grownBy_setCell' wr (B + 1) (.int .u64 (r' : Nat))) (by simp; omega)
          have d2 := c1.other (B' := B + 1) (by omega) (.int .u64 (r' : Nat))
          have d3 := c2.set (.int .u64 (r' : Nat))
          have hs := hb.size
          have d4 := hb.setCell (p := ⟨B + 1, 0, none⟩) (by show w.heap.size ≤ B + 1; omega) (.int .u64 (r' : Nat))
          have ev2 := d1.cell hik
          have fv2 := d1.frozen (i + k)
          have gs := grownBy_at (wr.setCell ⟨B + 1, 0, none⟩ (.int .u64 (r' : Nat))) w.heap.size (i + k) (.int .u32 (t : Nat))
          have FIN : Buf .u32 52 w.heap.size N (Q.set (i + k) t) ((wr.setCell ⟨B + 1, 0, none⟩ (.int .u64 (r' : Nat))).setCell ⟨w.heap.size, i + k, none⟩ (.int .u32 (t : Nat))) ∧
              Boxed ((wr.setCell ⟨B + 1, 0, none⟩ (.int .u64 (r' : Nat))).setCell ⟨w.heap.size, i + k, none⟩ (.int .u32 (t : Nat))) B 52 (.int .u32 (f : Nat)) ∧
              Boxed ((wr.setCell ⟨B + 1, 0, none⟩ (.int .u64 (r' : Nat))).setCell ⟨w.heap.size, i + k, none⟩ (.int .u32 (t : Nat))) (B + 1) 48 (.int .u64 (r' : Nat)) ∧
              Below w.heap.size w ((wr.setCell ⟨B + 1, 0, none⟩ (.int .u64 (r' : Nat))).setCell ⟨w.heap.size, i + k, none⟩ (.int .u32 (t : Nat))) :=
            ⟨d1.set _ _, d2.kept gs (by simp; omega), d3.kept gs (by simp; omega), d4.setCell (p := ⟨w.heap.size, i + k, none⟩) (Nat.le_refl _) _⟩
          have FINH := Lib.hid FIN
          have STEPH := Lib.hid STEP
          have hi0 : (0 : Int) ≤ (i : Int) + (k : Int) := by omega
          have hi1 : (i : Int) + (k : Int) < (N : Int) := by omega
          obtain ⟨o, HO⟩ : ∃ o, Q[i + k] = o := ⟨_, rfl⟩
          rw [HO] at ev2
          clear FIN STEP d1 d2 d3 d4 gs et er hcy hclt HO hbf c1 c2 hb hN2
          go_wp2_with fail
          refine STEPH.out.mono ?_
          rintro e w' ⟨rfl, rfl⟩
          clear STEPH
          go_wp2
          go_roundw
          case rel => exact ⟨k + 1, Q.set (i + k) t, r', by simp, by omega, by rw [List.length_set]; exact hQl, hQd.set _ hdig, HZ.out.set (by omega) _, hcar, HM, FINH.out.1, FINH.out.2.1, FINH.out.2.2.1, FINH.out.2.2.2⟩
          case measure => simp [intOf]; omega
        · obtain rfl : k = ys.length := by omega
          have hik : i + ys.length < Q.length := by omega
          have ev := hbf.cell hik
          have hz0 : Q.getD (i + ys.length) 0 = 0 := HZ.out _ (Nat.le_refl _)
          have HL := Lib.hid (mul_last hik hz0 HV.out)
          rw [List.take_of_length_le (Nat.le_refl _)] at HL
          have STEP := multiplier1_any f 0 0 r B (B + 1) wr hf (by decide) (by decide) hr c1.cell c2.cell c2.frozen
          have e1 : (f * 0 + 0 + r) % 4294967296 = r := by
            rw [Nat.mul_zero, Nat.add_zero, Nat.zero_add]
            exact Nat.mod_eq_of_lt hr
          rw [e1] at STEP
          obtain ⟨r', er⟩ : ∃ r', (f * 0 + 0 + r) / 4294967296 = r' := ⟨_, rfl⟩
          rw [er] at STEP
          have d1 := hbf.kept (grownBy_setCell' wr (B + 1) (.int .u64 (r' : Nat))) (by simp; omega)
          have d4 := hb.setCell (p := ⟨B + 1, 0, none⟩) (by show w.heap.size ≤ B + 1; omega) (.int .u64 (r' : Nat))
          have ev2 := d1.cell hik
          have fv2 := d1.frozen (i + ys.length)
          have FIN : Buf .u32 52 w.heap.size N (Q.set (i + ys.length) r) ((wr.setCell ⟨B + 1, 0, none⟩ (.int .u64 (r' : Nat))).setCell ⟨w.heap.size, i + ys.length, none⟩ (.int .u32 (r : Nat))) ∧
              Below w.heap.size w ((wr.setCell ⟨B + 1, 0, none⟩ (.int .u64 (r' : Nat))).setCell ⟨w.heap.size, i + ys.length, none⟩ (.int .u32 (r : Nat))) :=
            ⟨d1.set _ _, d4.setCell (p := ⟨w.heap.size, i + ys.length, none⟩) (Nat.le_refl _) _⟩
          have HZ2 : Hid (Zf (Q.set (i + ys.length) r) (i + 1 + ys.length)) := fun j hj => by rw [getD_set_other Q r (by omega)]; exact HZ.out j (by omega)
          have HVN : Hid (val b32 (Q.set (i + ys.length) r) = val b32 (xs.take (i + 1)) * val b32 ys) := by
            show _ = _
            rw [HL.out, HTK.out, Nat.add_mul, Nat.mul_assoc]
          have FINH := Lib.hid FIN
          have STEPH := Lib.hid STEP
          have hi0 : (0 : Int) ≤ (i : Int) + (ys.length : Int) := by omega
          have hi1 : (i : Int) + (ys.length : Int) < (N : Int) := by omega
          obtain ⟨o, HO⟩ : ∃ o, Q[i + ys.length] = o := ⟨_, rfl⟩
          rw [HO] at ev2 ev
          clear FIN STEP d1 d4 er HO hbf c1 c2 hb hN2 e1 hz0
          go_wp2_with fail
          refine STEPH.out.mono ?_
          rintro e w' ⟨rfl, rfl⟩
          clear STEPH
          go_wp2
          go_roundw
          case rel => exact ⟨i + 1, Q.set (i + ys.length) r, by simp, by omega, by rw [List.length_set]; exact hQl, hQd.set _ hr, HZ2.out, HVN, FINH.out.1, FINH.out.2⟩
          case measure => simp [intOf]; omega
    · obtain rfl : i = xs.length := by omega
      rw [List.take_of_length_le (Nat.le_refl _)] at HV
      have HR : Hid (Rd .u32 wr wr.heap.size (some ⟨w.heap.size, 0, none⟩) P) := hbf.rd hbf.lt
      have HB := Lib.hid hb
      rw [← hPl]
      have hN2 := HN.out
      clear hbf hb hPz
      go_wp2
      go_ret
      exact ⟨_, _, P, rfl, HR.out, hPd, HV.out, by omega, Nat.le_refl _, by omega, HB.out⟩
end Go.Proofs.Ytlnjnoingiohjaa
