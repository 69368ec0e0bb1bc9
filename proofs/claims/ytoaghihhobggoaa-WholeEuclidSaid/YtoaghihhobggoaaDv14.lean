/- Parts: Format, Is, Alive, AliveWalk. -/
import Derived.Test.YtoaghihhobggoaaDv7
import Derived.Test.YtoaghihhobggoaaDv8
import Derived.Test.YtoaghihhobggoaaDv11
import Derived.Test.YtoaghihhobggoaaDv13
import Derived.Laws.IdiomStrings
set_option linter.unusedVariables false
set_option linter.unusedSimpArgs false

namespace Go.Proofs.Ytoaghihhobggoaa
open Go.RowKit Go.Shelf

theorem infoByte : (Try.prog.info? 5).map (fun i => (i.zero, i.size, i.bytes)) = some (some (.int .u8 0), 1, 1) := by kernel_rfl

/-- The bytes of the decimal representation. -/
def decB (neg : Bool) (m : Nat) : List Nat := if m = 0 then [48] else (revB neg (dig 10 m)).reverse
def decS (neg : Bool) (m : Nat) : ByteArray := ⟨((decB neg m).map UInt8.ofNat).toArray⟩

theorem Buf.of_own {kd : IntKind} {w : World} {base : Nat} {e : TypeId} {g n cap : Nat} {xs : List Nat} (hn : xs.length = n) (h : w.ownsRow base e 1 (.slice (some ⟨g, 0, none⟩) n cap) n (ints kd xs)) : Buf kd e g cap xs w ∧ base ≤ g ∧ n ≤ cap ∧ cap ≤ 9223372036854775807 := by
  rcases h.2 with ⟨e, _⟩ | ⟨g', cap', cur, e, hb, hg, h1, h2, h3, h4⟩
  · cases e
  · injection e with e1 e2 e3
    injection e1 with e1
    injection e1 with e1
    subst e1 e3 hn
    exact ⟨⟨cur, hg, by omega, by rw [← h4, Nat.mul_one]⟩, hb, h1, by simpa [maxLen] using h2⟩

theorem Buf.own {kd : IntKind} {ty : TypeId} {g sz : Nat} {xs : List Nat} {w : World} (h : Buf kd ty g sz xs w) {base : Nat} (hb : base ≤ g) (hs : sz ≤ 9223372036854775807) : w.ownsRow base ty 1 (.slice (some ⟨g, 0, none⟩) xs.length sz) xs.length (ints kd xs) := by
  have hl := h.le
  obtain ⟨cur, h1, h2, h3⟩ := h
  exact ⟨by simp [ints], .inr ⟨g, sz, cur, rfl, hb, h1, hl, by simpa [maxLen] using hs, by omega, by rw [Nat.mul_one]; exact h3⟩⟩

theorem Buf.take {kd : IntKind} {ty : TypeId} {g sz : Nat} {xs : List Nat} {w : World} (h : Buf kd ty g sz xs w) (n : Nat) : Buf kd ty g sz (xs.take n) w := by
  obtain ⟨cur, h1, h2, h3⟩ := h
  refine ⟨cur, h1, h2, ?_⟩
  have h4 := congrArg (List.take n) h3
  rw [List.take_take] at h4
  rw [List.length_take, h4]
  simp [ints, List.map_take]

theorem Buf.not_row {kd : IntKind} {ty e : TypeId} {g sz : Nat} {xs : List Nat} {w : World} (h : Buf kd ty g sz xs w) (hte : ty ≠ e) {base size n : Nat} {v : Value} {ys : List Value} (hr : w.ownsRow base e size v n ys) : some g ≠ v.ownBlock := by
  obtain ⟨cur, h1, _⟩ := h
  rcases hr.2 with ⟨rfl, _⟩ | ⟨g', cap, cur', rfl, _, hgb, _⟩
  · simp [Value.ownBlock]
  · intro e'
    obtain rfl : g = g' := by simpa [Value.ownBlock] using e'
    have := h1.symm.trans hgb
    simp at this
    exact hte this.2

theorem pow_bound {a n V : Nat} (h1 : 10 ^ a ≤ V) (h2 : V < b32 ^ n) : a < 10 * n := by
  have h3 : b32 ^ n ≤ (10 ^ 10) ^ n := Nat.pow_le_pow_left (by decide) n
  rw [← Nat.pow_mul] at h3
  exact (Nat.pow_lt_pow_iff_right (by decide)).1 (Nat.lt_of_le_of_lt h1 (Nat.lt_of_lt_of_le h2 h3))

/-- The text so far: the last byte first. -/
def tx (V n : Nat) : List Nat := (low V n).map (48 + ·)
theorem tx_length (V n : Nat) : (tx V n).length = n := by simp [tx, low_length]
theorem tx_succ (V n : Nat) : tx V (n + 1) = tx V n ++ [48 + V / 10 ^ n % 10] := by simp [tx, low]

/-- How long a slice is. -/
def lenV : Value → Nat
  | .slice _ n _ => n
  | _ => 0

theorem conv_any {g sz cap : Nat} {ys : List Nat} {w : World} (h : Buf .u8 5 g sz ys w) (hy : Dg 256 ys) :
    (convert 68 9 (.slice (some ⟨g, 0, none⟩) ys.length cap)).run Try.prog w = .ok (.string ⟨(ys.map UInt8.ofNat).toArray⟩) w := by
  have h1 := run_convert_bytes_back (P := Try.prog) w 68 9 5 ⟨g, 0, none⟩ cap (ys.map UInt8.ofNat) Try.underlying68 Try.underlying5 Try.underlying9 (by
    intro j hj
    have hj2 : j < ys.length := by simpa using hj
    have h2 := h.cell hj2
    have h3 : ys[j] < 256 := hy.at_ hj2
    have h4 : (⟨g, 0, none⟩ : Addr).add j = ⟨g, j, none⟩ := by cases j <;> simp [Addr.add]
    rw [h4, h2]
    simp
    omega)
  simpa using h1

theorem Dg.append {b : Nat} {xs ys : List Nat} (h : Dg b xs) (k : Dg b ys) : Dg b (xs ++ ys) := fun d hd => (List.mem_append.1 hd).elim (h d) (k d)

theorem tx_dg (V n : Nat) : Dg 256 (tx V n) := by
  intro d hd
  obtain ⟨e, he, rfl⟩ := List.mem_map.1 hd
  have := low_dg V n e he
  omega

theorem tx_at (V : Nat) {n j : Nat} (h : j < n) : (tx V n).getD j 0 = 48 + V / 10 ^ j % 10 := by
  have h1 : (tx V n).take (j + 1) = tx V (j + 1) := by
    unfold tx
    rw [← List.map_take, low_take V (by omega)]
  have h2 : ((tx V n).take (j + 1)).getD j 0 = (tx V n).getD j 0 := by simp [List.getD]
  rw [← h2, h1, tx_succ, List.getD, List.getElem?_append_right (by rw [tx_length]; omega), tx_length, Nat.sub_self]
  rfl

/-- What the text holds once its zeros are gone. -/
theorem tx_dec {V j : Nat} (neg : Bool) (h : V < 10 ^ (j + 1)) (h2 : V / 10 ^ j ≠ 0) (hV : V ≠ 0) : (tx V (j + 1) ++ (if neg then [45] else [])).reverse = decB neg V := by
  have h3 : 10 ^ j ≤ V := Nat.le_of_not_lt fun h => h2 (Nat.div_eq_of_lt h)
  unfold decB revB
  rw [if_neg hV, ← low_dig h (by simpa using h3) (by omega)]
  rfl

theorem div_step (V k : Nat) : V / 10 ^ (9 * k) / 1000000000 = V / 10 ^ (9 * (k + 1)) := by
  rw [Nat.mul_add, Nat.pow_add, ← Nat.div_div_eq_div_mul]

theorem digit_at (V k i : Nat) (h : i < 9) : V / 10 ^ (9 * k) % 1000000000 / 10 ^ i % 10 = V / 10 ^ (9 * k + i) % 10 := by
  have h1 := low_shift V (9 * k) i
  rwa [if_pos h] at h1

set_option maxHeartbeats 1000000 in
theorem format_zero (neg : Bool) {A : Option Addr} {c : Nat} {xs : List Nat} {w : World} (hx : Arg w A c xs) (h0 : val b32 xs = 0) :
    Calls Try.prog 37 #[.agg #[.bool neg, .slice A xs.length c]] w fun e w' => e = .returned (.string (decS neg (val b32 xs))) ∧ Below w.heap.size w w' := by
  have hx1 := hx.to ((Below.refl w.heap.size w).alloc (Nat.le_refl _) (.cells #[.bool neg, .slice A xs.length c] 24))
  have ht : trimL xs = [] := by rw [trimL_dig b32_one hx.dg, h0]; rfl
  have HS : Hid (decS neg (val b32 xs) = ⟨#[48]⟩) := by show _ = _; rw [h0]; rfl
  have HT := Lib.hid (trim_q hx1)
  have HC := Lib.hid (clone_any c hx1.trim.rd (by rw [ht]; simp))
  rw [ht] at HT HC
  have hb1 := Lib.hid ((Below.refl w.heap.size w).alloc (Nat.le_refl _) (.cells #[.bool neg, .slice A xs.length c] 24))
  clear hx1 hx h0 ht
  go_enter Try.func37, Try.ntmps37
  go_wp2_with fail
  refine HT.out.mono ?_
  rintro e w' ⟨rfl, rfl⟩
  go_wp2_with fail
  refine HC.out.mono ?_
  rintro e w2 ⟨v, rfl, hown, hb2⟩
  obtain ⟨A2, c2, rfl⟩ := own_shape hown
  have HB := Lib.hid (hb1.out.trans (hb2.mono hb1.out.size))
  clear hown hb2
  go_wp2
  go_ret
  exact ⟨by rw [HS.out]; rfl, HB.out⟩

set_option maxRecDepth 100000 in
set_option maxHeartbeats 4000000 in
theorem format_pos (neg : Bool) {A : Option Addr} {c : Nat} {xs : List Nat} {w : World} (hx : Arg w A c xs) (h0 : val b32 xs ≠ 0) :
    Calls Try.prog 37 #[.agg #[.bool neg, .slice A xs.length c]] w fun e w' => e = .returned (.string (decS neg (val b32 xs))) ∧ Below w.heap.size w w' := by
  obtain ⟨i0, hi', hz0, hz1, hz2⟩ := info_parts infoByte
  have hx1 := hx.to ((Below.refl w.heap.size w).alloc (Nat.le_refl _) (.cells #[.bool neg, .slice A xs.length c] 24))
  have tZ := Zat.new w (.bool neg) (.slice A xs.length c)
  have hsm := hx1.trim.small
  have ht : trimL xs = dig b32 (val b32 xs) := trimL_dig b32_one hx.dg
  have HT := Lib.hid (trim_q hx1)
  have HC := Lib.hid (clone_any c hx1.trim.rd (by omega))
  rw [ht] at HT HC hsm
  obtain ⟨V, eV⟩ : ∃ V, val b32 xs = V := ⟨_, rfl⟩
  rw [eV] at h0 hsm HT HC ⊢
  obtain ⟨n, hn⟩ : ∃ n, (dig b32 V).length = n := ⟨_, rfl⟩
  have hn0 : 0 < n := by rw [← hn, List.length_pos_iff]; exact fun h => h0 ((dig_nil b32_one).1 h)
  have hVn : V < b32 ^ n := by
    have h := val_lt (Dg_dig b32_one V)
    rwa [val_dig b32_one, hn] at h
  rw [hn] at hsm HT
  have HN := Lib.hid hn
  have hb1 := (Below.refl w.heap.size w).alloc (Nat.le_refl _) (.cells #[.bool neg, .slice A xs.length c] 24)
  have HB1 := Lib.hid hb1
  have TZ := Lib.hid tZ
  clear hx1 hx ht eV hn hb1 tZ
  go_enter Try.func37, Try.ntmps37
  go_wp2_with fail
  refine HT.out.mono ?_
  rintro e w' ⟨rfl, rfl⟩
  go_wp2_with fail
  rw [← HN.out]
  refine HC.out.mono ?_
  rintro e w2 ⟨v, rfl, hown, hb2⟩
  rw [HN.out] at hown
  obtain ⟨m, rfl⟩ : ∃ m, n = m + 1 := ⟨n - 1, by omega⟩
  obtain ⟨g, cap, rfl⟩ := ownsRow_succ hown
  obtain ⟨hbuf, hg1, hg2, hg3⟩ := Buf.of_own HN.out hown
  have tZ2 : Zat w2 w.heap.size (.bool neg) (.slice A xs.length c) := (hb2.block w.heap.size (by simp)).trans TZ.out
  have hbw : Below w.heap.size w w2 := HB1.out.trans (hb2.mono (by simp))
  have hs2 := hbw.size
  have hq : (((m + 1 : Nat) : Int) == 0) = false := by rw [beq_eq_false_iff_ne]; omega
  have hgw : w.heap.size + 1 ≤ g := by simpa using hg1
  clear hown hb2 HT HC HB1 TZ hg1
  go_wp2_with (at_make; refine wpList_make_own _ rfl _ _ 68 rfl w.heap.size 5 i0 (.int .u8 0) 1 Try.underlying68 hi' hz0 hz1 .i64 .i64 _ (10 * (m + 1) + 9 + 1) rfl rfl (by omega) (by rw [hz2]; omega) (by unfold maxLen; omega) hs2 ?_; intro w4 hown4 hgrow4)
  have tZ4 := tZ2.kept hgrow4 (by simp)
  have hbuf4 := hbuf.kept hgrow4 (by simp)
  have hb4 : Below w.heap.size w w4 := hbw.grown hgrow4 hs2 (fun k e => by cases e)
  clear hgrow4 tZ2 hbuf hbw hs2 hq
  go_loopw [3, 4] (fun rv tv wr => ∃ (k : Nat) (tA : Option Addr) (tc : Nat), rv = .slice (some ⟨g, 0, none⟩) (dig b32 (V / 10 ^ (9 * k))).length cap ∧ tv = .slice tA (9 * k) tc ∧ (V / 10 ^ (9 * k) = 0 → 0 < k) ∧ (1 < k → 9 * k ≤ 10 * (m + 1) + 9) ∧ Buf .u32 52 g cap (dig b32 (V / 10 ^ (9 * k))) wr ∧ wr.ownsRow w.heap.size 5 1 (.slice tA (9 * k) tc) (9 * k) (ints .u8 (tx V (9 * k))) ∧ Zat wr w.heap.size (.bool neg) (.slice A xs.length c) ∧ Below w.heap.size w wr)
    (fun _ tv _ => 10 * (m + 1) + 18 - lenV tv)
  case atStart => exact ⟨0, some ⟨w2.heap.size, 0, none⟩, 10 * (m + 1) + 9 + 1, by simp [HN.out], by rfl, by simp [h0], by omega, by simpa using hbuf4, by simpa [tx, low, ints] using hown4, tZ4, hb4⟩
  case round =>
    obtain ⟨k, tA, tc, rfl, rfl, hk0, hkp, hbf, hot, tZ5, hb5⟩ := hrel
    by_cases hz : V / 10 ^ (9 * k) = 0
    · have hk1 := hk0 hz
      have hVk : V < 10 ^ (9 * k) := Nat.lt_of_not_le fun h => absurd (Nat.div_pos h (Nat.pow_pos (by decide))) (by omega)
      have hz2 : (dig b32 (V / 10 ^ (9 * k))).length = 0 := by rw [hz]; rfl
      rw [hz2]
      have hkb : 9 * k ≤ 10 * (m + 1) + 9 := by
        by_cases h1 : k = 1
        · omega
        · have h2 := hkp (by omega)
          omega
      obtain ⟨N, hN⟩ : ∃ N, 9 * k = N + 1 := ⟨9 * k - 1, by omega⟩
      rw [hN] at hot hVk hkb ⊢
      obtain ⟨g2, c2, e2⟩ := ownsRow_succ hot
      injection e2 with e3 _ e4
      subst e3 e4
      obtain ⟨hbt, hg4, hg5, hg6⟩ := Buf.of_own (tx_length V (N + 1)) hot
      have HBT := Lib.hid hbt
      have HV := Lib.hid hVk
      have hs5 := hb5.size
      have HB5 := Lib.hid hb5
      have TZ5 := Lib.hid tZ5
      clear hbf hot hbt hVk hb5 tZ5 hz hz2 hk0 hN
      go_wp2
      go_loop [4] (fun tv => ∃ j, tv = .slice (some ⟨g2, 0, none⟩) (j + 1) tc ∧ j ≤ N ∧ Hid (V < 10 ^ (j + 1))) (fun tv => lenV tv)
      case atStart => exact ⟨N, rfl, Nat.le_refl _, HV⟩
      case round =>
        obtain ⟨j, rfl, hjN, hVj⟩ := hrel
        have hc := HBT.out.cell (j := j) (by rw [tx_length]; omega)
        have hdl : V / 10 ^ j < 10 := by rw [Nat.div_lt_iff_lt_mul (Nat.pow_pos (by decide)), Nat.mul_comm]; exact hVj.out
        rw [← getD_at, tx_at V (by omega), Nat.mod_eq_of_lt hdl] at hc
        obtain ⟨d, ed⟩ : ∃ d, Hid (V / 10 ^ j = d) := ⟨_, rfl⟩
        rw [ed.out] at hdl hc
        by_cases hd0 : d = 0
        · subst hd0
          have hj1 : 0 < j := by
            rcases Nat.eq_zero_or_pos j with h | h
            · have h2 := ed.out
              rw [h, Nat.pow_zero, Nat.div_one] at h2
              exact absurd h2 h0
            · exact h
          obtain ⟨i, rfl⟩ : ∃ i, j = i + 1 := ⟨j - 1, by omega⟩
          have HVI : Hid (V < 10 ^ (i + 1)) := Nat.lt_of_not_le fun h => absurd (Nat.div_pos h (Nat.pow_pos (by decide))) (by have := ed.out; omega)
          go_wp2
          go_round
          case rel => exact ⟨i, by simp, by omega, HVI⟩
          case measure => simp [lenV]
        · have hE : ((48 + (d : Int)) == 48) = false := by rw [beq_eq_false_iff_ne]; omega
          have hE2 : ¬ (48 + (d : Int)) = 48 := by omega
          have hbj := HBT.out.take (j + 1)
          have e5 : (tx V (N + 1)).take (j + 1) = tx V (j + 1) := by unfold tx; rw [← List.map_take, low_take V (by omega)]
          rw [e5] at hbj
          have HDEC := fun neg => tx_dec neg hVj.out (by rw [ed.out]; exact hd0) h0
          have HDECH := Lib.hid HDEC
          have cN := TZ5.out.two.c0
          have hlj : (tx V (j + 1)).length = j + 1 := tx_length V (j + 1)
          have hlr : (tx V (j + 1)).reverse.length = j + 1 := by rw [List.length_reverse]; exact hlj
          have hjc : j + 1 ≤ tc := by omega
          have HBJ := Lib.hid hbj
          clear HDEC e5 hbj hd0
          cases neg with
          | false =>
            have HR := reverse_any g2 tc tc (tx V (j + 1)) wr HBJ.out (by rw [hlj]; exact hjc) hg6
            rw [hlj] at HR
            have HRH := Lib.hid HR
            have HLR := Lib.hid hlr
            clear HR hlj hlr
            go_wp2_with fail
            refine HRH.out.mono ?_
            rintro e w8 ⟨⟨v8, rfl⟩, hb8, hg8⟩
            have hcv := conv_any (cap := tc) hb8 (fun e he => tx_dg V (j + 1) e (List.mem_reverse.1 he))
            rw [HLR.out] at hcv
            have HRES : Hid (.string ⟨((tx V (j + 1)).reverse.map UInt8.ofNat).toArray⟩ = Value.string (decS false V)) := by
              have h := HDECH.out false
              simp only [Bool.false_eq_true, if_false, List.append_nil] at h
              show _ = _
              rw [h]; rfl
            have HBEL := Lib.hid (HB5.out.trans (Grown.below hg8 hg4 hs5))
            rw [HRES.out] at hcv
            clear hb8 hg8
            go_wp2
            go_ret
            exact ⟨rfl, HBEL.out⟩
          | true =>
            have hot2 := (Buf.own HBJ.out hg4 hg6).alloc (.cells #[.int .u8 45] 5)
            rw [hlj] at hot2
            have HBA := Lib.hid (HB5.out.alloc hs5 (.cells #[.int .u8 45] 5))
            have hlt : (Value.slice (some ⟨g2, 0, none⟩) (j + 1) tc).ownBlock = some g2 := rfl
            clear hlr
            go_wp2_with (at_builtin; revert hot2)
            intro hot2
            (refine wpList_append_own _ rfl (.tmp 52) (.tmp 53) 68 rfl w.heap.size 5 i0 (.int .u8 0) 1 1 Try.underlying68 hi' hz0 hz1 hz2 rfl (by decide) (.slice (some ⟨g2, 0, none⟩) (j + 1) tc) (j + 1) _ rfl hot2 ⟨wr.heap.size, 0, none⟩ 1 1 [.int .u8 45] rfl rfl ?c2 (by simp [Value.oneCell']) (by unfold maxLen; omega) (by omega) (by simp; omega) ?_)
            case c2 =>
              intro j' u' hj
              match j', hj with
              | 0, hj =>
                simp at hj
                subst hj
                simp [Addr.add]
            · intro v' w1 hown' hgrow _
              obtain ⟨g3, c3, rfl⟩ := ownsRow_succ hown'
              have hl3 : (tx V (j + 1) ++ [45]).length = j + 1 + 1 := by rw [List.length_append, hlj]; rfl
              obtain ⟨hb3, hg7, hg8, hg9⟩ := Buf.of_own (kd := .u8) (xs := tx V (j + 1) ++ [45]) hl3 (by simpa [ints] using hown')
              have hbel3 := HBA.out.grown hgrow (by simp; omega) (fun j e => by rw [hlt] at e; cases e; exact hg4)
              have HR := reverse_any g3 c3 c3 (tx V (j + 1) ++ [45]) w1 hb3 (by rw [hl3]; exact hg8) hg9
              rw [hl3] at HR
              have HRH := Lib.hid HR
              have hs3 := hbel3.size
              have HB3 := Lib.hid hbel3
              have HL3 : Hid ((tx V (j + 1) ++ [45]).reverse.length = j + 1 + 1) := by show _ = _; rw [List.length_reverse]; exact hl3
              clear HR hlj hl3 hb3 hbel3 hown' hgrow hot2
              go_wp2_with fail
              refine HRH.out.mono ?_
              rintro e w8 ⟨⟨v8, rfl⟩, hb8, hg10⟩
              have hcv := conv_any (cap := c3) hb8 (fun e he => by
                rcases List.mem_append.1 (List.mem_reverse.1 he) with h | h
                · exact tx_dg V (j + 1) e h
                · obtain rfl : e = 45 := by simpa using h
                  decide)
              rw [HL3.out] at hcv
              have HRES : Hid (.string ⟨((tx V (j + 1) ++ [45]).reverse.map UInt8.ofNat).toArray⟩ = Value.string (decS true V)) := by
                have h := HDECH.out true
                simp only [if_true] at h
                show _ = _
                rw [h]; rfl
              have HBEL := Lib.hid (HB3.out.trans (Grown.below hg10 hg7 hs3))
              rw [HRES.out] at hcv
              clear hb8 hg10
              go_wp2
              go_ret
              exact ⟨rfl, HBEL.out⟩
    · have hpk : 10 ^ (9 * k) ≤ V := Nat.le_of_not_lt fun h => hz (Nat.div_eq_of_lt h)
      have hkb := pow_bound hpk hVn
      have HST := Lib.hid (div_step V k)
      have HDG := fun i (h : i < 9) => digit_at V k i h
      have HDGH := Lib.hid HDG
      clear HDG
      obtain ⟨u, eu⟩ : ∃ u, Hid (V / 10 ^ (9 * k) = u) := ⟨_, rfl⟩
      rw [eu.out] at hz hbf HST HDGH ⊢
      have hl : 0 < (dig b32 u).length := List.length_pos_iff.2 fun h => hz ((dig_nil b32_one).1 h)
      have HDW := callsIn_wide.1 (divWord_any g cap cap 1000000000 (dig b32 u) wr hbf (Dg_dig b32_one u) (by decide) (by decide) hbf.le hg3)
      obtain ⟨hq1, hq2⟩ := divs_quot (d := 1000000000) (by decide) (dig b32 u)
      rw [val_dig b32_one] at hq1 hq2
      have hPl : u % 1000000000 < 1000000000 := Nat.mod_lt _ (by decide)
      obtain ⟨P, eP⟩ : ∃ P, Hid (u % 1000000000 = P) := ⟨_, rfl⟩
      rw [eP.out] at hPl HDGH hq2
      have hdq := divs_dg (d := 1000000000) (by decide) (Dg_dig b32_one u)
      have hlq := divs_length 1000000000 (dig b32 u)
      obtain ⟨qs, hqs⟩ : ∃ qs, (divs 1000000000 (dig b32 u)).1 = qs := ⟨_, rfl⟩
      rw [hqs] at hq1 hdq hlq HDW
      rw [hq2] at HDW
      have htr : trimL qs = dig b32 (u / 1000000000) := by rw [trimL_dig b32_one hdq, hq1]
      have hnr : some g ≠ (Value.slice tA (9 * k) tc).ownBlock := hbf.not_row (by decide) hot
      have HDWH := Lib.hid HDW
      have hlz : (0 : Int) < ((dig b32 u).length : Int) := by omega
      clear HDW hq1 hq2 hqs
      go_wp2_with fail
      refine HDWH.out.mono ?_
      rintro e w6 ⟨rfl, hbf6, hgr6⟩
      have hot6 := hot.kept hgr6 (.inr (Ne.symm hnr))
      have tZ6 := tZ5.kept hgr6 (by simp; omega)
      have hb6 := hb5.trans (Grown.below hgr6 (by omega) hb5.size)
      have HTR := Lib.hid (trim_any (some ⟨g, 0, none⟩) cap w6.heap.size qs w6 (hbf6.rd hbf6.lt) hbf6.le hg3)
      rw [hlq, ← trimL_length, htr] at HTR
      have hbf7 := hbf6.take (trimN qs)
      change Buf _ _ _ _ (trimL qs) _ at hbf7
      rw [htr] at hbf7
      clear hbf hot tZ5 hb5 hgr6 hbf6 hnr htr hdq hlq HDWH
      go_wp2_with fail
      refine HTR.out.mono ?_
      rintro e w' ⟨rfl, rfl⟩
      clear HTR hl hlz
      obtain ⟨wo, hwo⟩ : ∃ wo : World, wo = wr := ⟨_, rfl⟩
      go_wp2
      go_loopw [4, 5, 26] (fun tv pv iv wi => ∃ (i : Nat) (sA : Option Addr) (sc : Nat), iv = .int .i64 i ∧ i ≤ 9 ∧ pv = .int .u32 (P / 10 ^ i : Nat) ∧ tv = .slice sA (9 * k + i) sc ∧ Buf .u32 52 g cap (dig b32 (u / 1000000000)) wi ∧ wi.ownsRow w.heap.size 5 1 (.slice sA (9 * k + i) sc) (9 * k + i) (ints .u8 (tx V (9 * k + i))) ∧ Zat wi w.heap.size (.bool neg) (.slice A xs.length c) ∧ Below w.heap.size w wi)
        (fun _ _ iv _ => 9 - (intOf iv).toNat)
      case atStart => exact ⟨0, tA, tc, rfl, by omega, by simp, rfl, hbf7, hot6, tZ6, hb6⟩
      case round =>
        obtain ⟨i, sA, sc, rfl, hi9, rfl, rfl, hbi, hoi, tZi, hbel⟩ := hrel
        by_cases hi : i < 9
        · have HD := Lib.hid (HDGH.out i hi)
          obtain ⟨p, hp⟩ : ∃ p, P / 10 ^ i = p := ⟨_, rfl⟩
          have hp2 : P / 10 ^ (i + 1) = p / 10 := by rw [Nat.pow_succ, ← Nat.div_div_eq_div_mul, hp]
          have hpl : p < 1000000000 := by rw [← hp]; exact Nat.lt_of_le_of_lt (Nat.div_le_self _ _) hPl
          rw [hp] at HD ⊢
          have HP2 := Lib.hid hp2
          have d1 : p % 10 < 10 := Nat.mod_lt _ (by decide)
          obtain ⟨r, hr⟩ : ∃ r, p % 10 = r := ⟨_, rfl⟩
          obtain ⟨q, hq⟩ : ∃ q, p / 10 = q := ⟨_, rfl⟩
          rw [hr] at HD d1
          rw [hq] at HP2
          have hql : q < 1000000000 := by rw [← hq]; omega
          have T1 : Int.tmod (p : Int) 10 = (r : Int) := by rw [← hr]; rfl
          have T2 : Int.tdiv (p : Int) 10 = (q : Int) := by rw [← hq]; rfl
          have W1 : IntKind.u32.wrap (r : Int) = (r : Int) := IntWalk.u32_in _ (by omega)
          have W2 : IntKind.u32.wrap (48 + (r : Int)) = 48 + (r : Int) := IntWalk.u32_in _ (by omega)
          have W3 : IntKind.u8.wrap (48 + (r : Int)) = 48 + (r : Int) := by simp [IntKind.wrap, IntKind.bits, IntKind.signed]; omega
          have W4 : IntKind.u32.wrap (q : Int) = (q : Int) := IntWalk.u32_in _ (by omega)
          have hiz : (i : Int) < 9 := by omega
          have W5 : IntKind.i64.wrap ((i : Int) + 1) = (i : Int) + 1 := IntWalk.i64_in _ (by omega)
          have hs1 := hbel.size
          have hb1 := hbel.alloc hs1 (.cells #[.int .u8 (48 + (r : Int))] 5)
          have ho1 := hoi.alloc (.cells #[.int .u8 (48 + (r : Int))] 5)
          have hnr := hbi.not_row (by decide) hoi
          have hnz := tZi.not_row hoi (by decide)
          have NEXT : ∀ v' w1, w1.ownsRow w.heap.size 5 1 v' (9 * k + i + 1) (ints .u8 (tx V (9 * k + i)) ++ [.int .u8 (48 + (r : Int))]) → (wr.alloc (.cells #[.int .u8 (48 + (r : Int))] 5)).grownBy w1 (Value.slice sA (9 * k + i) sc).ownBlock →
              ∃ (A2 : Option Addr) (c2 : Nat), v' = .slice A2 (9 * k + (i + 1)) c2 ∧ Buf .u32 52 g cap (dig b32 (u / 1000000000)) w1 ∧ w1.ownsRow w.heap.size 5 1 (.slice A2 (9 * k + (i + 1)) c2) (9 * k + (i + 1)) (ints .u8 (tx V (9 * k + (i + 1)))) ∧ Zat w1 w.heap.size (.bool neg) (.slice A xs.length c) ∧ Below w.heap.size w w1 := by
            intro v' w1 hown' hgrow
            obtain ⟨A2, c2, rfl⟩ := own_shape hown'
            refine ⟨A2, c2, rfl, (hbi.kept (World.grownBy_alloc _ _ none) (by simp)).kept hgrow hnr, ?_, (tZi.alloc _).kept hgrow hnz, hb1.grown hgrow (by simp; omega) (fun j e => (hoi.lt j e).1)⟩
            rw [← Nat.add_assoc, tx_succ, ← HD.out]
            simpa [ints] using hown'
          have HNX := Lib.hid NEXT
          clear NEXT hr hq hp hp2 hbi hoi tZi hbel hb1 hnr hnz
          go_wp2_with (at_builtin; refine wpList_append_own _ rfl (.tmp 28) (.tmp 33) 68 rfl w.heap.size 5 i0 (.int .u8 0) 1 1 Try.underlying68 hi' hz0 hz1 hz2 rfl (by decide) (.slice sA (9 * k + i) sc) (9 * k + i) _ rfl ho1 ⟨wr.heap.size, 0, none⟩ 1 1 [.int .u8 (48 + (r : Int))] rfl rfl ?c1 (by simp [Value.oneCell']) (by unfold maxLen; omega) (by omega) (by simp; omega) ?_)
          case c1 =>
            intro j u' hj
            match j, hj with
            | 0, hj =>
              simp at hj
              subst hj
              simp [Addr.add]
          · intro v' w1 hown' hgrow _
            obtain ⟨A2, c2, rfl, n1, n2, n3, n4⟩ := HNX.out v' w1 hown' hgrow
            clear hown' hgrow ho1
            go_wp2
            go_roundw
            case rel => exact ⟨i + 1, A2, c2, by simp, by omega, by rw [HP2.out], rfl, n1, n2, n3, n4⟩
            case measure => simp [intOf]; omega
        · obtain rfl : i = 9 := by omega
          have e9 : 9 * k + 9 = 9 * (k + 1) := by omega
          rw [e9] at hoi ⊢
          have HB := Lib.hid hbi
          have HO := Lib.hid hoi
          have HZ := Lib.hid tZi
          have HL := Lib.hid hbel
          rw [HST.out] at HB
          clear hbi hoi tZi hbel e9
          go_wp2
          go_roundw
          case rel => exact ⟨k + 1, sA, sc, by rw [HST.out], rfl, fun _ => by omega, fun _ => by omega, HB.out, HO.out, HZ.out, HL.out⟩
          case measure => simp [lenV]; omega

theorem format_any (neg : Bool) {A : Option Addr} {c : Nat} {xs : List Nat} {w : World} (hx : Arg w A c xs) :
    Calls Try.prog 37 #[.agg #[.bool neg, .slice A xs.length c]] w fun e w' => e = .returned (.string (decS neg (val b32 xs))) ∧ Below w.heap.size w w' := by
  by_cases h0 : val b32 xs = 0
  · exact format_zero neg hx h0
  · exact format_pos neg hx h0
end Go.Proofs.Ytoaghihhobggoaa

namespace Go.Proofs.Ytoaghihhobggoaa
open Go.RowKit Go.Shelf

theorem same_iff (z v : Int) : decide (decide (z < 0) = decide (v < 0) ∧ dig b32 z.natAbs = dig b32 v.natAbs) = decide (z = v) := by
  by_cases h : z = v
  · subst h; simp
  · rw [decide_eq_false h, decide_eq_false]
    rintro ⟨h1, h2⟩
    have h3 := dig_inj b32_one h2
    by_cases hz : z < 0
    · have : v < 0 := by simpa [hz] using h1
      omega
    · have : ¬ v < 0 := by simpa [hz] using h1
      omega

set_option maxRecDepth 100000 in
set_option maxHeartbeats 2000000 in
theorem is_any {z v : Int} {A : Option Addr} {c : Nat} {w : World} (hr : Rd .u32 w w.heap.size A (dig b32 z.natAbs)) (hc : (dig b32 z.natAbs).length ≤ c) (hc63 : c ≤ 9223372036854775807) (h1 : -9223372036854775808 ≤ v) (h2 : v ≤ 9223372036854775807) :
    Calls Try.prog 43 #[.agg #[.bool (decide (z < 0)), .slice A (dig b32 z.natAbs).length c], .int .i64 v] w fun e w' => e = .returned (.bool (decide (z = v))) ∧ Below w.heap.size w w' := by
  obtain ⟨W0, hW0⟩ : ∃ W0, W0 = w.alloc (.cells #[.bool (decide (z < 0)), .slice A (dig b32 z.natAbs).length c] 24) := ⟨_, rfl⟩
  have hb : Below w.heap.size w W0.drew := by rw [hW0]; exact ((Below.refl _ _).alloc (Nat.le_refl _) _).drew
  have tX : Zat W0.drew w.heap.size (.bool (decide (z < 0))) (.slice A (dig b32 z.natAbs).length c) := by rw [hW0]; exact Zat.new w _ _
  have HF := Lib.hid (rfrom_any v h1 h2 W0.drew)
  have c0 : W0.cell? ⟨w.heap.size, 0, none⟩ = some (.bool (decide (z < 0))) := tX.two.c0
  have c1 : W0.cell? ⟨w.heap.size, 1, none⟩ = some (.slice A (dig b32 z.natAbs).length c) := tX.two.c1
  have HW0 := Lib.hid hW0
  clear hW0 h1 h2
  go_enter Try.func43, Try.ntmps43
  go_wp2_with fail
  rw [← HW0.out]
  refine wp_region_any (by kernel_rfl) ?_
  refine (show wpAny _ _ _ _ _ _ _ (World.drew _) from ?_)
  refine wpAny_take (i := 1) (v := .int .i64 v) rfl (by kernel_rfl) (by kernel_rfl) (by kernel_rfl) (fun _ _ _ h => h) (Or.inl ⟨by rfl, fun _ => by go_simp⟩) ?_
  refine wpAny_ready (rs := [0, 2]) (by kernel_rfl) (by simp) (AllReady.cons rfl (fun K hK => ?_) (AllReady.cons rfl (fun K hK => ?_) AllReady.nil))
  · go_simp; refine hK _ _ ?_; clear hK K
    refine wpAny_ready (rs := [2]) (by kernel_rfl) (by simp) (AllReady.cons rfl (fun K hK => ?_) AllReady.nil)
    go_simp
    refine HF.out.mono ?_
    rintro e w2 ⟨A1, c1, rfl, r1, r2, r3, hb2⟩
    have HS := Lib.hid (same_any (decide (z < 0)) (decide (v < 0)) ((hr.to hb).to hb2) r1 hc hc63 r2 r3)
    rw [same_iff z v] at HS
    have tX2 := tX.two.to hb2
    have cA := tX2.c0
    have cB := tX2.c1
    have HB := Lib.hid (hb.trans (hb2.mono hb.size))
    clear r1 hb2 tX2
    refine hK _ _ ?_; clear hK K
    refine wpAny_ready (rs := [3]) (by kernel_rfl) (by simp) (AllReady.cons rfl (fun K hK => ?_) AllReady.nil)
    go_simp
    refine HS.out.mono ?_
    rintro e w3 ⟨rfl, hb3⟩
    have HB3 := Lib.hid (HB.out.trans (hb3.mono HB.out.size))
    clear hb3
    refine hK _ _ ?_; clear hK K
    refine wpAny_ready (rs := [4]) (by kernel_rfl) (by simp) (AllReady.cons rfl (fun K hK => ?_) AllReady.nil)
    go_simp; refine hK _ _ ?_; clear hK K
    refine wpAny_done (by kernel_rfl) ?_ _
    go_wp2
    go_ret
    exact ⟨rfl, HB3.out⟩
  · go_simp
    refine HF.out.mono ?_
    rintro e w2 ⟨A1, c1, rfl, r1, r2, r3, hb2⟩
    have HS := Lib.hid (same_any (decide (z < 0)) (decide (v < 0)) ((hr.to hb).to hb2) r1 hc hc63 r2 r3)
    rw [same_iff z v] at HS
    have tX2 := tX.two.to hb2
    have cA := tX2.c0
    have cB := tX2.c1
    have HB := Lib.hid (hb.trans (hb2.mono hb.size))
    clear r1 hb2 tX2
    refine hK _ _ ?_; clear hK K
    refine wpAny_ready (rs := [0]) (by kernel_rfl) (by simp) (AllReady.cons rfl (fun K hK => ?_) AllReady.nil)
    go_simp; refine hK _ _ ?_; clear hK K
    refine wpAny_ready (rs := [3]) (by kernel_rfl) (by simp) (AllReady.cons rfl (fun K hK => ?_) AllReady.nil)
    go_simp
    refine HS.out.mono ?_
    rintro e w3 ⟨rfl, hb3⟩
    have HB3 := Lib.hid (HB.out.trans (hb3.mono HB.out.size))
    clear hb3
    refine hK _ _ ?_; clear hK K
    refine wpAny_ready (rs := [4]) (by kernel_rfl) (by simp) (AllReady.cons rfl (fun K hK => ?_) AllReady.nil)
    go_simp; refine hK _ _ ?_; clear hK K
    refine wpAny_done (by kernel_rfl) ?_ _
    go_wp2
    go_ret
    exact ⟨rfl, HB3.out⟩
end Go.Proofs.Ytoaghihhobggoaa

namespace Go.Proofs.Ytoaghihhobggoaa
open Go.RowKit Go.Shelf

theorem dig_small_len {m : Nat} (h : m < 18446744073709551616) : (dig b32 m).length ≤ 2 := dig_length_le b32_one (by rw [show b32 ^ 2 = 18446744073709551616 from by decide]; exact h)

theorem Arg.digits {w : World} {A : Option Addr} {c m : Nat} (h : Rd .u32 w w.heap.size A (dig b32 m)) (hl : (dig b32 m).length ≤ c) (hc : c ≤ 9223372036854775807) (hm : m < 18446744073709551616) : Arg w A c (dig b32 m) :=
  ⟨h, Dg_dig b32_one m, hl, hc, Nat.le_trans (dig_small_len hm) (by decide)⟩

/-- A function's value is an integer of at most two words: m under the sign. -/
def Gv (w : World) (neg : Bool) (m : Nat) (e : Ending) (w' : World) : Prop := ∃ A c xs, e = .returned (.agg #[.bool neg, .slice A xs.length c]) ∧ Hid (xs = dig b32 m) ∧ Arg w' A c xs ∧ Below w.heap.size w w'

theorem Gv.of {w w' : World} {z : Int} {neg : Bool} {m : Nat} {e : Ending} (hn : decide (z < 0) = neg) (hm : z.natAbs = m) (hl : m < 18446744073709551616) (h : ZRet w z e w') : Gv w neg m e w' := by
  subst hn hm
  obtain ⟨A, c, rfl, h1, h2, h3, h4⟩ := h
  exact ⟨A, c, _, rfl, rfl, .digits h1 h2 h3 hl, h4⟩

theorem n_g (z : Int) (neg : Bool) (m : Nat) (h1 : -9223372036854775808 ≤ z) (h2 : z ≤ 9223372036854775807) (hn : decide (z < 0) = neg) (hm : z.natAbs = m) (hl : m < 18446744073709551616) (w : World) :
    Calls Try.prog 42 #[.int .i64 z] w (Gv w neg m) := (n_any z h1 h2 w).mono fun _ _ h => Gv.of hn hm hl h

/-- DivMod's value. -/
def Dv (w : World) (nq : Bool) (q : Nat) (r : Nat) (e : Ending) (w' : World) : Prop := ∃ A c xs A' c' ys, e = .returned (.tuple #[.agg #[.bool nq, .slice A xs.length c], .agg #[.bool false, .slice A' ys.length c'], .int .i64 0]) ∧
  Hid (xs = dig b32 q) ∧ Hid (ys = dig b32 r) ∧ Arg w' A c xs ∧ Arg w' A' c' ys ∧ Below w.heap.size w w'

theorem Dv.of {w w' : World} {q r : Int} {nq : Bool} {mq mr : Nat} {e : Ending} (hn : decide (q < 0) = nq) (hm : q.natAbs = mq) (hl : mq < 18446744073709551616) (hr : r = (mr : Nat)) (hl2 : mr < 18446744073709551616) (h : DRet w q r e w') : Dv w nq mq mr e w' := by
  subst hn hm hr
  obtain ⟨A, c, A', c', rfl, h1, h2, h3, h4, h5, h6, h7⟩ := h
  rw [Int.natAbs_natCast] at h2 h5
  refine ⟨A, c, _, A', c', _, ?_, rfl, rfl, .digits h1 h3 h4 hl, .digits h2 h5 h6 hl2, h7⟩
  rw [Int.natAbs_natCast, show decide (((mr : Nat) : Int) < 0) = false from by simp]

theorem two_of {xs : List Nat} {m : Nat} (h : Hid (xs = dig b32 m)) (hm : m < 18446744073709551616) : val b32 xs = m ∧ (trimL xs).length ≤ 2 := by
  obtain rfl : xs = dig b32 m := h.out
  exact ⟨val_dig b32_one m, by rw [trimL_of_dig b32_one]; exact dig_small_len hm⟩

theorem dm_1 {A A' : Option Addr} {c c' : Nat} {xs ys : List Nat} {w : World} (h1 : Hid (xs = dig b32 7)) (h2 : Hid (ys = dig b32 2)) (hx : Arg w A c xs) (hy : Arg w A' c' ys) :
    Calls Try.prog 33 #[.agg #[.bool true, .slice A xs.length c], .agg #[.bool false, .slice A' ys.length c']] w (Dv w true 4 1) := by
  obtain ⟨v1, t1⟩ := two_of h1 (by decide)
  obtain ⟨v2, _⟩ := two_of h2 (by decide)
  have h := dm_tfn hx hy t1 (by rw [v2]; decide) (by rw [v1, v2]; decide)
  rw [v1, v2] at h
  exact h.mono fun _ _ h => Dv.of (by decide) (by decide) (by decide) (by decide) (by decide) h

theorem dm_2 {A A' : Option Addr} {c c' : Nat} {xs ys : List Nat} {w : World} (h1 : Hid (xs = dig b32 7)) (h2 : Hid (ys = dig b32 2)) (hx : Arg w A c xs) (hy : Arg w A' c' ys) :
    Calls Try.prog 33 #[.agg #[.bool true, .slice A xs.length c], .agg #[.bool true, .slice A' ys.length c']] w (Dv w false 4 1) := by
  obtain ⟨v1, t1⟩ := two_of h1 (by decide)
  obtain ⟨v2, _⟩ := two_of h2 (by decide)
  have h := dm_ttn hx hy t1 (by rw [v2]; decide) (by rw [v1, v2]; decide)
  rw [v1, v2] at h
  exact h.mono fun _ _ h => Dv.of (by decide) (by decide) (by decide) (by decide) (by decide) h

theorem dm_3 {A A' : Option Addr} {c c' : Nat} {xs ys : List Nat} {w : World} (h1 : Hid (xs = dig b32 7)) (h2 : Hid (ys = dig b32 2)) (hx : Arg w A c xs) (hy : Arg w A' c' ys) :
    Calls Try.prog 33 #[.agg #[.bool false, .slice A xs.length c], .agg #[.bool true, .slice A' ys.length c']] w (Dv w true 3 1) := by
  obtain ⟨v1, t1⟩ := two_of h1 (by decide)
  obtain ⟨v2, _⟩ := two_of h2 (by decide)
  have h := dm_ft hx hy t1 (by rw [v2]; decide)
  rw [v1, v2] at h
  exact h.mono fun _ _ h => Dv.of (by decide) (by decide) (by decide) (by decide) (by decide) h

theorem gcd_g (na nb : Bool) (a b m : Nat) {A A' : Option Addr} {c c' : Nat} {xs ys : List Nat} {w : World} (h1 : Hid (xs = dig b32 a)) (h2 : Hid (ys = dig b32 b)) (ha : a < 18446744073709551616) (hb : b < 18446744073709551616) (hm : Nat.gcd a b = m) (hx : Arg w A c xs) (hy : Arg w A' c' ys) :
    Calls Try.prog 35 #[.agg #[.bool na, .slice A xs.length c], .agg #[.bool nb, .slice A' ys.length c']] w (Gv w false m) := by
  obtain ⟨v1, t1⟩ := two_of h1 ha
  obtain ⟨v2, t2⟩ := two_of h2 hb
  have h := gcd_small na nb hx hy t1 t2
  rw [v1, v2] at h
  exact h.mono fun _ _ h => Gv.of (by simp) (by rw [Int.natAbs_natCast]; exact hm) (by rw [← hm]; exact gcd_lt ha hb) h

theorem is_g (z : Int) (neg : Bool) (m : Nat) {A : Option Addr} {c : Nat} {xs : List Nat} {w : World} (h : Hid (xs = dig b32 m)) (hn : decide (z < 0) = neg) (hm : z.natAbs = m) (h1 : -9223372036854775808 ≤ z) (h2 : z ≤ 9223372036854775807) (hx : Arg w A c xs) :
    Calls Try.prog 43 #[.agg #[.bool neg, .slice A xs.length c], .int .i64 z] w fun e w' => e = .returned (.bool true) ∧ Below w.heap.size w w' := by
  have h0 := h.out
  subst hn hm h0
  have h := is_any (z := z) (v := z) hx.rd hx.le hx.cap h1 h2
  simpa using h

theorem dec_min : decS true 9223372036854775808 = ⟨#[45, 57, 50, 50, 51, 51, 55, 50, 48, 51, 54, 56, 53, 52, 55, 55, 53, 56, 48, 56]⟩ := by
  have h := trimL_dig (b := 10) (by decide) (xs := [8, 0, 8, 5, 7, 7, 4, 5, 8, 6, 3, 0, 2, 7, 3, 3, 2, 2, 9]) (by unfold Dg; decide)
  rw [show val 10 [8, 0, 8, 5, 7, 7, 4, 5, 8, 6, 3, 0, 2, 7, 3, 3, 2, 2, 9] = 9223372036854775808 from by decide +kernel] at h
  unfold decS decB revB
  rw [if_neg (by decide), ← h]
  rfl

theorem format_g {A : Option Addr} {c : Nat} {xs : List Nat} {w : World} (h : Hid (xs = dig b32 9223372036854775808)) (hx : Arg w A c xs) :
    Calls Try.prog 37 #[.agg #[.bool true, .slice A xs.length c]] w fun e w' => e = .returned (.string ⟨#[45, 57, 50, 50, 51, 51, 55, 50, 48, 51, 54, 56, 53, 52, 55, 55, 53, 56, 48, 56]⟩) ∧ Below w.heap.size w w' := by
  have h1 := format_any true hx
  rw [(two_of h (by decide)).1, dec_min] at h1
  exact h1

/-- A variable that holds an integer. -/
def Bx (W : World) (g : Nat) (neg : Bool) (m : Nat) (v : Value) : Prop := ∃ A c xs, v = .slice A xs.length c ∧ Two W g (.bool neg) (.slice A xs.length c) ∧ Hid (xs = dig b32 m) ∧ Arg W A c xs

theorem Bx.to {W V : World} {g m : Nat} {neg : Bool} {v : Value} (h : Bx W g neg m v) (hb : Below W.heap.size W V) : Bx V g neg m v := by
  obtain ⟨A, c, xs, h1, h2, h3, h4⟩ := h
  exact ⟨A, c, xs, h1, h2.to hb, h3, h4.to hb⟩
end Go.Proofs.Ytoaghihhobggoaa

namespace Go.Proofs.Ytoaghihhobggoaa
open Go.RowKit Go.Shelf

/-- A variable that holds an integer, and its words. -/
structure Bz (W : World) (g : Nat) (neg : Bool) (A : Option Addr) (c : Nat) (xs : List Nat) : Prop where
  two : Two W g (.bool neg) (.slice A xs.length c)
  arg : Arg W A c xs

theorem Bz.to {W V : World} {g c : Nat} {neg : Bool} {A : Option Addr} {xs : List Nat} (h : Bz W g neg A c xs) (hb : Below W.heap.size W V) : Bz V g neg A c xs := ⟨h.two.to hb, h.arg.to hb⟩

theorem pair_new {w : World} {na nb : Bool} {A B : Option Addr} {c d : Nat} {xs ys : List Nat} (a : Arg w A c xs) (b : Arg w B d ys) :
    Bz ((w.alloc (.cells #[.bool na, .slice A xs.length c] 24)).alloc (.cells #[.bool nb, .slice B ys.length d] 24)) w.heap.size na A c xs ∧
    Bz ((w.alloc (.cells #[.bool na, .slice A xs.length c] 24)).alloc (.cells #[.bool nb, .slice B ys.length d] 24)) (w.heap.size + 1) nb B d ys ∧
    Below w.heap.size w ((w.alloc (.cells #[.bool na, .slice A xs.length c] 24)).alloc (.cells #[.bool nb, .slice B ys.length d] 24)) := by
  have hb : Below w.heap.size w ((w.alloc (.cells #[.bool na, .slice A xs.length c] 24)).alloc (.cells #[.bool nb, .slice B ys.length d] 24)) := ((Below.refl _ _).alloc (Nat.le_refl _) _).alloc (by simp) _
  refine ⟨⟨(Two.new w _ _ _).alloc _, a.to hb⟩, ⟨?_, b.to hb⟩, hb⟩
  have h := Two.new (w.alloc (.cells #[.bool na, .slice A xs.length c] 24)) (.bool nb) (.slice B ys.length d) 24
  rwa [World.size_alloc] at h

theorem one_new (w : World) (o : Obj) : Below w.heap.size w (w.alloc o) := (Below.refl _ _).alloc (Nat.le_refl _) _

set_option maxRecDepth 100000 in
set_option maxHeartbeats 8000000 in
theorem alive_any (w : World) : Calls Try.prog 10 #[] w fun e w' => e = .returned (.bool true) ∧ Below w.heap.size w w' := by
  have HB := Below.refl w.heap.size w
  go_enter Try.func10, Try.ntmps10
  go_wp2_with fail
  refine (n_g (-7) true 7 (by decide) (by decide) (by decide) (by decide) (by decide) _).mono ?_
  rintro e w1 ⟨A1, c1, x1, rfl, h1, a1, b⟩
  replace HB := HB.trans (b.mono HB.size)
  clear b
  go_wp2_with fail
  refine (n_g (2) false 2 (by decide) (by decide) (by decide) (by decide) (by decide) _).mono ?_
  rintro e w2 ⟨A2, c2, x2, rfl, h2, a2, b⟩
  replace a1 := a1.to b
  replace HB := HB.trans (b.mono HB.size)
  clear b
  go_wp2_with fail
  refine (dm_1 h1 h2 a1 a2).mono ?_
  rintro e w3 ⟨Aq1, cq1, xq1, Ar1, cr1, xr1, rfl, hq1, hr1, aq, ar, b⟩
  replace a1 := a1.to b
  replace a2 := a2.to b
  replace HB := HB.trans (b.mono HB.size)
  clear b
  clear a1 a2 h1 h2
  obtain ⟨p1, r1, b⟩ := pair_new (na := true) (nb := false) aq ar
  replace HB := HB.trans (b.mono HB.size)
  clear b aq ar
  obtain ⟨g1, hg1⟩ : ∃ g, g = w3.heap.size := ⟨_, rfl⟩
  obtain ⟨V1, hV1⟩ : ∃ V, V = (w3.alloc (.cells #[.bool true, .slice Aq1 xq1.length cq1] 24)).alloc (.cells #[.bool false, .slice Ar1 xr1.length cr1] 24) := ⟨_, rfl⟩
  go_wp2_with fail
  rw [← hV1, ← hg1] at p1 r1
  rw [← hV1] at HB
  rw [← hV1, ← hg1]
  clear hV1 hg1
  go_wp2_with fail
  refine (n_g (-7) true 7 (by decide) (by decide) (by decide) (by decide) (by decide) _).mono ?_
  rintro e w4 ⟨A1, c1, x1, rfl, h1, a1, b⟩
  replace p1 := p1.to b
  replace r1 := r1.to b
  replace HB := HB.trans (b.mono HB.size)
  clear b
  go_wp2_with fail
  refine (n_g (-2) true 2 (by decide) (by decide) (by decide) (by decide) (by decide) _).mono ?_
  rintro e w5 ⟨A2, c2, x2, rfl, h2, a2, b⟩
  replace p1 := p1.to b
  replace r1 := r1.to b
  replace a1 := a1.to b
  replace HB := HB.trans (b.mono HB.size)
  clear b
  go_wp2_with fail
  refine (dm_2 h1 h2 a1 a2).mono ?_
  rintro e w6 ⟨Aq2, cq2, xq2, Ar2, cr2, xr2, rfl, hq2, hr2, aq, ar, b⟩
  replace p1 := p1.to b
  replace r1 := r1.to b
  replace a1 := a1.to b
  replace a2 := a2.to b
  replace HB := HB.trans (b.mono HB.size)
  clear b
  clear a1 a2 h1 h2
  obtain ⟨p2, r2, b⟩ := pair_new (na := false) (nb := false) aq ar
  replace p1 := p1.to b
  replace r1 := r1.to b
  replace HB := HB.trans (b.mono HB.size)
  clear b aq ar
  obtain ⟨g2, hg2⟩ : ∃ g, g = w6.heap.size := ⟨_, rfl⟩
  obtain ⟨V2, hV2⟩ : ∃ V, V = (w6.alloc (.cells #[.bool false, .slice Aq2 xq2.length cq2] 24)).alloc (.cells #[.bool false, .slice Ar2 xr2.length cr2] 24) := ⟨_, rfl⟩
  go_wp2_with fail
  rw [← hV2, ← hg2] at p2 r2
  rw [← hV2] at HB p1 r1
  rw [← hV2, ← hg2]
  clear hV2 hg2
  go_wp2_with fail
  refine (n_g (7) false 7 (by decide) (by decide) (by decide) (by decide) (by decide) _).mono ?_
  rintro e w7 ⟨A1, c1, x1, rfl, h1, a1, b⟩
  replace p1 := p1.to b
  replace r1 := r1.to b
  replace p2 := p2.to b
  replace r2 := r2.to b
  replace HB := HB.trans (b.mono HB.size)
  clear b
  go_wp2_with fail
  refine (n_g (-2) true 2 (by decide) (by decide) (by decide) (by decide) (by decide) _).mono ?_
  rintro e w8 ⟨A2, c2, x2, rfl, h2, a2, b⟩
  replace p1 := p1.to b
  replace r1 := r1.to b
  replace p2 := p2.to b
  replace r2 := r2.to b
  replace a1 := a1.to b
  replace HB := HB.trans (b.mono HB.size)
  clear b
  go_wp2_with fail
  refine (dm_3 h1 h2 a1 a2).mono ?_
  rintro e w9 ⟨Aq3, cq3, xq3, Ar3, cr3, xr3, rfl, hq3, hr3, aq, ar, b⟩
  replace p1 := p1.to b
  replace r1 := r1.to b
  replace p2 := p2.to b
  replace r2 := r2.to b
  replace a1 := a1.to b
  replace a2 := a2.to b
  replace HB := HB.trans (b.mono HB.size)
  clear b
  clear a1 a2 h1 h2
  obtain ⟨p3, r3, b⟩ := pair_new (na := true) (nb := false) aq ar
  replace p1 := p1.to b
  replace r1 := r1.to b
  replace p2 := p2.to b
  replace r2 := r2.to b
  replace HB := HB.trans (b.mono HB.size)
  clear b aq ar
  obtain ⟨g3, hg3⟩ : ∃ g, g = w9.heap.size := ⟨_, rfl⟩
  obtain ⟨V3, hV3⟩ : ∃ V, V = (w9.alloc (.cells #[.bool true, .slice Aq3 xq3.length cq3] 24)).alloc (.cells #[.bool false, .slice Ar3 xr3.length cr3] 24) := ⟨_, rfl⟩
  go_wp2_with fail
  rw [← hV3, ← hg3] at p3 r3
  rw [← hV3] at HB p1 r1 p2 r2
  rw [← hV3, ← hg3]
  clear hV3 hg3
  go_wp2_with fail
  refine (parse_minus_zero _).mono ?_
  rintro e w10 ⟨rfl, b⟩
  replace p1 := p1.to b
  replace r1 := r1.to b
  replace p2 := p2.to b
  replace r2 := r2.to b
  replace p3 := p3.to b
  replace r3 := r3.to b
  replace HB := HB.trans (b.mono HB.size)
  clear b
  have b := one_new w10 (.cells #[.bool false, .slice none 0 0] 24)
  replace p1 := p1.to b
  replace r1 := r1.to b
  replace p2 := p2.to b
  replace r2 := r2.to b
  replace p3 := p3.to b
  replace r3 := r3.to b
  replace HB := HB.trans (b.mono HB.size)
  clear b
  have e0 := p1.two.c0
  have e1 := p1.two.c1
  go_wp2_with fail
  refine (is_g (-4) true 4 hq1 (by decide) (by decide) (by decide) (by decide) p1.arg).mono ?_
  rintro e w11 ⟨rfl, b⟩
  clear e0 e1
  replace r1 := r1.to b
  replace p2 := p2.to b
  replace r2 := r2.to b
  replace p3 := p3.to b
  replace r3 := r3.to b
  replace HB := HB.trans (b.mono HB.size)
  clear b
  clear p1
  have e0 := r1.two.c0
  have e1 := r1.two.c1
  go_wp2_with fail
  refine (is_g (1) false 1 hr1 (by decide) (by decide) (by decide) (by decide) r1.arg).mono ?_
  rintro e w12 ⟨rfl, b⟩
  clear e0 e1
  replace p2 := p2.to b
  replace r2 := r2.to b
  replace p3 := p3.to b
  replace r3 := r3.to b
  replace HB := HB.trans (b.mono HB.size)
  clear b
  clear r1
  have e0 := p2.two.c0
  have e1 := p2.two.c1
  go_wp2_with fail
  refine (is_g (4) false 4 hq2 (by decide) (by decide) (by decide) (by decide) p2.arg).mono ?_
  rintro e w13 ⟨rfl, b⟩
  clear e0 e1
  replace r2 := r2.to b
  replace p3 := p3.to b
  replace r3 := r3.to b
  replace HB := HB.trans (b.mono HB.size)
  clear b
  clear p2
  have e0 := r2.two.c0
  have e1 := r2.two.c1
  go_wp2_with fail
  refine (is_g (1) false 1 hr2 (by decide) (by decide) (by decide) (by decide) r2.arg).mono ?_
  rintro e w14 ⟨rfl, b⟩
  clear e0 e1
  replace p3 := p3.to b
  replace r3 := r3.to b
  replace HB := HB.trans (b.mono HB.size)
  clear b
  clear r2
  have e0 := p3.two.c0
  have e1 := p3.two.c1
  go_wp2_with fail
  refine (is_g (-3) true 3 hq3 (by decide) (by decide) (by decide) (by decide) p3.arg).mono ?_
  rintro e w15 ⟨rfl, b⟩
  clear e0 e1
  replace r3 := r3.to b
  replace HB := HB.trans (b.mono HB.size)
  clear b
  clear p3
  have e0 := r3.two.c0
  have e1 := r3.two.c1
  go_wp2_with fail
  refine (is_g (1) false 1 hr3 (by decide) (by decide) (by decide) (by decide) r3.arg).mono ?_
  rintro e w16 ⟨rfl, b⟩
  clear e0 e1
  replace HB := HB.trans (b.mono HB.size)
  clear b
  clear r3
  go_wp2_with fail
  refine (n_g (-12) true 12 (by decide) (by decide) (by decide) (by decide) (by decide) _).mono ?_
  rintro e w17 ⟨A1, c1, x1, rfl, h1, a1, b⟩
  replace HB := HB.trans (b.mono HB.size)
  clear b
  go_wp2_with fail
  refine (n_g (18) false 18 (by decide) (by decide) (by decide) (by decide) (by decide) _).mono ?_
  rintro e w18 ⟨A2, c2, x2, rfl, h2, a2, b⟩
  replace a1 := a1.to b
  replace HB := HB.trans (b.mono HB.size)
  clear b
  go_wp2_with fail
  refine (gcd_g true false 12 18 6 h1 h2 (by decide) (by decide) (by decide) a1 a2).mono ?_
  rintro e w19 ⟨A3, c3, x3, rfl, h3, a3, b⟩
  replace a1 := a1.to b
  replace a2 := a2.to b
  replace HB := HB.trans (b.mono HB.size)
  clear b
  clear a1 a2 h1 h2
  go_wp2_with fail
  refine (is_g 6 false 6 h3 (by decide) (by decide) (by decide) (by decide) a3).mono ?_
  rintro e w20 ⟨rfl, b⟩
  replace HB := HB.trans (b.mono HB.size)
  clear b
  clear a3 h3
  go_wp2_with fail
  refine (n_g (0) false 0 (by decide) (by decide) (by decide) (by decide) (by decide) _).mono ?_
  rintro e w21 ⟨A1, c1, x1, rfl, h1, a1, b⟩
  replace HB := HB.trans (b.mono HB.size)
  clear b
  go_wp2_with fail
  refine (n_g (-5) true 5 (by decide) (by decide) (by decide) (by decide) (by decide) _).mono ?_
  rintro e w22 ⟨A2, c2, x2, rfl, h2, a2, b⟩
  replace a1 := a1.to b
  replace HB := HB.trans (b.mono HB.size)
  clear b
  go_wp2_with fail
  refine (gcd_g false true 0 5 5 h1 h2 (by decide) (by decide) (by decide) a1 a2).mono ?_
  rintro e w23 ⟨A3, c3, x3, rfl, h3, a3, b⟩
  replace a1 := a1.to b
  replace a2 := a2.to b
  replace HB := HB.trans (b.mono HB.size)
  clear b
  clear a1 a2 h1 h2
  go_wp2_with fail
  refine (is_g 5 false 5 h3 (by decide) (by decide) (by decide) (by decide) a3).mono ?_
  rintro e w24 ⟨rfl, b⟩
  replace HB := HB.trans (b.mono HB.size)
  clear b
  clear a3 h3
  go_wp2_with fail
  refine (n_g (-9223372036854775808) true 9223372036854775808 (by decide) (by decide) (by decide) (by decide) (by decide) _).mono ?_
  rintro e w25 ⟨A1, c1, x1, rfl, h1, a1, b⟩
  replace HB := HB.trans (b.mono HB.size)
  clear b
  go_wp2_with fail
  refine (format_g h1 a1).mono ?_
  rintro e w26 ⟨rfl, b⟩
  replace HB := HB.trans (b.mono HB.size)
  clear b
  clear a1 h1
  have HBH := Lib.hid HB
  clear HB
  go_wp2
  go_ret
  exact ⟨by rfl, HBH.out⟩
end Go.Proofs.Ytoaghihhobggoaa
