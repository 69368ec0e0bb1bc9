/- Parts: U64, From, Same, RefTrim, Halves, Of, Gcd, Divide. -/
import Derived.Test.YtbmnloelimmgiaaFq1
import Derived.Test.YtbmnloelimmgiaaFq3
import Derived.BigQuiet
import Derived.Deep.QuietTactic
import Derived.Maps.AppendAt
import Derived.RegionTactic
set_option linter.unusedVariables false
set_option linter.unusedSimpArgs false

namespace Go.Proofs.Ytbmnloelimmgiaa
set_option maxRecDepth 100000
open Go.RowKit Go.Shelf

theorem ret_u64 {a b : Int} (h : a = b) : Ending.returned (.int .u64 a) = Ending.returned (.int .u64 b) := by rw [h]

theorem or_words (a b : Nat) (ha : a < 4294967296) (hb : b < 4294967296) : bits .or .u64 (bits .or .u64 0 (a : Int)) ((b : Int) * 4294967296) = ((a + b * 4294967296 : Nat) : Int) := by
  have h1 : bits .or .u64 0 (a : Int) = (a : Int) := by
    have h := bits_or_u64_nat 0 a (by omega) (by omega)
    rw [Nat.zero_or] at h
    exact h
  rw [h1, show ((b : Int) * 4294967296) = ((b * 4294967296 : Nat) : Int) from by simp, bits_or_u64_nat a (b * 4294967296) (by omega) (by omega)]
  have h2 := Nat.shiftLeft_add_eq_or_of_lt (i := 32) (b := a) (by omega) b
  rw [Nat.shiftLeft_eq] at h2
  rw [Nat.or_comm, show b * 4294967296 = b * 2 ^ 32 from rfl, ← h2, Nat.add_comm]

theorem or_word (a : Nat) (ha : a < 4294967296) : bits .or .u64 0 (a : Int) = (a : Int) := by
  have h := bits_or_u64_nat 0 a (by omega) (by omega)
  rw [Nat.zero_or] at h
  exact h

set_option maxHeartbeats 1000000 in
theorem toUint64_two (A : Option Addr) (c a b : Nat) (w : World) (hx : Rd .u32 w w.heap.size A [a, b]) (ha : a < 4294967296) (hb : b < 4294967296) :
    Calls Try.prog 59 #[.slice A 2 c] w fun e w' => e = .returned (.int .u64 ((a + b * 4294967296 : Nat) : Int)) ∧ w = w' := by
  obtain ⟨B, o, rfl, _, hc⟩ := hx.at_ (k := 0) (by simp)
  have h0 := hc 0 (by simp)
  have h1 := hc 1 (by simp)
  simp only [List.getElem_cons_zero, List.getElem_cons_succ, Nat.add_zero] at h0 h1
  clear hc hx
  go_enter Try.func59, Try.ntmps59
  go_wp2
  refine wp_loop_rounds 3 ?_
  rw [rounds_succ]
  go_wp2
  rw [rounds_succ]
  go_wp2
  rw [rounds_succ]
  go_wp2
  go_ret
  exact ⟨ret_u64 (or_words a b ha hb), rfl⟩

set_option maxHeartbeats 1000000 in
theorem toUint64_one (A : Option Addr) (c a : Nat) (w : World) (hx : Rd .u32 w w.heap.size A [a]) (ha : a < 4294967296) :
    Calls Try.prog 59 #[.slice A 1 c] w fun e w' => e = .returned (.int .u64 (a : Nat)) ∧ w = w' := by
  obtain ⟨B, o, rfl, _, hc⟩ := hx.at_ (k := 0) (by simp)
  have h0 := hc 0 (by simp)
  simp only [List.getElem_cons_zero, Nat.add_zero] at h0
  clear hc hx
  go_enter Try.func59, Try.ntmps59
  go_wp2
  refine wp_loop_rounds 2 ?_
  rw [rounds_succ]
  go_wp2
  rw [rounds_succ]
  go_wp2
  go_ret
  exact ⟨ret_u64 (or_word a ha), rfl⟩

set_option maxHeartbeats 1000000 in
theorem toUint64_nil (A : Option Addr) (c : Nat) (w : World) :
    Calls Try.prog 59 #[.slice A 0 c] w fun e w' => e = .returned (.int .u64 0) ∧ w = w' := by
  go_enter Try.func59, Try.ntmps59
  go_wp2
  refine wp_loop_rounds 1 ?_
  rw [rounds_succ]
  go_wp2
  go_ret
  exact ⟨rfl, rfl⟩

theorem toUint64_any {A : Option Addr} {c : Nat} {xs : List Nat} {w : World} (hx : Rd .u32 w w.heap.size A xs) (hd : Dg b32 xs) (hl : xs.length ≤ 2) :
    Calls Try.prog 59 #[.slice A xs.length c] w fun e w' => e = .returned (.int .u64 (val b32 xs : Nat)) ∧ w = w' := by
  match xs, hl with
  | [], _ => exact toUint64_nil A c w
  | [a], _ => exact toUint64_one A c a w hx (hd a (by simp))
  | [a, b], _ =>
    have h := toUint64_two A c a b w hx (hd a (by simp)) (hd b (by simp))
    rw [show val b32 [a, b] = a + b * 4294967296 from by simp only [val, b32]; omega]
    exact h

set_option maxHeartbeats 1000000 in
theorem smallGCD_any (x y : Nat) (w : World) (hx : x < 18446744073709551616) (hy : y < 18446744073709551616) :
    Calls Try.prog 58 #[.int .u64 (x : Nat), .int .u64 (y : Nat)] w fun e w' => e = .returned (.int .u64 (Nat.gcd x y : Nat)) ∧ ∃ d, w' = w.drewN d := by
  obtain ⟨g, eg⟩ : ∃ g, Hid (Nat.gcd x y = g) := ⟨_, rfl⟩
  rw [eg.out]
  go_enter Try.func58, Try.ntmps58
  go_wp2
  go_loopw [0, 1] (fun u v wr => ∃ a b d : Nat, u = .int .u64 (a : Nat) ∧ v = .int .u64 (b : Nat) ∧ a < 18446744073709551616 ∧ b < 18446744073709551616 ∧ Hid (Nat.gcd a b = g) ∧ wr = w.drewN d) (fun _ v _ => (intOf v).toNat)
  case atStart => exact ⟨x, y, 0, rfl, rfl, hx, hy, eg, rfl⟩
  case round =>
    obtain ⟨a, b, d, rfl, rfl, ha, hb, hg, rfl⟩ := hrel
    rcases Nat.eq_zero_or_pos b with h0 | h0
    · subst h0
      have ht : ((0 : Int) != 0) = false := rfl
      have HG : Hid (a = g) := by have h := hg.out; rw [Nat.gcd_zero_right] at h; exact h
      clear hg
      go_wp2
      go_ret
      exact ⟨ret_u64 (by rw [HG.out]), d, rfl⟩
    · have ht : ((b : Int) != 0) = true := by rw [bne_iff_ne]; omega
      have hlt : a % b < b := Nat.mod_lt _ h0
      have HG : Hid (Nat.gcd b (a % b) = g) := by
        have h := hg.out
        rw [Nat.gcd_comm, Nat.gcd_rec] at h
        rw [Nat.gcd_comm]; exact h
      have hb1 : (1 : Int) ≤ (b : Int) := by omega
      obtain ⟨m, em⟩ : ∃ m, Hid (a % b = m) := ⟨_, rfl⟩
      rw [em.out] at HG hlt
      have hm : ((a : Int).tmod (b : Int)) = (m : Int) := by rw [Int.tmod_eq_emod_of_nonneg (by omega), ← em.out]; simp
      clear hg
      go_wp2
      go_quiet (fail)
      clear hm
      go_wp2
      go_roundw
      case rel => exact ⟨b, m, _, rfl, rfl, hb, by omega, HG, by rw [World.drewN_drewN]⟩
      case measure => simp [intOf]; omega
end Go.Proofs.Ytbmnloelimmgiaa

namespace Go.Proofs.Ytbmnloelimmgiaa
set_option maxRecDepth 100000
open Go.RowKit Go.Shelf

theorem toWords_l (n : Nat) (hn : n < 18446744073709551616) (w : World) :
    Calls Try.prog 47 #[.int .u64 (n : Nat)] w fun e w' => ∃ A c, e = .returned (.slice A (dig b32 n).length c) ∧ Rd .u32 w' w'.heap.size A (dig b32 n) ∧ (dig b32 n).length ≤ c ∧ c ≤ 9223372036854775807 ∧ Below w.heap.size w w' := by
  refine (toWords_any n hn w).mono ?_
  rintro e w' ⟨v, rfl, ⟨A, c, rfl, h1, h2, h3⟩, hb⟩
  exact ⟨A, c, rfl, h1, h2, h3, hb⟩

theorem wrap_neg_neg (m : Nat) (hm : m < 18446744073709551616) : IntKind.u64.wrap (-IntKind.u64.wrap (-(m : Int))) = (m : Int) := by
  rw [IntKind.wrap_u64, IntKind.wrap_u64]; omega

theorem zof_dig (neg : Bool) (n : Nat) : zof neg (val b32 (dig b32 n)) = zof neg n := by rw [val_dig b32_one]

set_option maxHeartbeats 1000000 in
theorem fromInt64_pos (m : Nat) (hm : m < 9223372036854775808) (w : World) :
    Calls Try.prog 27 #[.int .i64 (m : Nat)] w (ZRet w ((m : Nat))) := by
  have t0 := Two.new w (.bool false) (.slice none 0 0) 24
  have HB0 := Lib.hid ((Below.refl w.heap.size w).alloc (Nat.le_refl _) (.cells #[.bool false, .slice none 0 0] 24))
  have hm' : m < 18446744073709551616 := by omega
  go_enter Try.func27, Try.ntmps27
  go_wp2_with fail
  refine (toWords_l m hm' _).mono ?_
  rintro e w2 ⟨A1, c1, rfl, r1, r2, r3, hb2⟩
  have HI := Lib.hid (integer_l false r1 (Dg_dig b32_one m) r2 r3)
  rw [zof_dig] at HI
  have tR2 := t0.to hb2
  have HB := Lib.hid (HB0.out.trans (hb2.mono HB0.out.size))
  clear r1 hb2 t0
  obtain ⟨z, ez⟩ : ∃ z, Hid (zof false m = z) := ⟨_, rfl⟩
  rw [ez.out] at HI
  go_wp2_with fail
  refine HI.out.mono ?_
  rintro e w3 ⟨A3, c3, rfl, s1, s2, s3, hb3⟩
  obtain ⟨q1, q2, q3, q4, q5⟩ := tR2.to hb3
  have S1 := Lib.hid s1
  have HB3 := Lib.hid (HB.out.trans (hb3.mono HB.out.size))
  clear s1 hb3 tR2
  go_wp2
  have tF := (⟨q1, q2, q3, q4, q5⟩ : Two w3 w.heap.size _ _).set (.bool (decide (z < 0))) (.slice A3 (dig b32 z.natAbs).length c3)
  refine bodyPost_ret (v := .agg #[.bool (decide (z < 0)), .slice A3 (dig b32 z.natAbs).length c3]) (by simp [results, Try.f27, go_sem, tF.c0, tF.c1]) rfl ?_
  rw [show ((m : Nat) : Int) = z from by rw [← ez.out]; rfl]
  exact zret_stored ⟨q1, q2, q3, q4, q5⟩ (Nat.le_refl _) S1.out s2 s3 HB3.out

set_option maxHeartbeats 1000000 in
theorem fromInt64_neg (m : Nat) (hm0 : 0 < m) (hm : m ≤ 9223372036854775808) (w : World) :
    Calls Try.prog 27 #[.int .i64 (-(m : Int))] w (ZRet w (-(m : Int))) := by
  have t0 := Two.new w (.bool false) (.slice none 0 0) 24
  have HB0 := Lib.hid ((Below.refl w.heap.size w).alloc (Nat.le_refl _) (.cells #[.bool false, .slice none 0 0] 24))
  have hm' : m < 18446744073709551616 := by omega
  go_enter Try.func27, Try.ntmps27
  go_wp2_with fail
  rw [wrap_neg_neg m hm']
  refine (toWords_l m hm' _).mono ?_
  rintro e w2 ⟨A1, c1, rfl, r1, r2, r3, hb2⟩
  have HI := Lib.hid (integer_l true r1 (Dg_dig b32_one m) r2 r3)
  rw [zof_dig] at HI
  have tR2 := t0.to hb2
  have HB := Lib.hid (HB0.out.trans (hb2.mono HB0.out.size))
  clear r1 hb2 t0
  obtain ⟨z, ez⟩ : ∃ z, Hid (zof true m = z) := ⟨_, rfl⟩
  rw [ez.out] at HI
  go_wp2_with fail
  refine HI.out.mono ?_
  rintro e w3 ⟨A3, c3, rfl, s1, s2, s3, hb3⟩
  obtain ⟨q1, q2, q3, q4, q5⟩ := tR2.to hb3
  have S1 := Lib.hid s1
  have HB3 := Lib.hid (HB.out.trans (hb3.mono HB.out.size))
  clear s1 hb3 tR2
  go_wp2
  have tF := (⟨q1, q2, q3, q4, q5⟩ : Two w3 w.heap.size _ _).set (.bool (decide (z < 0))) (.slice A3 (dig b32 z.natAbs).length c3)
  refine bodyPost_ret (v := .agg #[.bool (decide (z < 0)), .slice A3 (dig b32 z.natAbs).length c3]) (by simp [results, Try.f27, go_sem, tF.c0, tF.c1]) rfl ?_
  rw [show (-(m : Int) : Int) = z from by rw [← ez.out]; rfl]
  exact zret_stored ⟨q1, q2, q3, q4, q5⟩ (Nat.le_refl _) S1.out s2 s3 HB3.out

theorem fromInt64_any (n : Int) (h1 : -9223372036854775808 ≤ n) (h2 : n ≤ 9223372036854775807) (w : World) :
    Calls Try.prog 27 #[.int .i64 n] w (ZRet w n) := by
  rcases Int.lt_or_le n 0 with h | h
  · obtain ⟨m, rfl⟩ : ∃ m : Nat, n = -(m : Int) := ⟨n.natAbs, by omega⟩
    exact fromInt64_neg m (by omega) (by omega) w
  · obtain ⟨m, rfl⟩ := Int.eq_ofNat_of_zero_le h
    exact fromInt64_pos m (by omega) w

end Go.Proofs.Ytbmnloelimmgiaa

namespace Go.Proofs.Ytbmnloelimmgiaa
set_option maxRecDepth 100000
open Go.RowKit Go.Shelf

theorem ret_bool {a b : Bool} (h : a = b) : Ending.returned (.bool a) = Ending.returned (.bool b) := by rw [h]
theorem bel_drewN {B : Nat} {a w : World} (h : Below B a w) (n : Nat) : Below B a (w.drewN n) := ⟨h.os, h.tape, h.output, h.size, h.block⟩

theorem take_ne {xs ys : List Nat} {k : Nat} (h1 : k < xs.length) (h2 : k < ys.length) (hne : xs[k] ≠ ys[k]) : xs ≠ ys := by
  rintro rfl
  exact hne rfl

theorem take_eq_succ {xs ys : List Nat} {k : Nat} (h1 : k < xs.length) (h2 : k < ys.length) (h : xs.take k = ys.take k) (he : xs[k] = ys[k]) : xs.take (k + 1) = ys.take (k + 1) := by
  rw [take_snoc xs k h1, take_snoc ys k h2, h, he]

end Go.Proofs.Ytbmnloelimmgiaa

namespace Go.Proofs.Ytbmnloelimmgiaa
set_option maxRecDepth 100000
open Go.RowKit

end Go.Proofs.Ytbmnloelimmgiaa

namespace Go.Proofs.Ytbmnloelimmgiaa
set_option maxRecDepth 100000
open Go.RowKit Go.Shelf

def b16 : Nat := 65536
theorem b16_one : 1 < b16 := by decide

def hw : List Nat → List Nat
  | [] => []
  | d :: r => d % 65536 :: d / 65536 :: hw r

theorem hw_append (xs ys : List Nat) : hw (xs ++ ys) = hw xs ++ hw ys := by
  induction xs with
  | nil => rfl
  | cons d r ih => simp [hw, ih]
theorem hw_length (xs : List Nat) : (hw xs).length = 2 * xs.length := by
  induction xs with
  | nil => rfl
  | cons d r ih => simp [hw, ih]; omega
theorem hw_dg {xs : List Nat} (h : Dg b32 xs) : Dg b16 (hw xs) := by
  induction xs with
  | nil => exact Dg.nil
  | cons d r ih =>
    have hd := h d (by simp)
    unfold b32 at hd
    exact Dg.cons (by unfold b16; omega) (Dg.cons (by unfold b16; omega) (ih fun e he => h e (List.mem_cons_of_mem _ he)))
theorem hw_val (xs : List Nat) : val b16 (hw xs) = val b32 xs := by
  induction xs with
  | nil => rfl
  | cons d r ih =>
    rw [hw, val, val, val, ih]
    generalize val b32 r = t
    unfold b16 b32
    omega
theorem hw_take (xs : List Nat) (k : Nat) (h : k < xs.length) : hw (xs.take (k + 1)) = hw (xs.take k) ++ [xs[k] % 65536, xs[k] / 65536] := by
  rw [take_snoc xs k h, hw_append]; rfl

theorem own_shape {w : World} {base : Nat} {e : TypeId} {size n : Nat} {v : Value} {xs : List Value} (h : w.ownsRow base e size v n xs) : ∃ A c, v = .slice A n c := by
  rcases h.2 with ⟨rfl, rfl⟩ | ⟨g, cap, cur, rfl, _⟩
  · exact ⟨_, _, rfl⟩
  · exact ⟨_, _, rfl⟩

/-- append at a step of a region that draws its order, its run known (the plain walk). -/
theorem step_append_out {P : Program} {w w' : World} {ops : Array Oper} {o : Oper} {a : Act} {K : Act → World → Prop} {Q : Exit → Act → World → Prop} {E : Prop} {v u v' : Value}
    (hgd : o.guard = none) (s x : Operand) (t : TypeId) (ho : o.op = .call { callee := .builtin .append, args := #[s, x], argTypes := #[t, t] })
    (hs : a.eval s = v) (hx : a.eval x = u) (hrun : (Builtin.append_ #[t, t] o.type #[v, u]).run P w = .ok v' w') (h : K (a.put o.dst v') w') :
    if Region.wanted o (yielded ops a.tmps) = true then Oper.wp P o a w K Q else E := by
  have hw : Region.wanted o (yielded ops a.tmps) = true := by simp [Region.wanted, hgd]
  rw [if_pos hw]
  unfold Oper.wp execOp
  simp only [ho, resolve, invoke, builtin, Sem.run_bind, Sem.run_pure, Result.andThen_ok, List.map_toArray, List.map_cons, List.map_nil, hs, hx, hrun]
  exact h

theorem infoInt : (Try.prog.info? 3).map (fun i => (i.zero, i.size, i.bytes)) = some (some (.int .i64 0), 1, 8) := by kernel_rfl

end Go.Proofs.Ytbmnloelimmgiaa

namespace Go.Proofs.Ytbmnloelimmgiaa
set_option maxRecDepth 100000
open Go.RowKit Go.Shelf

/-- The first k words that the digits t make, two digits a word. -/
def pks (t : List Nat) : Nat → List Nat
  | 0 => []
  | k + 1 => pks t k ++ [t.getD (2 * k) 0 + t.getD (2 * k + 1) 0 * 65536]

theorem pks_length (t : List Nat) : ∀ k, (pks t k).length = k
  | 0 => rfl
  | k + 1 => by simp [pks, pks_length t k]
theorem pks_dg {t : List Nat} (h : Dg b16 t) : ∀ k, Dg b32 (pks t k)
  | 0 => Dg.nil
  | k + 1 => by
    have h1 := getD_dg (by decide) h (2 * k)
    have h2 := getD_dg (by decide) h (2 * k + 1)
    unfold b16 at h1 h2
    exact (pks_dg h k).app (Dg.one (by unfold b32; omega))
theorem pow_2k (k : Nat) : b32 ^ k = b16 ^ (2 * k) := by rw [Nat.pow_mul]; rfl
theorem pks_val (t : List Nat) : ∀ k, val b32 (pks t k) = val b16 (t.take (2 * k))
  | 0 => by simp [pks, val]
  | k + 1 => by
    rw [pks, val_append, pks_length, pks_val t k, show 2 * (k + 1) = 2 * k + 1 + 1 from by omega, val_take_succ t (2 * k + 1), val_take_succ t (2 * k), pow_2k, Nat.pow_succ]
    simp only [val, Nat.mul_zero, Nat.add_zero]
    rw [Nat.mul_add, show b16 ^ (2 * k) * b16 * t.getD (2 * k + 1) 0 = b16 ^ (2 * k) * (t.getD (2 * k + 1) 0 * 65536) from by rw [Nat.mul_assoc, Nat.mul_comm b16]; rfl]
    omega

/-- A row without zeros at its end is not small. -/
theorem val_low {b : Nat} (hb : 0 < b) : ∀ {zs : List Nat}, trimN zs = zs.length → zs ≠ [] → b ^ (zs.length - 1) ≤ val b zs := by
  intro zs
  induction zs with
  | nil => intro _ h; exact absurd rfl h
  | cons d r ih =>
    intro ht _
    simp only [trimN, List.length_cons] at ht
    by_cases h0 : trimN r = 0
    · rw [if_pos h0] at ht
      by_cases hd : d = 0
      · rw [if_pos hd] at ht; omega
      · rw [if_neg hd] at ht
        have : r.length = 0 := by omega
        simp [this, val]; omega
    · rw [if_neg h0] at ht
      have hr : r ≠ [] := by rintro rfl; simp [trimN] at h0
      have h1 := ih (by omega) hr
      have h2 : 0 < r.length := List.length_pos_iff.2 hr
      simp only [val, List.length_cons, Nat.add_sub_cancel]
      have h3 : b ^ r.length = b * b ^ (r.length - 1) := by
        rw [Nat.mul_comm, ← Nat.pow_succ]; congr 1; omega
      have h4 := Nat.mul_le_mul_left b h1
      omega

/-- All words that the digits make, where the digits have no zeros at their end. -/
theorem pks_all {t : List Nat} (h : Dg b16 t) (ht : trimN t = t.length) {N : Nat} (h1 : t.length ≤ 2 * N) (h2 : 2 * N ≤ t.length + 1) : pks t N = dig b32 (val b16 t) := by
  have hv : val b32 (pks t N) = val b16 t := by rw [pks_val, List.take_of_length_le h1]
  have hd := pks_dg h N
  have he := trimL_dig b32_one hd
  rw [hv] at he
  rw [← he]
  have hl := trimL_length (pks t N)
  suffices trimN (pks t N) = N by
    unfold trimL
    rw [this, List.take_of_length_le (by rw [pks_length]; omega)]
  have hle := trimN_le (pks t N)
  rw [pks_length] at hle
  rcases Nat.lt_or_ge (trimN (pks t N)) N with hlt | hge
  · exfalso
    have h3 : val b32 (trimL (pks t N)) < b32 ^ trimN (pks t N) := by
      have := val_lt (hd.take (trimN (pks t N)))
      unfold trimL
      rwa [List.length_take, pks_length, Nat.min_eq_left hle] at this
    rw [val_trimL, hv] at h3
    have hne : t ≠ [] := by rintro rfl; simp at h1 h2; omega
    have h4 := val_low (b := b16) (by decide) ht hne
    rw [pow_2k] at h3
    have h5 : b16 ^ (2 * trimN (pks t N)) ≤ b16 ^ (t.length - 1) := Nat.pow_le_pow_right (by decide) (by omega)
    omega
  · omega

/-- Block g is just a Z's two cells, none frozen. -/
def Zat (W : World) (g : Nat) (a b : Value) : Prop := W.heap[g]? = some (.cells #[a, b] 24 (0, 0))
theorem Zat.two {W : World} {g : Nat} {a b : Value} (h : Zat W g a b) : Two W g a b := Two.of h
theorem Zat.new (W : World) (a b : Value) : Zat (W.alloc (.cells #[a, b] 24)) W.heap.size a b := World.alloc_heap_new W _
theorem Zat.kept {W V : World} {row : Option Nat} {g : Nat} {a b : Value} (h : Zat W g a b) (hg : W.grownBy V row) (hne : some g ≠ row) : Zat V g a b := (hg.block g h.two.lt hne).trans h
theorem Zat.alloc {W : World} {g : Nat} {a b : Value} (h : Zat W g a b) (o : Obj) : Zat (W.alloc o) g a b := (Below.heap_alloc W o g h.two.lt).trans h
theorem Zat.not_row {W : World} {g : Nat} {a b : Value} (h : Zat W g a b) {base : Nat} {e : TypeId} {size n : Nat} {v : Value} {xs : List Value} (hr : W.ownsRow base e size v n xs) (hne : 24 ≠ e) : some g ≠ v.ownBlock := by
  rcases hr.2 with ⟨rfl, _⟩ | ⟨g', cap, cur, rfl, _, hh, _⟩
  · simp [Value.ownBlock]
  · intro he
    obtain rfl : g = g' := by simpa [Value.ownBlock] using he
    rw [show W.heap[g]? = _ from h] at hh
    injection hh with hh
    injection hh with _ h2
    exact hne h2

theorem own_caps {w : World} {base : Nat} {e : TypeId} {size n c : Nat} {A : Option Addr} {xs : List Value} (h : w.ownsRow base e size (.slice A n c) n xs) : n ≤ c ∧ c ≤ 9223372036854775807 := by
  rcases h.2 with ⟨e, rfl⟩ | ⟨g, cap, cur, e, _, _, h1, h2, _⟩
  · injection e with _ _ e; subst e; exact ⟨by omega, by omega⟩
  · injection e with _ _ e; subst e; exact ⟨h1, by simpa [maxLen] using h2⟩

end Go.Proofs.Ytbmnloelimmgiaa

namespace Go.Proofs.Ytbmnloelimmgiaa
set_option maxRecDepth 100000
open Go.RowKit Go.Shelf

theorem trim_q {A : Option Addr} {c : Nat} {xs : List Nat} {w : World} (h : Arg w A c xs) :
    Calls Try.prog 45 #[.slice A xs.length c] w fun e w' => e = .returned (.slice A (trimL xs).length c) ∧ w' = w := (trim_l h).mono fun _ _ ⟨h1, h2⟩ => ⟨h1, h2.symm⟩

theorem clone_l {A : Option Addr} {c : Nat} {xs : List Nat} {w : World} (h : Arg w A c xs) :
    Calls Try.prog 56 #[.slice A xs.length c] w fun e w' => ∃ A1 c1, e = .returned (.slice A1 xs.length c1) ∧ Rd .u32 w' w'.heap.size A1 xs ∧ xs.length ≤ c1 ∧ c1 ≤ 9223372036854775807 ∧ Below w.heap.size w w' := by
  refine (clone_any c h.rd (by have := h.small; omega)).mono ?_
  rintro e w' ⟨v, rfl, hown, hb⟩
  obtain ⟨A1, c1, rfl, h1, h2, h3⟩ := Sl.of_own hown
  exact ⟨A1, c1, rfl, h1, h2, h3, hb⟩

theorem two_lt {xs : List Nat} (hd : Dg b32 xs) (h : (trimL xs).length ≤ 2) : val b32 (trimL xs) < 18446744073709551616 := by
  have h1 := val_lt (hd.take (trimN xs))
  have h2 : b32 ^ (trimL xs).length ≤ b32 ^ 2 := Nat.pow_le_pow_right (by decide) h
  have h3 : b32 ^ 2 = 18446744073709551616 := by decide
  unfold trimL at h2 ⊢
  omega

theorem gcd_lt {a b : Nat} (ha : a < 18446744073709551616) (hb : b < 18446744073709551616) : Nat.gcd a b < 18446744073709551616 := by
  rcases Nat.eq_zero_or_pos a with h | h
  · subst h; rw [Nat.gcd_zero_left]; exact hb
  · exact Nat.lt_of_le_of_lt (Nat.gcd_le_left b h) ha

set_option maxHeartbeats 2000000 in
theorem gcd_a (na nb : Bool) {A A' : Option Addr} {c c' : Nat} {xs ys : List Nat} {w : World} (hx : Arg w A c xs) (hy : Arg w A' c' ys) (hxl : (trimL xs).length ≤ 2) (hyl : (trimL ys).length ≤ 2) (hlt : val b32 ys ≤ val b32 xs) (hz : 0 < val b32 ys) :
    Calls Try.prog 32 #[.agg #[.bool na, .slice A xs.length c], .agg #[.bool nb, .slice A' ys.length c']] w (ZRet w (Nat.gcd (val b32 xs) (val b32 ys) : Nat)) := by
  have HX := Lib.hid hx
  have HY := Lib.hid hy
  have HLT := Lib.hid hlt
  have HZ := Lib.hid hz
  have hlen : ((trimL ys).length = 0) ↔ val b32 ys = 0 := by
    rw [trimL_dig b32_one hy.dg]
    exact ⟨fun h => (dig_nil b32_one).1 (List.eq_nil_of_length_eq_zero h), fun h => by rw [h]; rfl⟩
  have hq : ((((trimL ys).length : Nat) : Int) == 0) = false := by
    have : (trimL ys).length ≠ 0 := fun h => by have := hlen.1 h; omega
    rw [beq_eq_false_iff_ne]; omega
  clear hx hy hlt hz hlen
  obtain ⟨W0, hW0⟩ : ∃ W0, W0 = ((w.alloc (.cells #[.bool na, .slice A xs.length c] 24)).alloc (.cells #[.bool nb, .slice A' ys.length c'] 24)).alloc (.cells #[.bool false, .slice none 0 0] 24) := ⟨_, rfl⟩
  have hb : Below w.heap.size w W0 := by rw [hW0]; exact (((Below.refl _ _).alloc (Nat.le_refl _) _).alloc (by simp) _).alloc (by simp; omega) _
  have tX : Zat W0 w.heap.size (.bool na) (.slice A xs.length c) := by rw [hW0]; exact ((Zat.new w _ _).alloc _).alloc _
  have tY : Zat W0 (w.heap.size + 1) (.bool nb) (.slice A' ys.length c') := by
    have h := Zat.new (w.alloc (.cells #[.bool na, .slice A xs.length c] 24)) (.bool nb) (.slice A' ys.length c')
    rw [World.size_alloc] at h
    rw [hW0]; exact h.alloc _
  have tR : Zat W0 (w.heap.size + 1 + 1) (.bool false) (.slice none 0 0) := by
    have h := Zat.new ((w.alloc (.cells #[.bool na, .slice A xs.length c] 24)).alloc (.cells #[.bool nb, .slice A' ys.length c'] 24)) (.bool false) (.slice none 0 0)
    rw [World.size_alloc, World.size_alloc] at h
    rw [hW0]; exact h
  have q1 := tX.two.c1
  have q2 := tY.two.c1
  have HW0 := Lib.hid hW0
  clear hW0
  go_enter Try.func32, Try.ntmps32
  go_wp2_with fail
  rw [← HW0.out]
  go_quiet ((first | (go_at_call 45; with_reducible exact Calls.quiet_of_same (trim_q (HX.out.to (hb.trans (bel_drewN (Below.refl _ _) _))))) | (go_at_call 45; with_reducible exact Calls.quiet_of_same (trim_q (HY.out.to (hb.trans (bel_drewN (Below.refl _ _) _)))))))
  rename_i nq
  have hb1 : Below w.heap.size w (W0.drewN nq) := bel_drewN hb _
  have tR1 : Zat (W0.drewN nq) (w.heap.size + 1 + 1) (.bool false) (.slice none 0 0) := tR
  generalize W0.drewN nq = W1 at hb1 tR1 ⊢
  clear q1 q2 tX tY tR hb HW0
  go_wp2_with fail
  refine (compare_l (HX.out.to hb1) (HY.out.to hb1)).mono ?_
  obtain ⟨cv, hcv, hcv0⟩ : ∃ cv, cmpN (val b32 xs) (val b32 ys) = cv ∧ 0 ≤ cv := ⟨_, rfl, by have := HLT.out; unfold cmpN; split <;> (try split) <;> omega⟩
  rw [hcv]
  clear hcv
  rintro e w1 ⟨rfl, hb2⟩
  have hb3 := hb1.trans (hb2.mono hb1.size)
  have tR3 : Two w1 (w.heap.size + 1 + 1) _ _ := tR1.two.to hb2
  clear hb1 tR1 hb2
  have HG1 : Hid (Nat.gcd (val b32 (trimL xs)) (val b32 (trimL ys)) = Nat.gcd (val b32 xs) (val b32 ys)) := by
    show _ = _
    rw [val_trimL, val_trimL]
  have lx := two_lt HX.out.dg (by assumption)
  have ly := two_lt HY.out.dg (by assumption)
  have U1 := Lib.hid (toUint64_any (c := c) (HX.out.to hb3).trim.rd HX.out.trim.dg (by assumption))
  have U2 := Lib.hid (toUint64_any (c := c') (HY.out.to hb3).trim.rd HY.out.trim.dg (by assumption))
  have HG0 := gcd_lt lx ly
  have S1 := Lib.hid (smallGCD_any _ _ w1 lx ly)
  rw [HG1.out] at S1 HG0
  obtain ⟨g, eg⟩ : ∃ g : Nat, Hid (Nat.gcd (val b32 xs) (val b32 ys) = g) := ⟨_, rfl⟩
  rw [eg.out] at S1 HG0 ⊢
  clear HG1 lx ly
  go_wp2_with fail
  refine U1.out.mono ?_
  rintro e w' ⟨rfl, rfl⟩
  go_wp2_with fail
  refine U2.out.mono ?_
  rintro e w' ⟨rfl, rfl⟩
  go_wp2_with fail
  refine S1.out.mono ?_
  rintro e w' ⟨rfl, dn, rfl⟩
  go_wp2_with fail
  refine (toWords_l g HG0 _).mono ?_
  rintro e w2 ⟨A1, c1, rfl, r1, r2, r3, hb4⟩
  have HI := Lib.hid (integer_l false r1 (Dg_dig b32_one g) r2 r3)
  rw [val_dig b32_one, show zof false g = ((g : Nat) : Int) from rfl] at HI
  have tR4 := (tR3.to (bel_drewN (Below.refl _ _) dn)).to hb4
  have HB := Lib.hid ((bel_drewN hb3 dn).trans (hb4.mono hb3.size))
  clear r1 hb4 hb3 tR3
  obtain ⟨z, ez⟩ : ∃ z : Int, Hid (((g : Nat) : Int) = z) := ⟨_, rfl⟩
  rw [ez.out] at HI ⊢
  go_wp2_with fail
  refine HI.out.mono ?_
  rintro e w3 ⟨A3, c3, rfl, s1, s2, s3, hb5⟩
  obtain ⟨q1, q2, q3, q4, q5⟩ := tR4.to hb5
  have S2 := Lib.hid s1
  have HB3 := Lib.hid (HB.out.trans (hb5.mono HB.out.size))
  clear s1 hb5 tR4
  go_wp2
  have tF := (⟨q1, q2, q3, q4, q5⟩ : Two w3 (w.heap.size + 1 + 1) _ _).set (.bool (decide (z < 0))) (.slice A3 (dig b32 z.natAbs).length c3)
  refine bodyPost_ret (v := .agg #[.bool (decide (z < 0)), .slice A3 (dig b32 z.natAbs).length c3]) (by simp [results, Try.f32, go_sem, tF.c0, tF.c1]) rfl ?_
  rw [eg.out, ez.out]
  exact zret_stored ⟨q1, q2, q3, q4, q5⟩ (by omega) S2.out s2 s3 HB3.out

set_option maxHeartbeats 2000000 in
theorem gcd_b (na nb : Bool) {A A' : Option Addr} {c c' : Nat} {xs ys : List Nat} {w : World} (hx : Arg w A c xs) (hy : Arg w A' c' ys) (hxl : (trimL xs).length ≤ 2) (hyl : (trimL ys).length ≤ 2) (hlt : val b32 ys ≤ val b32 xs) (hz : val b32 ys = 0) :
    Calls Try.prog 32 #[.agg #[.bool na, .slice A xs.length c], .agg #[.bool nb, .slice A' ys.length c']] w (ZRet w (Nat.gcd (val b32 xs) (val b32 ys) : Nat)) := by
  have HX := Lib.hid hx
  have HY := Lib.hid hy
  have HLT := Lib.hid hlt
  have HZ := Lib.hid hz
  have hlen : ((trimL ys).length = 0) ↔ val b32 ys = 0 := by
    rw [trimL_dig b32_one hy.dg]
    exact ⟨fun h => (dig_nil b32_one).1 (List.eq_nil_of_length_eq_zero h), fun h => by rw [h]; rfl⟩
  have hq : ((((trimL ys).length : Nat) : Int) == 0) = true := by
    rw [hlen.2 hz]; rfl
  clear hx hy hlt hz hlen
  obtain ⟨W0, hW0⟩ : ∃ W0, W0 = ((w.alloc (.cells #[.bool na, .slice A xs.length c] 24)).alloc (.cells #[.bool nb, .slice A' ys.length c'] 24)).alloc (.cells #[.bool false, .slice none 0 0] 24) := ⟨_, rfl⟩
  have hb : Below w.heap.size w W0 := by rw [hW0]; exact (((Below.refl _ _).alloc (Nat.le_refl _) _).alloc (by simp) _).alloc (by simp; omega) _
  have tX : Zat W0 w.heap.size (.bool na) (.slice A xs.length c) := by rw [hW0]; exact ((Zat.new w _ _).alloc _).alloc _
  have tY : Zat W0 (w.heap.size + 1) (.bool nb) (.slice A' ys.length c') := by
    have h := Zat.new (w.alloc (.cells #[.bool na, .slice A xs.length c] 24)) (.bool nb) (.slice A' ys.length c')
    rw [World.size_alloc] at h
    rw [hW0]; exact h.alloc _
  have tR : Zat W0 (w.heap.size + 1 + 1) (.bool false) (.slice none 0 0) := by
    have h := Zat.new ((w.alloc (.cells #[.bool na, .slice A xs.length c] 24)).alloc (.cells #[.bool nb, .slice A' ys.length c'] 24)) (.bool false) (.slice none 0 0)
    rw [World.size_alloc, World.size_alloc] at h
    rw [hW0]; exact h
  have q1 := tX.two.c1
  have q2 := tY.two.c1
  have HW0 := Lib.hid hW0
  clear hW0
  go_enter Try.func32, Try.ntmps32
  go_wp2_with fail
  rw [← HW0.out]
  go_quiet ((first | (go_at_call 45; with_reducible exact Calls.quiet_of_same (trim_q (HX.out.to (hb.trans (bel_drewN (Below.refl _ _) _))))) | (go_at_call 45; with_reducible exact Calls.quiet_of_same (trim_q (HY.out.to (hb.trans (bel_drewN (Below.refl _ _) _)))))))
  rename_i nq
  have hb1 : Below w.heap.size w (W0.drewN nq) := bel_drewN hb _
  have tR1 : Zat (W0.drewN nq) (w.heap.size + 1 + 1) (.bool false) (.slice none 0 0) := tR
  generalize W0.drewN nq = W1 at hb1 tR1 ⊢
  clear q1 q2 tX tY tR hb HW0
  go_wp2_with fail
  refine (compare_l (HX.out.to hb1) (HY.out.to hb1)).mono ?_
  obtain ⟨cv, hcv, hcv0⟩ : ∃ cv, cmpN (val b32 xs) (val b32 ys) = cv ∧ 0 ≤ cv := ⟨_, rfl, by have := HLT.out; unfold cmpN; split <;> (try split) <;> omega⟩
  rw [hcv]
  clear hcv
  rintro e w1 ⟨rfl, hb2⟩
  have hb3 := hb1.trans (hb2.mono hb1.size)
  have tR3 : Two w1 (w.heap.size + 1 + 1) _ _ := tR1.two.to hb2
  clear hb1 tR1 hb2
  have HG : Hid (zof false (val b32 (trimL xs)) = ((Nat.gcd (val b32 xs) (val b32 ys) : Nat) : Int)) := by
    have h := HZ.out
    show _ = _
    rw [val_trimL, h]
    simp [zof]
  go_wp2_with fail
  refine (clone_l (HX.out.to hb3).trim).mono ?_
  rintro e w2 ⟨A1, c1, rfl, r1, r2, r3, hb4⟩
  have HI := Lib.hid (integer_l false r1 HX.out.trim.dg r2 r3)
  rw [HG.out] at HI
  have tR4 := tR3.to hb4
  have HB := Lib.hid (hb3.trans (hb4.mono hb3.size))
  clear r1 hb4 hb3 tR3
  obtain ⟨z, ez⟩ : ∃ z : Int, Hid (((Nat.gcd (val b32 xs) (val b32 ys) : Nat) : Int) = z) := ⟨_, rfl⟩
  rw [ez.out] at HI ⊢
  go_wp2_with fail
  refine HI.out.mono ?_
  rintro e w3 ⟨A3, c3, rfl, s1, s2, s3, hb5⟩
  obtain ⟨q1, q2, q3, q4, q5⟩ := tR4.to hb5
  have S2 := Lib.hid s1
  have HB3 := Lib.hid (HB.out.trans (hb5.mono HB.out.size))
  clear s1 hb5 tR4
  go_wp2
  have tF := (⟨q1, q2, q3, q4, q5⟩ : Two w3 (w.heap.size + 1 + 1) _ _).set (.bool (decide (z < 0))) (.slice A3 (dig b32 z.natAbs).length c3)
  refine bodyPost_ret (v := .agg #[.bool (decide (z < 0)), .slice A3 (dig b32 z.natAbs).length c3]) (by simp [results, Try.f32, go_sem, tF.c0, tF.c1]) rfl ?_
  rw [ez.out]
  exact zret_stored ⟨q1, q2, q3, q4, q5⟩ (by omega) S2.out s2 s3 HB3.out

set_option maxHeartbeats 2000000 in
theorem gcd_c (na nb : Bool) {A A' : Option Addr} {c c' : Nat} {xs ys : List Nat} {w : World} (hx : Arg w A c xs) (hy : Arg w A' c' ys) (hxl : (trimL xs).length ≤ 2) (hyl : (trimL ys).length ≤ 2) (hlt : val b32 xs < val b32 ys) (hz : 0 < val b32 xs) :
    Calls Try.prog 32 #[.agg #[.bool na, .slice A xs.length c], .agg #[.bool nb, .slice A' ys.length c']] w (ZRet w (Nat.gcd (val b32 xs) (val b32 ys) : Nat)) := by
  have HX := Lib.hid hx
  have HY := Lib.hid hy
  have HLT := Lib.hid hlt
  have HZ := Lib.hid hz
  have hlen : ((trimL xs).length = 0) ↔ val b32 xs = 0 := by
    rw [trimL_dig b32_one hx.dg]
    exact ⟨fun h => (dig_nil b32_one).1 (List.eq_nil_of_length_eq_zero h), fun h => by rw [h]; rfl⟩
  have hq : ((((trimL xs).length : Nat) : Int) == 0) = false := by
    have : (trimL xs).length ≠ 0 := fun h => by have := hlen.1 h; omega
    rw [beq_eq_false_iff_ne]; omega
  clear hx hy hlt hz hlen
  obtain ⟨W0, hW0⟩ : ∃ W0, W0 = ((w.alloc (.cells #[.bool na, .slice A xs.length c] 24)).alloc (.cells #[.bool nb, .slice A' ys.length c'] 24)).alloc (.cells #[.bool false, .slice none 0 0] 24) := ⟨_, rfl⟩
  have hb : Below w.heap.size w W0 := by rw [hW0]; exact (((Below.refl _ _).alloc (Nat.le_refl _) _).alloc (by simp) _).alloc (by simp; omega) _
  have tX : Zat W0 w.heap.size (.bool na) (.slice A xs.length c) := by rw [hW0]; exact ((Zat.new w _ _).alloc _).alloc _
  have tY : Zat W0 (w.heap.size + 1) (.bool nb) (.slice A' ys.length c') := by
    have h := Zat.new (w.alloc (.cells #[.bool na, .slice A xs.length c] 24)) (.bool nb) (.slice A' ys.length c')
    rw [World.size_alloc] at h
    rw [hW0]; exact h.alloc _
  have tR : Zat W0 (w.heap.size + 1 + 1) (.bool false) (.slice none 0 0) := by
    have h := Zat.new ((w.alloc (.cells #[.bool na, .slice A xs.length c] 24)).alloc (.cells #[.bool nb, .slice A' ys.length c'] 24)) (.bool false) (.slice none 0 0)
    rw [World.size_alloc, World.size_alloc] at h
    rw [hW0]; exact h
  have q1 := tX.two.c1
  have q2 := tY.two.c1
  have HW0 := Lib.hid hW0
  clear hW0
  go_enter Try.func32, Try.ntmps32
  go_wp2_with fail
  rw [← HW0.out]
  go_quiet ((first | (go_at_call 45; with_reducible exact Calls.quiet_of_same (trim_q (HX.out.to (hb.trans (bel_drewN (Below.refl _ _) _))))) | (go_at_call 45; with_reducible exact Calls.quiet_of_same (trim_q (HY.out.to (hb.trans (bel_drewN (Below.refl _ _) _)))))))
  rename_i nq
  have hb1 : Below w.heap.size w (W0.drewN nq) := bel_drewN hb _
  have tR1 : Zat (W0.drewN nq) (w.heap.size + 1 + 1) (.bool false) (.slice none 0 0) := tR
  generalize W0.drewN nq = W1 at hb1 tR1 ⊢
  clear q1 q2 tX tY tR hb HW0
  go_wp2_with fail
  refine (compare_l (HX.out.to hb1) (HY.out.to hb1)).mono ?_
  rw [cmpN_lt HLT.out]
  rintro e w1 ⟨rfl, hb2⟩
  have hb3 := hb1.trans (hb2.mono hb1.size)
  have tR3 : Two w1 (w.heap.size + 1 + 1) _ _ := tR1.two.to hb2
  clear hb1 tR1 hb2
  have HG1 : Hid (Nat.gcd (val b32 (trimL ys)) (val b32 (trimL xs)) = Nat.gcd (val b32 xs) (val b32 ys)) := by
    show _ = _
    rw [val_trimL, val_trimL]
    exact Nat.gcd_comm _ _
  have lx := two_lt HY.out.dg (by assumption)
  have ly := two_lt HX.out.dg (by assumption)
  have U1 := Lib.hid (toUint64_any (c := c') (HY.out.to hb3).trim.rd HY.out.trim.dg (by assumption))
  have U2 := Lib.hid (toUint64_any (c := c) (HX.out.to hb3).trim.rd HX.out.trim.dg (by assumption))
  have HG0 := gcd_lt lx ly
  have S1 := Lib.hid (smallGCD_any _ _ w1 lx ly)
  rw [HG1.out] at S1 HG0
  obtain ⟨g, eg⟩ : ∃ g : Nat, Hid (Nat.gcd (val b32 xs) (val b32 ys) = g) := ⟨_, rfl⟩
  rw [eg.out] at S1 HG0 ⊢
  clear HG1 lx ly
  go_wp2_with fail
  refine U1.out.mono ?_
  rintro e w' ⟨rfl, rfl⟩
  go_wp2_with fail
  refine U2.out.mono ?_
  rintro e w' ⟨rfl, rfl⟩
  go_wp2_with fail
  refine S1.out.mono ?_
  rintro e w' ⟨rfl, dn, rfl⟩
  go_wp2_with fail
  refine (toWords_l g HG0 _).mono ?_
  rintro e w2 ⟨A1, c1, rfl, r1, r2, r3, hb4⟩
  have HI := Lib.hid (integer_l false r1 (Dg_dig b32_one g) r2 r3)
  rw [val_dig b32_one, show zof false g = ((g : Nat) : Int) from rfl] at HI
  have tR4 := (tR3.to (bel_drewN (Below.refl _ _) dn)).to hb4
  have HB := Lib.hid ((bel_drewN hb3 dn).trans (hb4.mono hb3.size))
  clear r1 hb4 hb3 tR3
  obtain ⟨z, ez⟩ : ∃ z : Int, Hid (((g : Nat) : Int) = z) := ⟨_, rfl⟩
  rw [ez.out] at HI ⊢
  go_wp2_with fail
  refine HI.out.mono ?_
  rintro e w3 ⟨A3, c3, rfl, s1, s2, s3, hb5⟩
  obtain ⟨q1, q2, q3, q4, q5⟩ := tR4.to hb5
  have S2 := Lib.hid s1
  have HB3 := Lib.hid (HB.out.trans (hb5.mono HB.out.size))
  clear s1 hb5 tR4
  go_wp2
  have tF := (⟨q1, q2, q3, q4, q5⟩ : Two w3 (w.heap.size + 1 + 1) _ _).set (.bool (decide (z < 0))) (.slice A3 (dig b32 z.natAbs).length c3)
  refine bodyPost_ret (v := .agg #[.bool (decide (z < 0)), .slice A3 (dig b32 z.natAbs).length c3]) (by simp [results, Try.f32, go_sem, tF.c0, tF.c1]) rfl ?_
  rw [eg.out, ez.out]
  exact zret_stored ⟨q1, q2, q3, q4, q5⟩ (by omega) S2.out s2 s3 HB3.out

set_option maxHeartbeats 2000000 in
theorem gcd_d (na nb : Bool) {A A' : Option Addr} {c c' : Nat} {xs ys : List Nat} {w : World} (hx : Arg w A c xs) (hy : Arg w A' c' ys) (hxl : (trimL xs).length ≤ 2) (hyl : (trimL ys).length ≤ 2) (hlt : val b32 xs < val b32 ys) (hz : val b32 xs = 0) :
    Calls Try.prog 32 #[.agg #[.bool na, .slice A xs.length c], .agg #[.bool nb, .slice A' ys.length c']] w (ZRet w (Nat.gcd (val b32 xs) (val b32 ys) : Nat)) := by
  have HX := Lib.hid hx
  have HY := Lib.hid hy
  have HLT := Lib.hid hlt
  have HZ := Lib.hid hz
  have hlen : ((trimL xs).length = 0) ↔ val b32 xs = 0 := by
    rw [trimL_dig b32_one hx.dg]
    exact ⟨fun h => (dig_nil b32_one).1 (List.eq_nil_of_length_eq_zero h), fun h => by rw [h]; rfl⟩
  have hq : ((((trimL xs).length : Nat) : Int) == 0) = true := by
    rw [hlen.2 hz]; rfl
  clear hx hy hlt hz hlen
  obtain ⟨W0, hW0⟩ : ∃ W0, W0 = ((w.alloc (.cells #[.bool na, .slice A xs.length c] 24)).alloc (.cells #[.bool nb, .slice A' ys.length c'] 24)).alloc (.cells #[.bool false, .slice none 0 0] 24) := ⟨_, rfl⟩
  have hb : Below w.heap.size w W0 := by rw [hW0]; exact (((Below.refl _ _).alloc (Nat.le_refl _) _).alloc (by simp) _).alloc (by simp; omega) _
  have tX : Zat W0 w.heap.size (.bool na) (.slice A xs.length c) := by rw [hW0]; exact ((Zat.new w _ _).alloc _).alloc _
  have tY : Zat W0 (w.heap.size + 1) (.bool nb) (.slice A' ys.length c') := by
    have h := Zat.new (w.alloc (.cells #[.bool na, .slice A xs.length c] 24)) (.bool nb) (.slice A' ys.length c')
    rw [World.size_alloc] at h
    rw [hW0]; exact h.alloc _
  have tR : Zat W0 (w.heap.size + 1 + 1) (.bool false) (.slice none 0 0) := by
    have h := Zat.new ((w.alloc (.cells #[.bool na, .slice A xs.length c] 24)).alloc (.cells #[.bool nb, .slice A' ys.length c'] 24)) (.bool false) (.slice none 0 0)
    rw [World.size_alloc, World.size_alloc] at h
    rw [hW0]; exact h
  have q1 := tX.two.c1
  have q2 := tY.two.c1
  have HW0 := Lib.hid hW0
  clear hW0
  go_enter Try.func32, Try.ntmps32
  go_wp2_with fail
  rw [← HW0.out]
  go_quiet ((first | (go_at_call 45; with_reducible exact Calls.quiet_of_same (trim_q (HX.out.to (hb.trans (bel_drewN (Below.refl _ _) _))))) | (go_at_call 45; with_reducible exact Calls.quiet_of_same (trim_q (HY.out.to (hb.trans (bel_drewN (Below.refl _ _) _)))))))
  rename_i nq
  have hb1 : Below w.heap.size w (W0.drewN nq) := bel_drewN hb _
  have tR1 : Zat (W0.drewN nq) (w.heap.size + 1 + 1) (.bool false) (.slice none 0 0) := tR
  generalize W0.drewN nq = W1 at hb1 tR1 ⊢
  clear q1 q2 tX tY tR hb HW0
  go_wp2_with fail
  refine (compare_l (HX.out.to hb1) (HY.out.to hb1)).mono ?_
  rw [cmpN_lt HLT.out]
  rintro e w1 ⟨rfl, hb2⟩
  have hb3 := hb1.trans (hb2.mono hb1.size)
  have tR3 : Two w1 (w.heap.size + 1 + 1) _ _ := tR1.two.to hb2
  clear hb1 tR1 hb2
  have HG : Hid (zof false (val b32 (trimL ys)) = ((Nat.gcd (val b32 xs) (val b32 ys) : Nat) : Int)) := by
    have h := HZ.out
    show _ = _
    rw [val_trimL, h]
    simp [zof]
  go_wp2_with fail
  refine (clone_l (HY.out.to hb3).trim).mono ?_
  rintro e w2 ⟨A1, c1, rfl, r1, r2, r3, hb4⟩
  have HI := Lib.hid (integer_l false r1 HY.out.trim.dg r2 r3)
  rw [HG.out] at HI
  have tR4 := tR3.to hb4
  have HB := Lib.hid (hb3.trans (hb4.mono hb3.size))
  clear r1 hb4 hb3 tR3
  obtain ⟨z, ez⟩ : ∃ z : Int, Hid (((Nat.gcd (val b32 xs) (val b32 ys) : Nat) : Int) = z) := ⟨_, rfl⟩
  rw [ez.out] at HI ⊢
  go_wp2_with fail
  refine HI.out.mono ?_
  rintro e w3 ⟨A3, c3, rfl, s1, s2, s3, hb5⟩
  obtain ⟨q1, q2, q3, q4, q5⟩ := tR4.to hb5
  have S2 := Lib.hid s1
  have HB3 := Lib.hid (HB.out.trans (hb5.mono HB.out.size))
  clear s1 hb5 tR4
  go_wp2
  have tF := (⟨q1, q2, q3, q4, q5⟩ : Two w3 (w.heap.size + 1 + 1) _ _).set (.bool (decide (z < 0))) (.slice A3 (dig b32 z.natAbs).length c3)
  refine bodyPost_ret (v := .agg #[.bool (decide (z < 0)), .slice A3 (dig b32 z.natAbs).length c3]) (by simp [results, Try.f32, go_sem, tF.c0, tF.c1]) rfl ?_
  rw [ez.out]
  exact zret_stored ⟨q1, q2, q3, q4, q5⟩ (by omega) S2.out s2 s3 HB3.out

theorem gcd_small (na nb : Bool) {A A' : Option Addr} {c c' : Nat} {xs ys : List Nat} {w : World} (hx : Arg w A c xs) (hy : Arg w A' c' ys) (hxl : (trimL xs).length ≤ 2) (hyl : (trimL ys).length ≤ 2) :
    Calls Try.prog 32 #[.agg #[.bool na, .slice A xs.length c], .agg #[.bool nb, .slice A' ys.length c']] w (ZRet w (Nat.gcd (val b32 xs) (val b32 ys) : Nat)) := by
  rcases Nat.lt_or_ge (val b32 xs) (val b32 ys) with h | h
  · rcases Nat.eq_zero_or_pos (val b32 xs) with h0 | h0
    · exact gcd_d na nb hx hy hxl hyl h h0
    · exact gcd_c na nb hx hy hxl hyl h h0
  · rcases Nat.eq_zero_or_pos (val b32 ys) with h0 | h0
    · exact gcd_b na nb hx hy hxl hyl h h0
    · exact gcd_a na nb hx hy hxl hyl h h0
end Go.Proofs.Ytbmnloelimmgiaa

namespace Go.Proofs.Ytbmnloelimmgiaa
set_option maxRecDepth 100000
open Go.RowKit Go.Shelf

/-- What divide promises: the quotient's digits, and a row that stands for the remainder. -/
def DivRet (w : World) (q m : Nat) (e : Ending) (w' : World) : Prop := ∃ A1 c1 rs A2 c2, e = .returned (.tuple #[.slice A1 (dig b32 q).length c1, .slice A2 rs.length c2]) ∧ Rd .u32 w' w'.heap.size A1 (dig b32 q) ∧ Rd .u32 w' w'.heap.size A2 rs ∧
  Dg b32 rs ∧ val b32 rs = m ∧ (dig b32 q).length ≤ c1 ∧ c1 ≤ 9223372036854775807 ∧ rs.length ≤ c2 ∧ c2 ≤ 9223372036854775807 ∧ rs.length ≤ 4294967295 ∧ Below w.heap.size w w'

theorem div_res {w w' : World} {q m Q M : Nat} {A1 A2 : Option Addr} {c1 c2 : Nat} (s1 : (dig b32 q).length ≤ c1) (t1 : c1 ≤ 9223372036854775807) (s2 : (dig b32 m).length ≤ c2) (t2 : c2 ≤ 9223372036854775807) (h1 : Rd .u32 w' w'.heap.size A1 (dig b32 q)) (h2 : Rd .u32 w' w'.heap.size A2 (dig b32 m))
    (hb : Below w.heap.size w w') (hQ : q = Q ∧ q < 18446744073709551616) (hM : m = M ∧ m < 18446744073709551616) : DivRet w Q M (.returned (.tuple #[.slice A1 (dig b32 q).length c1, .slice A2 (dig b32 m).length c2])) w' := by
  obtain ⟨rfl, _⟩ := hQ
  obtain ⟨rfl, hm⟩ := hM
  have h3 : b32 ^ 2 = 18446744073709551616 := by decide
  have hl : (dig b32 m).length ≤ 2 := dig_length_le b32_one (by rw [h3]; exact hm)
  exact ⟨A1, c1, _, A2, c2, rfl, h1, h2, Dg_dig b32_one m, val_dig b32_one m, s1, t1, s2, t2, by omega, hb⟩

set_option maxHeartbeats 2000000 in
theorem divide_less {A A' : Option Addr} {c c' : Nat} {xs ys : List Nat} {w : World} (hx : Arg w A c xs) (hy : Arg w A' c' ys) (tx : trimL xs = xs) (ty : trimL ys = ys) (hlt : val b32 xs < val b32 ys) :
    Calls Try.prog 57 #[.slice A xs.length c, .slice A' ys.length c'] w (DivRet w (val b32 xs / val b32 ys) (val b32 xs % val b32 ys)) := by
  have HC := Lib.hid (compare_l hx hy)
  rw [tx, ty, cmpN_lt hlt] at HC
  have HQ : Hid (val b32 xs / val b32 ys = 0) := Nat.div_eq_of_lt hlt
  have HM : Hid (val b32 xs % val b32 ys = val b32 xs) := Nat.mod_eq_of_lt hlt
  have HX := Lib.hid hx
  clear hx hy tx ty hlt
  go_enter Try.func57, Try.ntmps57
  go_wp2_with fail
  refine HC.out.mono ?_
  rintro e w1 ⟨rfl, hb1⟩
  go_wp2_with fail
  refine (clone_l (HX.out.to hb1)).mono ?_
  rintro e w2 ⟨A1, c1, rfl, r1, r2, r3, hb2⟩
  have HR : Hid (DivRet w (val b32 xs / val b32 ys) (val b32 xs % val b32 ys) (.returned (.tuple #[.slice none 0 0, .slice A1 xs.length c1])) w2) := by
    show DivRet _ _ _ _ _
    rw [HQ.out, HM.out]
    exact ⟨none, 0, xs, A1, c1, rfl, Rd.nil, r1, HX.out.dg, rfl, by simp [dig_zero], by omega, r2, r3, HX.out.small, hb1.trans (hb2.mono hb1.size)⟩
  clear r1 hb1 hb2
  go_wp2
  go_ret2
  exact HR.out

set_option maxHeartbeats 4000000 in
theorem divide_two {A A' : Option Addr} {c c' : Nat} {xs ys : List Nat} {w : World} (hx : Arg w A c xs) (hy : Arg w A' c' ys) (tx : trimL xs = xs) (ty : trimL ys = ys) (hlt : val b32 ys ≤ val b32 xs) (h0 : 0 < val b32 ys) (hl : xs.length ≤ 2) (hl' : ys.length ≤ 2) :
    Calls Try.prog 57 #[.slice A xs.length c, .slice A' ys.length c'] w (DivRet w (val b32 xs / val b32 ys) (val b32 xs % val b32 ys)) := by
  have HC := Lib.hid (compare_l hx hy)
  rw [tx, ty] at HC
  obtain ⟨cv, hcv, hcv0⟩ : ∃ cv, cmpN (val b32 xs) (val b32 ys) = cv ∧ 0 ≤ cv := ⟨_, rfl, by unfold cmpN; split <;> (try split) <;> omega⟩
  rw [hcv] at HC
  clear hcv
  have lx := two_lt hx.dg (by rw [tx]; exact hl)
  have ly := two_lt hy.dg (by rw [ty]; exact hl')
  rw [tx] at lx
  rw [ty] at ly
  have HX := Lib.hid hx
  have HY := Lib.hid hy
  obtain ⟨u, eu⟩ : ∃ u : Nat, Hid (val b32 xs = u) := ⟨_, rfl⟩
  obtain ⟨v, ev⟩ : ∃ v : Nat, Hid (val b32 ys = v) := ⟨_, rfl⟩
  rw [eu.out] at lx
  rw [ev.out] at ly h0
  obtain ⟨q, eq⟩ : ∃ q : Nat, Hid (u / v = q) := ⟨_, rfl⟩
  obtain ⟨m, em⟩ : ∃ m : Nat, Hid (u % v = m) := ⟨_, rfl⟩
  have hq64 : q < 18446744073709551616 := by rw [← eq.out]; exact Nat.lt_of_le_of_lt (Nat.div_le_self u v) lx
  have hm64 : m < 18446744073709551616 := by rw [← em.out]; exact Nat.lt_of_le_of_lt (Nat.mod_le u v) lx
  have HQ : Hid (q = val b32 xs / val b32 ys ∧ q < 18446744073709551616) := ⟨by rw [eu.out, ev.out, eq.out], hq64⟩
  have HM : Hid (m = val b32 xs % val b32 ys ∧ m < 18446744073709551616) := ⟨by rw [eu.out, ev.out, em.out], hm64⟩
  have G1 : Hid ((u : Int).tdiv (v : Int) = (q : Nat)) := by show _ = _; rw [Int.tdiv_eq_ediv_of_nonneg (by omega), ← eq.out]; simp
  have G2 : Hid ((u : Int).tmod (v : Int) = (m : Nat)) := by show _ = _; rw [Int.tmod_eq_emod_of_nonneg (by omega), ← em.out]; simp
  have G3 : Hid (IntKind.u64.wrap (q : Int) = (q : Nat)) := by show _ = _; rw [IntKind.wrap_u64]; omega
  have hv1 : (1 : Int) ≤ (v : Int) := by omega
  have hv2 : ((v : Int) == 0) = false := by rw [beq_eq_false_iff_ne]; omega
  have hv3 : ¬ v = 0 := by omega
  clear hx hy tx ty hlt
  go_enter Try.func57, Try.ntmps57
  go_wp2_with fail
  refine HC.out.mono ?_
  rintro e w0 ⟨rfl, hb0⟩
  have U1 := Lib.hid (toUint64_any (c := c) (HX.out.to hb0).rd HX.out.dg hl)
  have U2 := Lib.hid (toUint64_any (c := c') (HY.out.to hb0).rd HY.out.dg hl')
  rw [eu.out] at U1
  rw [ev.out] at U2
  go_wp2_with fail
  refine U1.out.mono ?_
  rintro e w' ⟨rfl, rfl⟩
  go_wp2_with fail
  refine U2.out.mono ?_
  rintro e w' ⟨rfl, rfl⟩
  have hb : Below w.heap.size w w0.drew := hb0.drew
  clear hb0
  go_wp2_with fail
  have g1 := G1.out
  have g2 := G2.out
  have g3 := G3.out
  have g4 := hv2
  refine wp_region_any (by kernel_rfl) ?_
  refine (show wpAny _ _ _ _ _ _ _ (World.drew _) from ?_)
  refine wpAny_take (i := 0) (v := .int .u64 (u : Nat)) rfl (by kernel_rfl) (by kernel_rfl) (by kernel_rfl) (fun _ _ _ h => h) (Or.inl ⟨by rfl, fun _ => by go_simp⟩) ?_
  refine wpAny_take (i := 1) (v := .int .u64 (v : Nat)) rfl (by kernel_rfl) (by kernel_rfl) (by kernel_rfl) (fun _ _ _ h => h) (Or.inl ⟨by rfl, fun _ => by go_simp⟩) ?_
  refine wpAny_take (i := 4) (v := .int .u64 (u : Nat)) rfl (by kernel_rfl) (by kernel_rfl) (by kernel_rfl) (fun _ _ _ h => h) (Or.inl ⟨by rfl, fun _ => by go_simp⟩) ?_
  refine wpAny_take (i := 5) (v := .int .u64 (v : Nat)) rfl (by kernel_rfl) (by kernel_rfl) (by kernel_rfl) (fun _ _ _ h => h) (Or.inl ⟨by rfl, fun _ => by go_simp⟩) ?_
  refine wpAny_take (i := 2) (v := .int .u64 (q : Nat)) rfl (by kernel_rfl) (by kernel_rfl) (by kernel_rfl) (fun _ _ _ h => h) (Or.inl ⟨by rfl, fun _ => by go_simp⟩) ?_
  refine wpAny_take (i := 6) (v := .int .u64 (m : Nat)) rfl (by kernel_rfl) (by kernel_rfl) (by kernel_rfl) (fun _ _ _ h => h) (Or.inl ⟨by rfl, fun _ => by go_simp⟩) ?_
  refine wpAny_ready (rs := [3]) (by kernel_rfl) (by simp) (AllReady.cons rfl (fun K hK => ?_) AllReady.nil)
  go_simp
  refine (toWords_l q hq64 _).mono ?_
  rintro e w1 ⟨A1, c1, rfl, r1, s1, t1, hb1⟩
  refine hK _ _ ?_; clear hK K
  refine wpAny_ready (rs := [7]) (by kernel_rfl) (by simp) (AllReady.cons rfl (fun K hK => ?_) AllReady.nil)
  go_simp
  refine (toWords_l m hm64 _).mono ?_
  rintro e w2 ⟨A2, c2, rfl, r2, s2, t2, hb2⟩
  refine hK _ _ ?_; clear hK K
  have RQ : Rd .u32 w2 w2.heap.size A1 (dig b32 q) := r1.to hb2
  have RM : Rd .u32 w2 w2.heap.size A2 (dig b32 m) := r2
  have HB : Below w.heap.size w w2 := (hb.trans (hb1.mono hb.size)).trans (hb2.mono (hb.trans (hb1.mono hb.size)).size)
  have HRES := Lib.hid (div_res s1 t1 s2 t2 RQ RM HB HQ.out HM.out)
  clear RQ RM HB hb1 hb2 r1 r2 g1 g2 g3 g4
  refine wpAny_ready (rs := [8]) (by kernel_rfl) (by simp) (AllReady.cons rfl (fun K hK => ?_) AllReady.nil)
  go_simp; refine hK _ _ ?_; clear hK K
  refine wpAny_ready (rs := [9]) (by kernel_rfl) (by simp) (AllReady.cons rfl (fun K hK => ?_) AllReady.nil)
  go_simp; refine hK _ _ ?_; clear hK K
  refine wpAny_done (by kernel_rfl) ?_ _
  go_wp2
  go_ret2
  exact HRES.out
end Go.Proofs.Ytbmnloelimmgiaa
