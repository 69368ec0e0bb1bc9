/- Parts: Words, Combine, Sum. -/
import Derived.Test.YtoaghihhobggoaaDv1
set_option linter.unusedVariables false

namespace Go.Proofs.Ytoaghihhobggoaa
open Go.RowKit

/-- v is a slice that reads as xs in w, below block B. -/
def Sl (kd : IntKind) (w : World) (B : Nat) (v : Value) (xs : List Nat) : Prop :=
  ∃ A c, v = .slice A xs.length c ∧ Rd kd w B A xs ∧ xs.length ≤ c ∧ c ≤ 9223372036854775807

theorem Sl.to {kd : IntKind} {w w' : World} {v : Value} {xs : List Nat} (h : Sl kd w w.heap.size v xs) (hb : Below w.heap.size w w') : Sl kd w' w'.heap.size v xs := by
  obtain ⟨A, c, rfl, hr, h1, h2⟩ := h
  exact ⟨A, c, rfl, hr.to hb, h1, h2⟩

theorem Sl.trim {kd : IntKind} {w : World} {B c b : Nat} {A : Option Addr} {xs : List Nat} (hb : 1 < b) (h : Rd kd w B A xs) (hd : Dg b xs) (hc : xs.length ≤ c) (hc' : c ≤ 9223372036854775807) :
    Sl kd w B (.slice A (trimN xs) c) (dig b (val b xs)) := by
  refine ⟨A, c, ?_, ?_, ?_, hc'⟩
  · rw [← trimL_dig hb hd, trimL_length]
  · rw [← trimL_dig hb hd]; exact h.take _
  · rw [← trimL_dig hb hd]; exact Nat.le_trans (trimL_le xs) hc

theorem Rd.new (kd : IntKind) (w : World) (e : TypeId) (xs : List Nat) : Rd kd (w.alloc (.cells (ints kd xs).toArray e)) (w.heap.size + 1) (some ⟨w.heap.size, 0, none⟩) xs := by
  intro k hk
  refine ⟨_, _, rfl, by omega, ?_⟩
  have h1 : (w.alloc (.cells (ints kd xs).toArray e)).heap[w.heap.size]? = some (.cells (ints kd xs).toArray e) := by
    show (w.heap.push _)[w.heap.size]? = _
    simp
  simp only [World.cell?, h1]
  simp [ints, hk]

theorem two_val (n : Nat) : val b32 [n % 4294967296, n / 4294967296] = n := by simp only [val, b32]; omega
theorem two_dg {n : Nat} (hn : n < 18446744073709551616) : Dg b32 [n % 4294967296, n / 4294967296] :=
  Dg.cons (by unfold b32; omega) (Dg.one (by unfold b32; omega))
theorem two_trim {n : Nat} (hn : n < 18446744073709551616) : trimL [n % 4294967296, n / 4294967296] = dig b32 n := by
  rw [trimL_dig b32_one (two_dg hn), two_val]

set_option maxHeartbeats 400000 in
theorem toWords_any (n : Nat) (hn : n < 18446744073709551616) (w : World) :
    Calls Try.prog 48 #[.int .u64 (n : Nat)] w fun e w' => ∃ v, e = .returned v ∧ Sl .u32 w' w'.heap.size v (dig b32 n) ∧ Below w.heap.size w w' := by
  have hr := Rd.new .u32 w 52 [n % 4294967296, n / 4294967296]
  have HR := Lib.hid hr
  have HN := Lib.hid hn
  clear hr
  go_enter Try.func48, Try.ntmps48
  go_wp2_with fail
  refine (trim_any _ 2 (w.heap.size + 1) [n % 4294967296, n / 4294967296] _ HR.out (by simp) (by omega)).mono ?_
  rintro e w' ⟨rfl, rfl⟩
  go_wp2
  go_ret
  have hs := Sl.trim b32_one HR.out (two_dg HN.out) (c := 2) (by simp) (by omega)
  rw [two_val] at hs
  exact ⟨_, rfl, by simpa using hs, (Below.refl _ _).alloc (Nat.le_refl _) _⟩
end Go.Proofs.Ytoaghihhobggoaa

namespace Go.Proofs.Ytoaghihhobggoaa
open Go.RowKit Go.Shelf
attribute [local go_sem] Oper.semAt_some

theorem combiner_any (p q : Int) (w : World) :
    Calls Try.prog 79 #[.int .i64 p, .int .i64 q] w fun e w' => e = .returned (.func (.func 95) #[] #[.pointer (some ⟨w.heap.size, 0, none⟩), .pointer (some ⟨w.heap.size + 1, 0, none⟩), .pointer (some ⟨w.heap.size + 1 + 1, 0, none⟩)]) ∧
      w' = ((w.alloc (.cells #[.int .i64 p] 2)).alloc (.cells #[.int .i64 q] 2)).alloc (.cells #[.int .i64 0] 2) := by
  go_enter Try.func79, Try.ntmps79
  go_wp2
  go_ret
  exact ⟨rfl, rfl⟩

set_option maxHeartbeats 400000 in
theorem combiner1_any (p q r : Int) (u v : Nat) (Bp Bq Br : Nat) (w : World) (hu : u < 4294967296) (hv : v < 4294967296)
    (cp : w.cell? ⟨Bp, 0, none⟩ = some (.int .i64 p)) (cq : w.cell? ⟨Bq, 0, none⟩ = some (.int .i64 q)) (cr : w.cell? ⟨Br, 0, none⟩ = some (.int .i64 r)) (fr : w.frozen? ⟨Br, 0, none⟩ = false)
    (h1 : -9223372036854775808 ≤ p * (u : Int)) (h2 : p * (u : Int) ≤ 9223372036854775807) (h3 : -9223372036854775808 ≤ q * (v : Int)) (h4 : q * (v : Int) ≤ 9223372036854775807)
    (h5 : -9223372036854775808 ≤ p * (u : Int) + q * (v : Int)) (h6 : p * (u : Int) + q * (v : Int) ≤ 9223372036854775807)
    (h7 : -9223372036854775808 ≤ p * (u : Int) + q * (v : Int) + r) (h8 : p * (u : Int) + q * (v : Int) + r ≤ 9223372036854775807) :
    Calls Try.prog 95 #[.int .u32 (u : Nat), .int .u32 (v : Nat), .pointer (some ⟨Bp, 0, none⟩), .pointer (some ⟨Bq, 0, none⟩), .pointer (some ⟨Br, 0, none⟩)] w fun e w' =>
      e = .returned (.int .u32 ((p * u + q * v + r) % 4294967296)) ∧ w' = w.setCell ⟨Br, 0, none⟩ (.int .i64 ((p * u + q * v + r) / 4294967296)) := by
  go_enter Try.func95, Try.ntmps95
  go_wp2
  go_ret
  exact ⟨rfl, rfl⟩

theorem pairs_any (A A' : Option Addr) (n n' c c' : Nat) (w : World) :
    Calls Try.prog 80 #[.slice A n c, .slice A' n' c'] w fun e w' => e = .returned (.func (.func 96) #[] #[.pointer (some ⟨w.heap.size, 0, none⟩), .pointer (some ⟨w.heap.size + 1, 0, none⟩)]) ∧
      w' = (w.alloc (.cells #[.slice A n c] 22)).alloc (.cells #[.slice A' n' c'] 22) := by
  go_enter Try.func80, Try.ntmps80
  go_wp2
  go_ret
  exact ⟨rfl, rfl⟩

def pairE (xs ys : List Nat) (k : Nat) : Array Value := #[.int .u32 ((xs.getD k 0 : Nat) : Int), .int .u32 ((ys.getD k 0 : Nat) : Int)]

/-- What a round over pairs leaves alone: the two boxes, and whatever lies below B. -/
def pairS (Bx By B : Nat) (p : Addr) : Prop := p = ⟨Bx, 0, none⟩ ∨ p = ⟨By, 0, none⟩ ∨ p.block < B

theorem pairS_lt {Bx By B S : Nat} (h1 : Bx < S) (h2 : By < S) (h3 : B ≤ S) : ∀ p, pairS Bx By B p → p.block < S := by
  rintro p (rfl | rfl | hp)
  · exact h1
  · exact h2
  · omega

theorem Rd.keepAt {kd : IntKind} {w w' : World} {B : Nat} {S : Addr → Prop} {A : Option Addr} {xs : List Nat} (h : Rd kd w B A xs) (hS : ∀ p : Addr, p.block < B → S p) (hk : KeepAt S w w') : Rd kd w' B A xs := by
  intro k hk'
  obtain ⟨b, o, rfl, hb, hc⟩ := h k hk'
  exact ⟨b, o, rfl, hb, (hk _ (hS _ hb)).trans hc⟩

set_option maxHeartbeats 2000000 in
theorem pairs_gives (Bx By B c c' : Nat) (A A' : Option Addr) (xs ys : List Nat) (hx63 : xs.length ≤ 9223372036854775807) (hy63 : ys.length ≤ 9223372036854775807) (W : World)
    (hbx : W.cell? ⟨Bx, 0, none⟩ = some (.slice A xs.length c)) (hby : W.cell? ⟨By, 0, none⟩ = some (.slice A' ys.length c')) (hx : Rd .u32 W B A xs) (hy : Rd .u32 W B A' ys) :
    Gives Try.prog 96 #[.pointer (some ⟨Bx, 0, none⟩), .pointer (some ⟨By, 0, none⟩)] (max xs.length ys.length) (pairE xs ys) (fun _ => KeepAt (pairS Bx By B)) W := by
  intro l J Jx hY h0
  refine callsIn_of_wp Try.func96 rfl trivial ?_ rfl
  simp only [Try.ntmps96, List.size_toArray, List.length_cons, List.length_nil, Nat.reduceAdd, Nat.reduceSub, Array.replicate_succ, Array.replicate_zero, List.push_toArray, List.append_toArray, List.nil_append, List.cons_append]
  obtain ⟨N, hN, hNx, hNy⟩ : ∃ N, N = max xs.length ys.length ∧ xs.length ≤ N ∧ ys.length ≤ N := ⟨_, rfl, by omega, by omega⟩
  have hN63 : N ≤ 9223372036854775807 := by omega
  rw [← hN] at hY ⊢
  rcases Nat.lt_or_ge xs.length ys.length with hle | hle
  rotate_left
  · obtain rfl : N = xs.length := by omega
    clear hN
    gi_wp2
    gi_loopw [12] (fun i wr => ∃ k : Nat, i = .int .i64 k ∧ (k ≤ xs.length ∨ k ≤ ys.length) ∧ J k wr ∧ wr.cell? ⟨Bx, 0, none⟩ = some (.slice A xs.length c) ∧ wr.cell? ⟨By, 0, none⟩ = some (.slice A' ys.length c') ∧ Rd .u32 wr B A xs ∧ Rd .u32 wr B A' ys)
      (fun i _ => (max xs.length ys.length : Nat) - (intOf i).toNat)
    case atStart => exact ⟨0, rfl, by omega, h0, hbx, hby, hx, hy⟩
    case round =>
      obtain ⟨k, rfl, hk, hJ, cx, cy, rx, ry⟩ := hrel
      by_cases hlt : k < xs.length
      · have hY1 := hY k wr (by omega) hJ
        unfold pairE at hY1
        have next : ∀ W3, J (k + 1) W3 → KeepAt (pairS Bx By B) wr W3 → (∃ k' : Nat, (Value.int .i64 ((k : Int) + 1)) = .int .i64 k' ∧ (k' ≤ xs.length ∨ k' ≤ ys.length) ∧ J k' W3 ∧ W3.cell? ⟨Bx, 0, none⟩ = some (.slice A xs.length c) ∧ W3.cell? ⟨By, 0, none⟩ = some (.slice A' ys.length c') ∧ Rd .u32 W3 B A xs ∧ Rd .u32 W3 B A' ys) :=
          fun W3 hJ3 hk3 => ⟨k + 1, by simp, by omega, hJ3, (hk3 _ (.inl rfl)).trans cx, (hk3 _ (.inr (.inl rfl))).trans cy, rx.keepAt (fun p hp => .inr (.inr hp)) hk3, ry.keepAt (fun p hp => .inr (.inr hp)) hk3⟩
        have NEXT := Lib.hid next
        have HEND := Lib.hid hlt
        clear next hY hx hy hbx hby
        have h1 : k < xs.length := hlt
        by_cases h2 : k < ys.length
        · obtain ⟨b1, o1, rfl, _, hc1⟩ := rx.at_ h1
          have c1 := hc1 k h1
          rw [← getD_at h1] at c1
          obtain ⟨u, hu⟩ : ∃ u, xs.getD k 0 = u := ⟨_, rfl⟩
          rw [hu] at c1 hY1
          clear hu hc1
          obtain ⟨b2, o2, rfl, _, hc2⟩ := ry.at_ h2
          have c2 := hc2 k h2
          rw [← getD_at h2] at c2
          obtain ⟨v, hv⟩ : ∃ v, ys.getD k 0 = v := ⟨_, rfl⟩
          rw [hv] at c2 hY1
          clear hv hc2
          clear hlt rx ry
          obtain ⟨fn, tmps, assign, body, hyy, hR⟩ := hY1
          gi_wp2
          refine hR.mono ?_
          rintro e W3 (⟨rfl, hJ3, hk3⟩ | ⟨rfl, hJx3⟩)
          · gi_wp2
            go_roundw
            case rel => exact NEXT.out W3 hJ3 hk3
            case measure => have := HEND.out; simp [intOf]; omega
          · gi_wp2
            refine bodyPost_ret (results_none rfl _ _ _) rfl ?_
            exact ⟨⟨_, rfl⟩, .inr ⟨k, by have := HEND.out; omega, hJx3⟩⟩
        · obtain ⟨b1, o1, rfl, _, hc1⟩ := rx.at_ h1
          have c1 := hc1 k h1
          rw [← getD_at h1] at c1
          obtain ⟨u, hu⟩ : ∃ u, xs.getD k 0 = u := ⟨_, rfl⟩
          rw [hu] at c1 hY1
          clear hu hc1
          rw [getD_over (xs := ys) (by omega), show ((0 : Nat) : Int) = 0 from rfl] at hY1
          clear hlt rx ry
          obtain ⟨fn, tmps, assign, body, hyy, hR⟩ := hY1
          gi_wp2
          refine hR.mono ?_
          rintro e W3 (⟨rfl, hJ3, hk3⟩ | ⟨rfl, hJx3⟩)
          · gi_wp2
            go_roundw
            case rel => exact NEXT.out W3 hJ3 hk3
            case measure => have := HEND.out; simp [intOf]; omega
          · gi_wp2
            refine bodyPost_ret (results_none rfl _ _ _) rfl ?_
            exact ⟨⟨_, rfl⟩, .inr ⟨k, by have := HEND.out; omega, hJx3⟩⟩
      · obtain rfl : k = xs.length := by omega
        gi_wp2
        go_end0
        exact ⟨⟨_, rfl⟩, .inl hJ⟩
  · obtain rfl : N = ys.length := by omega
    clear hN
    gi_wp2
    gi_loopw [12] (fun i wr => ∃ k : Nat, i = .int .i64 k ∧ (k ≤ xs.length ∨ k ≤ ys.length) ∧ J k wr ∧ wr.cell? ⟨Bx, 0, none⟩ = some (.slice A xs.length c) ∧ wr.cell? ⟨By, 0, none⟩ = some (.slice A' ys.length c') ∧ Rd .u32 wr B A xs ∧ Rd .u32 wr B A' ys)
      (fun i _ => (max xs.length ys.length : Nat) - (intOf i).toNat)
    case atStart => exact ⟨0, rfl, by omega, h0, hbx, hby, hx, hy⟩
    case round =>
      obtain ⟨k, rfl, hk, hJ, cx, cy, rx, ry⟩ := hrel
      by_cases hlt : k < ys.length
      · have hY1 := hY k wr (by omega) hJ
        unfold pairE at hY1
        have next : ∀ W3, J (k + 1) W3 → KeepAt (pairS Bx By B) wr W3 → (∃ k' : Nat, (Value.int .i64 ((k : Int) + 1)) = .int .i64 k' ∧ (k' ≤ xs.length ∨ k' ≤ ys.length) ∧ J k' W3 ∧ W3.cell? ⟨Bx, 0, none⟩ = some (.slice A xs.length c) ∧ W3.cell? ⟨By, 0, none⟩ = some (.slice A' ys.length c') ∧ Rd .u32 W3 B A xs ∧ Rd .u32 W3 B A' ys) :=
          fun W3 hJ3 hk3 => ⟨k + 1, by simp, by omega, hJ3, (hk3 _ (.inl rfl)).trans cx, (hk3 _ (.inr (.inl rfl))).trans cy, rx.keepAt (fun p hp => .inr (.inr hp)) hk3, ry.keepAt (fun p hp => .inr (.inr hp)) hk3⟩
        have NEXT := Lib.hid next
        have HEND := Lib.hid hlt
        clear next hY hx hy hbx hby
        have h2 : k < ys.length := hlt
        by_cases h1 : k < xs.length
        · obtain ⟨b1, o1, rfl, _, hc1⟩ := rx.at_ h1
          have c1 := hc1 k h1
          rw [← getD_at h1] at c1
          obtain ⟨u, hu⟩ : ∃ u, xs.getD k 0 = u := ⟨_, rfl⟩
          rw [hu] at c1 hY1
          clear hu hc1
          obtain ⟨b2, o2, rfl, _, hc2⟩ := ry.at_ h2
          have c2 := hc2 k h2
          rw [← getD_at h2] at c2
          obtain ⟨v, hv⟩ : ∃ v, ys.getD k 0 = v := ⟨_, rfl⟩
          rw [hv] at c2 hY1
          clear hv hc2
          clear hlt rx ry
          obtain ⟨fn, tmps, assign, body, hyy, hR⟩ := hY1
          gi_wp2
          refine hR.mono ?_
          rintro e W3 (⟨rfl, hJ3, hk3⟩ | ⟨rfl, hJx3⟩)
          · gi_wp2
            go_roundw
            case rel => exact NEXT.out W3 hJ3 hk3
            case measure => have := HEND.out; simp [intOf]; omega
          · gi_wp2
            refine bodyPost_ret (results_none rfl _ _ _) rfl ?_
            exact ⟨⟨_, rfl⟩, .inr ⟨k, by have := HEND.out; omega, hJx3⟩⟩
        · obtain ⟨b2, o2, rfl, _, hc2⟩ := ry.at_ h2
          have c2 := hc2 k h2
          rw [← getD_at h2] at c2
          obtain ⟨v, hv⟩ : ∃ v, ys.getD k 0 = v := ⟨_, rfl⟩
          rw [hv] at c2 hY1
          clear hv hc2
          rw [getD_over (xs := xs) (by omega), show ((0 : Nat) : Int) = 0 from rfl] at hY1
          clear hlt rx ry
          obtain ⟨fn, tmps, assign, body, hyy, hR⟩ := hY1
          gi_wp2
          refine hR.mono ?_
          rintro e W3 (⟨rfl, hJ3, hk3⟩ | ⟨rfl, hJx3⟩)
          · gi_wp2
            go_roundw
            case rel => exact NEXT.out W3 hJ3 hk3
            case measure => have := HEND.out; simp [intOf]; omega
          · gi_wp2
            refine bodyPost_ret (results_none rfl _ _ _) rfl ?_
            exact ⟨⟨_, rfl⟩, .inr ⟨k, by have := HEND.out; omega, hJx3⟩⟩
      · obtain rfl : k = ys.length := by omega
        gi_wp2
        go_end0
        exact ⟨⟨_, rfl⟩, .inl hJ⟩
end Go.Proofs.Ytoaghihhobggoaa

namespace Go.Proofs.Ytoaghihhobggoaa

/-- What is carried into place k of xs + q ys. -/
def crr (q : Int) (xs ys : List Nat) : Nat → Int
  | 0 => 0
  | k + 1 => ((xs.getD k 0 : Nat) + q * (ys.getD k 0 : Nat) + crr q xs ys k) / 4294967296

/-- The word at place k. -/
def outD (q : Int) (xs ys : List Nat) (k : Nat) : Nat := (((xs.getD k 0 : Nat) + q * (ys.getD k 0 : Nat) + crr q xs ys k) % 4294967296).toNat

def outs (q : Int) (xs ys : List Nat) : Nat → List Nat
  | 0 => []
  | k + 1 => outs q xs ys k ++ [outD q xs ys k]

theorem outs_length (q : Int) (xs ys : List Nat) : ∀ k, (outs q xs ys k).length = k
  | 0 => rfl
  | k + 1 => by simp [outs, outs_length q xs ys k]

theorem outD_lt (q : Int) (xs ys : List Nat) (k : Nat) : outD q xs ys k < b32 := by
  unfold outD b32
  omega

theorem outD_cast (q : Int) (xs ys : List Nat) (k : Nat) : ((outD q xs ys k : Nat) : Int) = ((xs.getD k 0 : Nat) + q * (ys.getD k 0 : Nat) + crr q xs ys k) % 4294967296 := by
  unfold outD
  omega

theorem outs_dg (q : Int) (xs ys : List Nat) : ∀ k, Dg b32 (outs q xs ys k)
  | 0 => Dg.nil
  | k + 1 => (outs_dg q xs ys k).app (Dg.one (outD_lt q xs ys k))

theorem val_take_succ {b : Nat} (xs : List Nat) (k : Nat) : val b (xs.take (k + 1)) = val b (xs.take k) + b ^ k * xs.getD k 0 := by
  by_cases h : k < xs.length
  · rw [take_snoc xs k h, val_append, getD_at h]
    have : (xs.take k).length = k := by simp; omega
    rw [this]
    simp [val]
  · rw [getD_over (by omega), List.take_of_length_le (by omega), List.take_of_length_le (by omega)]
    simp

theorem getD_dg {b : Nat} (hb : 0 < b) {xs : List Nat} (h : Dg b xs) (k : Nat) : xs.getD k 0 < b := by
  by_cases hk : k < xs.length
  · rw [getD_at hk]; exact h.at_ hk
  · rw [getD_over (by omega)]; exact hb

theorem outs_val (q : Int) (xs ys : List Nat) : ∀ k, ((val b32 (outs q xs ys k) : Nat) : Int) + (b32 ^ k : Nat) * crr q xs ys k = (val b32 (xs.take k) : Nat) + q * (val b32 (ys.take k) : Nat)
  | 0 => by simp [outs, val, crr]
  | k + 1 => by
    have ih := outs_val q xs ys k
    rw [outs, val_append, outs_length, val_take_succ xs k, val_take_succ ys k, crr]
    simp only [val, Nat.mul_zero, Nat.add_zero]
    have h1 := outD_cast q xs ys k
    have h2 := Int.emod_add_mul_ediv ((xs.getD k 0 : Nat) + q * (ys.getD k 0 : Nat) + crr q xs ys k) 4294967296
    rw [← h1] at h2
    generalize ((xs.getD k 0 : Nat) + q * (ys.getD k 0 : Nat) + crr q xs ys k : Int) / 4294967296 = c at h2 ⊢
    generalize outD q xs ys k = d at h1 h2 ⊢
    clear h1
    have h3 : ((b32 ^ (k + 1) : Nat) : Int) = (b32 ^ k : Nat) * 4294967296 := by rw [Nat.pow_succ]; simp [b32]
    rw [h3]
    simp only [Int.natCast_add, Int.natCast_mul]
    have h4 : ((b32 ^ k : Nat) : Int) * ((d : Int) + 4294967296 * c) = (b32 ^ k : Nat) * ((xs.getD k 0 : Nat) + q * (ys.getD k 0 : Nat) + crr q xs ys k) := by rw [h2]
    simp only [Int.mul_add] at h4 ⊢
    have h5 : q * (((b32 ^ k : Nat) : Int) * ((ys.getD k 0 : Nat) : Int)) = (b32 ^ k : Nat) * (q * (ys.getD k 0 : Nat)) := by rw [Int.mul_left_comm]
    rw [h5, Int.mul_assoc]
    omega

theorem crr_bounds {q : Int} (hq : q = 1 ∨ q = -1) {xs ys : List Nat} (hx : Dg b32 xs) (hy : Dg b32 ys) : ∀ k, -1 ≤ crr q xs ys k ∧ crr q xs ys k ≤ 1
  | 0 => by simp [crr]
  | k + 1 => by
    obtain ⟨h1, h2⟩ := crr_bounds hq hx hy k
    have h3 := getD_dg (by decide) hx k
    have h4 := getD_dg (by decide) hy k
    unfold b32 at h3 h4
    rw [crr]
    rcases hq with rfl | rfl <;> omega

/-- The last word is what is carried out at the end. -/
theorem outs_all {q : Int} (hq : q = 1 ∨ q = -1) {xs ys : List Nat} (hx : Dg b32 xs) (hy : Dg b32 ys) (h0 : 0 ≤ ((val b32 xs : Nat) : Int) + q * (val b32 ys : Nat)) {N : Nat} (hN : xs.length ≤ N) (hN' : ys.length ≤ N) :
    ((val b32 (outs q xs ys (N + 1)) : Nat) : Int) = (val b32 xs : Nat) + q * (val b32 ys : Nat) := by
  have h1 := outs_val q xs ys N
  rw [List.take_of_length_le hN, List.take_of_length_le hN'] at h1
  have h2 := val_lt (outs_dg q xs ys N)
  rw [outs_length] at h2
  obtain ⟨h3, h4⟩ := crr_bounds hq hx hy N
  have h5 : 0 ≤ crr q xs ys N := by
    rcases Int.lt_or_le (crr q xs ys N) 0 with h | h
    · have : crr q xs ys N = -1 := by omega
      rw [this] at h1
      omega
    · exact h
  rw [outs, val_append, outs_length]
  simp only [val, Nat.mul_zero, Nat.add_zero]
  have h6 : outD q xs ys N = (crr q xs ys N).toNat := by
    unfold outD
    rw [getD_over hN, getD_over hN']
    simp
    omega
  rw [h6]
  have h7 : (((crr q xs ys N).toNat : Nat) : Int) = crr q xs ys N := by omega
  rw [Int.natCast_add, Int.natCast_mul, h7]
  exact h1
end Go.Proofs.Ytoaghihhobggoaa
