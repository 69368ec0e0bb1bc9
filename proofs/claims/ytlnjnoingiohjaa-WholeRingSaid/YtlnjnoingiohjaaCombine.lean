/- whole.combiner, whole.multiplier and the functions that they return; whole.pairs; whole.combine. -/
import Derived.Test.YtlnjnoingiohjaaCompare
import Derived.Test.YtlnjnoingiohjaaWords
namespace Go.Proofs.Ytlnjnoingiohjaa
open Go.RowKit Go.Shelf
attribute [local go_sem] Oper.semAt_some

theorem combiner_any (p q : Int) (w : World) :
    Calls Try.prog 79 #[.int .i64 p, .int .i64 q] w fun e w' => e = .returned (.func (.func 95) #[] #[.pointer (some ⟨w.heap.size, 0, none⟩), .pointer (some ⟨w.heap.size + 1, 0, none⟩), .pointer (some ⟨w.heap.size + 1 + 1, 0, none⟩)]) ∧
      w' = ((w.alloc (.cells #[.int .i64 p] 2)).alloc (.cells #[.int .i64 q] 2)).alloc (.cells #[.int .i64 0] 2) := by
  go_enter Try.func79, Try.ntmps79
  go_wp2
  go_ret
  exact ⟨rfl, rfl⟩

set_option maxHeartbeats 400000 in
theorem combiner1_any (p q r : Int) (u v : Nat) (Bp Bq Br : Nat) (w : World) (hu : u < 4294967296) (hv : v < 4294967296)
    (cp : w.cell? ⟨Bp, 0, none⟩ = some (.int .i64 p)) (cq : w.cell? ⟨Bq, 0, none⟩ = some (.int .i64 q)) (cr : w.cell? ⟨Br, 0, none⟩ = some (.int .i64 r)) (fr : w.frozen? ⟨Br, 0, none⟩ = false)
    (h1 : -9223372036854775808 ≤ p * (u : Int)) (h2 : p * (u : Int) ≤ 9223372036854775807) (h3 : -9223372036854775808 ≤ q * (v : Int)) (h4 : q * (v : Int) ≤ 9223372036854775807)
    (h5 : -9223372036854775808 ≤ p * (u : Int) + q * (v : Int)) (h6 : p * (u : Int) + q * (v : Int) ≤ 9223372036854775807)
    (h7 : -9223372036854775808 ≤ p * (u : Int) + q * (v : Int) + r) (h8 : p * (u : Int) + q * (v : Int) + r ≤ 9223372036854775807) :
    Calls Try.prog 95 #[.int .u32 (u : Nat), .int .u32 (v : Nat), .pointer (some ⟨Bp, 0, none⟩), .pointer (some ⟨Bq, 0, none⟩), .pointer (some ⟨Br, 0, none⟩)] w fun e w' =>
      e = .returned (.int .u32 ((p * u + q * v + r) % 4294967296)) ∧ w' = w.setCell ⟨Br, 0, none⟩ (.int .i64 ((p * u + q * v + r) / 4294967296)) := by
  go_enter Try.func95, Try.ntmps95
  go_wp2
  go_ret
  exact ⟨rfl, rfl⟩

theorem pairs_any (A A' : Option Addr) (n n' c c' : Nat) (w : World) :
    Calls Try.prog 80 #[.slice A n c, .slice A' n' c'] w fun e w' => e = .returned (.func (.func 96) #[] #[.pointer (some ⟨w.heap.size, 0, none⟩), .pointer (some ⟨w.heap.size + 1, 0, none⟩)]) ∧
      w' = (w.alloc (.cells #[.slice A n c] 22)).alloc (.cells #[.slice A' n' c'] 22) := by
  go_enter Try.func80, Try.ntmps80
  go_wp2
  go_ret
  exact ⟨rfl, rfl⟩

def pairE (xs ys : List Nat) (k : Nat) : Array Value := #[.int .u32 ((xs.getD k 0 : Nat) : Int), .int .u32 ((ys.getD k 0 : Nat) : Int)]

/-- What a round over pairs leaves alone: the two boxes, and whatever lies below B. -/
def pairS (Bx By B : Nat) (p : Addr) : Prop := p = ⟨Bx, 0, none⟩ ∨ p = ⟨By, 0, none⟩ ∨ p.block < B

theorem pairS_lt {Bx By B S : Nat} (h1 : Bx < S) (h2 : By < S) (h3 : B ≤ S) : ∀ p, pairS Bx By B p → p.block < S := by
  rintro p (rfl | rfl | hp)
  · exact h1
  · exact h2
  · omega

theorem Rd.keepAt {kd : IntKind} {w w' : World} {B : Nat} {S : Addr → Prop} {A : Option Addr} {xs : List Nat} (h : Rd kd w B A xs) (hS : ∀ p : Addr, p.block < B → S p) (hk : KeepAt S w w') : Rd kd w' B A xs := by
  intro k hk'
  obtain ⟨b, o, rfl, hb, hc⟩ := h k hk'
  exact ⟨b, o, rfl, hb, (hk _ (hS _ hb)).trans hc⟩

set_option maxHeartbeats 2000000 in
theorem pairs_gives (Bx By B c c' : Nat) (A A' : Option Addr) (xs ys : List Nat) (hx63 : xs.length ≤ 9223372036854775807) (hy63 : ys.length ≤ 9223372036854775807) (W : World)
    (hbx : W.cell? ⟨Bx, 0, none⟩ = some (.slice A xs.length c)) (hby : W.cell? ⟨By, 0, none⟩ = some (.slice A' ys.length c')) (hx : Rd .u32 W B A xs) (hy : Rd .u32 W B A' ys) :
    Gives Try.prog 96 #[.pointer (some ⟨Bx, 0, none⟩), .pointer (some ⟨By, 0, none⟩)] (max xs.length ys.length) (pairE xs ys) (fun _ => KeepAt (pairS Bx By B)) W := by
  intro l J Jx hY h0
  refine callsIn_of_wp Try.func96 rfl trivial ?_ rfl
  simp only [Try.ntmps96, List.size_toArray, List.length_cons, List.length_nil, Nat.reduceAdd, Nat.reduceSub, Array.replicate_succ, Array.replicate_zero, List.push_toArray, List.append_toArray, List.nil_append, List.cons_append]
  obtain ⟨N, hN, hNx, hNy⟩ : ∃ N, N = max xs.length ys.length ∧ xs.length ≤ N ∧ ys.length ≤ N := ⟨_, rfl, by omega, by omega⟩
  have hN63 : N ≤ 9223372036854775807 := by omega
  rw [← hN] at hY ⊢
  rcases Nat.lt_or_ge xs.length ys.length with hle | hle
  rotate_left
  · obtain rfl : N = xs.length := by omega
    clear hN
    gi_wp2
    gi_loopw [12] (fun i wr => ∃ k : Nat, i = .int .i64 k ∧ (k ≤ xs.length ∨ k ≤ ys.length) ∧ J k wr ∧ wr.cell? ⟨Bx, 0, none⟩ = some (.slice A xs.length c) ∧ wr.cell? ⟨By, 0, none⟩ = some (.slice A' ys.length c') ∧ Rd .u32 wr B A xs ∧ Rd .u32 wr B A' ys)
      (fun i _ => (max xs.length ys.length : Nat) - (intOf i).toNat)
    case atStart => exact ⟨0, rfl, by omega, h0, hbx, hby, hx, hy⟩
    case round =>
      obtain ⟨k, rfl, hk, hJ, cx, cy, rx, ry⟩ := hrel
      by_cases hlt : k < xs.length
      · have hY1 := hY k wr (by omega) hJ
        unfold pairE at hY1
        have next : ∀ W3, J (k + 1) W3 → KeepAt (pairS Bx By B) wr W3 → (∃ k' : Nat, (Value.int .i64 ((k : Int) + 1)) = .int .i64 k' ∧ (k' ≤ xs.length ∨ k' ≤ ys.length) ∧ J k' W3 ∧ W3.cell? ⟨Bx, 0, none⟩ = some (.slice A xs.length c) ∧ W3.cell? ⟨By, 0, none⟩ = some (.slice A' ys.length c') ∧ Rd .u32 W3 B A xs ∧ Rd .u32 W3 B A' ys) :=
          fun W3 hJ3 hk3 => ⟨k + 1, by simp, by omega, hJ3, (hk3 _ (.inl rfl)).trans cx, (hk3 _ (.inr (.inl rfl))).trans cy, rx.keepAt (fun p hp => .inr (.inr hp)) hk3, ry.keepAt (fun p hp => .inr (.inr hp)) hk3⟩
        have NEXT := Lib.hid next
        have HEND := Lib.hid hlt
        clear next hY hx hy hbx hby
        have h1 : k < xs.length := hlt
        by_cases h2 : k < ys.length
        · obtain ⟨b1, o1, rfl, _, hc1⟩ := rx.at_ h1
          have c1 := hc1 k h1
          rw [← getD_at h1] at c1
          obtain ⟨u, hu⟩ : ∃ u, xs.getD k 0 = u := ⟨_, rfl⟩
          rw [hu] at c1 hY1
          clear hu hc1
          obtain ⟨b2, o2, rfl, _, hc2⟩ := ry.at_ h2
          have c2 := hc2 k h2
          rw [← getD_at h2] at c2
          obtain ⟨v, hv⟩ : ∃ v, ys.getD k 0 = v := ⟨_, rfl⟩
          rw [hv] at c2 hY1
          clear hv hc2
          clear hlt rx ry
          obtain ⟨fn, tmps, assign, body, hyy, hR⟩ := hY1
          gi_wp2
          refine hR.mono ?_
          rintro e W3 (⟨rfl, hJ3, hk3⟩ | ⟨rfl, hJx3⟩)
          · gi_wp2
            go_roundw
            case rel => exact NEXT.out W3 hJ3 hk3
            case measure => have := HEND.out; simp [intOf]; omega
          · gi_wp2
            refine bodyPost_ret (results_none rfl _ _ _) rfl ?_
            exact ⟨⟨_, rfl⟩, .inr ⟨k, by have := HEND.out; omega, hJx3⟩⟩
        · obtain ⟨b1, o1, rfl, _, hc1⟩ := rx.at_ h1
          have c1 := hc1 k h1
          rw [← getD_at h1] at c1
          obtain ⟨u, hu⟩ : ∃ u, xs.getD k 0 = u := ⟨_, rfl⟩
          rw [hu] at c1 hY1
          clear hu hc1
          rw [getD_over (xs := ys) (by omega), show ((0 : Nat) : Int) = 0 from rfl] at hY1
          clear hlt rx ry
          obtain ⟨fn, tmps, assign, body, hyy, hR⟩ := hY1
          gi_wp2
          refine hR.mono ?_
          rintro e W3 (⟨rfl, hJ3, hk3⟩ | ⟨rfl, hJx3⟩)
          · gi_wp2
            go_roundw
            case rel => exact NEXT.out W3 hJ3 hk3
            case measure => have := HEND.out; simp [intOf]; omega
          · gi_wp2
            refine bodyPost_ret (results_none rfl _ _ _) rfl ?_
            exact ⟨⟨_, rfl⟩, .inr ⟨k, by have := HEND.out; omega, hJx3⟩⟩
      · obtain rfl : k = xs.length := by omega
        gi_wp2
        go_end0
        exact ⟨⟨_, rfl⟩, .inl hJ⟩
  · obtain rfl : N = ys.length := by omega
    clear hN
    gi_wp2
    gi_loopw [12] (fun i wr => ∃ k : Nat, i = .int .i64 k ∧ (k ≤ xs.length ∨ k ≤ ys.length) ∧ J k wr ∧ wr.cell? ⟨Bx, 0, none⟩ = some (.slice A xs.length c) ∧ wr.cell? ⟨By, 0, none⟩ = some (.slice A' ys.length c') ∧ Rd .u32 wr B A xs ∧ Rd .u32 wr B A' ys)
      (fun i _ => (max xs.length ys.length : Nat) - (intOf i).toNat)
    case atStart => exact ⟨0, rfl, by omega, h0, hbx, hby, hx, hy⟩
    case round =>
      obtain ⟨k, rfl, hk, hJ, cx, cy, rx, ry⟩ := hrel
      by_cases hlt : k < ys.length
      · have hY1 := hY k wr (by omega) hJ
        unfold pairE at hY1
        have next : ∀ W3, J (k + 1) W3 → KeepAt (pairS Bx By B) wr W3 → (∃ k' : Nat, (Value.int .i64 ((k : Int) + 1)) = .int .i64 k' ∧ (k' ≤ xs.length ∨ k' ≤ ys.length) ∧ J k' W3 ∧ W3.cell? ⟨Bx, 0, none⟩ = some (.slice A xs.length c) ∧ W3.cell? ⟨By, 0, none⟩ = some (.slice A' ys.length c') ∧ Rd .u32 W3 B A xs ∧ Rd .u32 W3 B A' ys) :=
          fun W3 hJ3 hk3 => ⟨k + 1, by simp, by omega, hJ3, (hk3 _ (.inl rfl)).trans cx, (hk3 _ (.inr (.inl rfl))).trans cy, rx.keepAt (fun p hp => .inr (.inr hp)) hk3, ry.keepAt (fun p hp => .inr (.inr hp)) hk3⟩
        have NEXT := Lib.hid next
        have HEND := Lib.hid hlt
        clear next hY hx hy hbx hby
        have h2 : k < ys.length := hlt
        by_cases h1 : k < xs.length
        · obtain ⟨b1, o1, rfl, _, hc1⟩ := rx.at_ h1
          have c1 := hc1 k h1
          rw [← getD_at h1] at c1
          obtain ⟨u, hu⟩ : ∃ u, xs.getD k 0 = u := ⟨_, rfl⟩
          rw [hu] at c1 hY1
          clear hu hc1
          obtain ⟨b2, o2, rfl, _, hc2⟩ := ry.at_ h2
          have c2 := hc2 k h2
          rw [← getD_at h2] at c2
          obtain ⟨v, hv⟩ : ∃ v, ys.getD k 0 = v := ⟨_, rfl⟩
          rw [hv] at c2 hY1
          clear hv hc2
          clear hlt rx ry
          obtain ⟨fn, tmps, assign, body, hyy, hR⟩ := hY1
          gi_wp2
          refine hR.mono ?_
          rintro e W3 (⟨rfl, hJ3, hk3⟩ | ⟨rfl, hJx3⟩)
          · gi_wp2
            go_roundw
            case rel => exact NEXT.out W3 hJ3 hk3
            case measure => have := HEND.out; simp [intOf]; omega
          · gi_wp2
            refine bodyPost_ret (results_none rfl _ _ _) rfl ?_
            exact ⟨⟨_, rfl⟩, .inr ⟨k, by have := HEND.out; omega, hJx3⟩⟩
        · obtain ⟨b2, o2, rfl, _, hc2⟩ := ry.at_ h2
          have c2 := hc2 k h2
          rw [← getD_at h2] at c2
          obtain ⟨v, hv⟩ : ∃ v, ys.getD k 0 = v := ⟨_, rfl⟩
          rw [hv] at c2 hY1
          clear hv hc2
          rw [getD_over (xs := xs) (by omega), show ((0 : Nat) : Int) = 0 from rfl] at hY1
          clear hlt rx ry
          obtain ⟨fn, tmps, assign, body, hyy, hR⟩ := hY1
          gi_wp2
          refine hR.mono ?_
          rintro e W3 (⟨rfl, hJ3, hk3⟩ | ⟨rfl, hJx3⟩)
          · gi_wp2
            go_roundw
            case rel => exact NEXT.out W3 hJ3 hk3
            case measure => have := HEND.out; simp [intOf]; omega
          · gi_wp2
            refine bodyPost_ret (results_none rfl _ _ _) rfl ?_
            exact ⟨⟨_, rfl⟩, .inr ⟨k, by have := HEND.out; omega, hJx3⟩⟩
      · obtain rfl : k = ys.length := by omega
        gi_wp2
        go_end0
        exact ⟨⟨_, rfl⟩, .inl hJ⟩
end Go.Proofs.Ytlnjnoingiohjaa
