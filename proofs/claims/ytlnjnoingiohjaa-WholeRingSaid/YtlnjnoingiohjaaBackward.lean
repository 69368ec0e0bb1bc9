/- slices.Backward over 32-bit words: the function that it returns gives the words from the last one on. -/
import Derived.Test.YtlnjnoingiohjaaChecked
import Derived.Test.YtlnjnoingiohjaaBase
import Derived.Test.YtlnjnoingiohjaaRounds
import Derived.Outline
namespace Go.Proofs.Ytlnjnoingiohjaa
open Go.RowKit
attribute [local go_sem] Oper.semAt_some

/-- The cells at the addresses in S are as they were. -/
def KeepAt (S : Addr → Prop) (W V : World) : Prop := ∀ p, S p → V.cell? p = W.cell? p

theorem keepAt_round {w A B : World} {S : Addr → Prop} (hS : ∀ p, S p → p.block < w.heap.size) (o o' : Obj) (h : KeepAt S (A.putObj (w.heap.size + 1) o) B) : KeepAt S A (B.putObj (w.heap.size + 1) o') := by
  intro p hp
  have hb := hS p hp
  have h1 : (B.putObj (w.heap.size + 1) o').cell? p = B.cell? p := World.cell?_of_block (World.putObj_heap_other (by omega))
  have h2 : (A.putObj (w.heap.size + 1) o).cell? p = A.cell? p := World.cell?_of_block (World.putObj_heap_other (by omega))
  rw [h1, h p hp, h2]

theorem keepAt_below {B : Nat} {S : Addr → Prop} (hS : ∀ p, S p → p.block < B) {W V : World} (h : Below B W V) : KeepAt S W V := fun p hp => h.cell (hS p hp)

/-- What the k-th round leaves alone: the box of the slice, and the words that are still to come. -/
def backS (Bs : Nat) (A : Option Addr) (m : Nat) (p : Addr) : Prop := p = ⟨Bs, 0, none⟩ ∨ ∃ b o j, A = some ⟨b, o, none⟩ ∧ j < m ∧ p = ⟨b, o + j, none⟩

theorem backS_lt {kd : IntKind} {w : World} {Bs B S m : Nat} {A : Option Addr} {xs : List Nat} (h : Rd kd w B A xs) (hm : m ≤ xs.length) (h1 : Bs < S) (h2 : B ≤ S) : ∀ p, backS Bs A m p → p.block < S := by
  rintro p (rfl | ⟨b, o, j, rfl, hj, rfl⟩)
  · exact h1
  · obtain ⟨b', o', e, hb, _⟩ := h 0 (by omega)
    simp only [Option.some.injEq, Addr.mk.injEq] at e
    show b < S
    omega

def backE (xs : List Nat) (k : Nat) : Array Value := #[.int .i64 ((xs.length - 1 - k : Nat) : Int), .int .u32 ((xs.getD (xs.length - 1 - k) 0 : Nat) : Int)]

theorem backward_any (A : Option Addr) (n c : Nat) (w : World) :
    Calls Try.prog 76 #[.slice A n c] w fun e w' => e = .returned (.func (.func 87) #[] #[.pointer (some ⟨w.heap.size, 0, none⟩)]) ∧ w' = w.alloc (.cells #[.slice A n c] 22) := by
  go_enter Try.func76, Try.ntmps76
  go_wp2
  go_ret
  exact ⟨rfl, rfl⟩

set_option maxHeartbeats 1000000 in
theorem backward_gives (Bs B c : Nat) (A : Option Addr) (xs : List Nat) (hlc : xs.length ≤ c) (hc : c ≤ 9223372036854775807) (W : World)
    (hbox : W.cell? ⟨Bs, 0, none⟩ = some (.slice A xs.length c)) (hr : Rd .u32 W B A xs) :
    Gives Try.prog 87 #[.pointer (some ⟨Bs, 0, none⟩)] xs.length (backE xs) (fun k => KeepAt (backS Bs A (xs.length - 1 - k))) W := by
  intro l J Jx hY h0
  refine callsIn_of_wp Try.func87 rfl trivial ?_ rfl
  simp only [Try.ntmps87, List.size_toArray, List.length_cons, List.length_nil, Nat.reduceAdd, Nat.reduceSub, Array.replicate_succ, Array.replicate_zero, List.push_toArray, List.append_toArray, List.nil_append, List.cons_append]
  gi_wp2
  gi_loopw [3] (fun i wr => ∃ (k : Nat) (i' : Int), i = .int .i64 i' ∧ k ≤ xs.length ∧ i' = (xs.length : Int) - 1 - k ∧ J k wr ∧ wr.cell? ⟨Bs, 0, none⟩ = some (.slice A xs.length c) ∧ Rd .u32 wr B A (xs.take (xs.length - k)))
    (fun i _ => (intOf i + 1).toNat)
  case atStart => exact ⟨0, _, rfl, Nat.zero_le _, by simp, h0, hbox, by simpa using hr⟩
  case round =>
    obtain ⟨k, i', rfl, hk, hi, hJ, hb, hrd⟩ := hrel
    by_cases hlt : k < xs.length
    · obtain ⟨m, hm⟩ : ∃ m, m = xs.length - 1 - k := ⟨_, rfl⟩
      obtain rfl : i' = (m : Int) := by omega
      have hmn : m < xs.length := by omega
      have hj : m < (xs.take (xs.length - k)).length := by simp; omega
      obtain ⟨b, o, rfl, _, hcell⟩ := hrd.at_ hj
      have hcj := hcell _ hj
      have hY1 := hY k wr hlt hJ
      unfold backE at hY1
      rw [← hm] at hY1
      have hx : (xs.take (xs.length - k))[m] = xs.getD m 0 := by simp [hmn]
      rw [hx] at hcj
      obtain ⟨x, HX⟩ : ∃ x, Hid (x = xs.getD m 0) := ⟨_, rfl⟩
      rw [← HX.out] at hcj hY1
      have HM := Lib.hid hm
      have HI := Lib.hid hi
      clear hm hi hY hx hcell hr hbox
      obtain ⟨fn, tmps, assign, body, hy, hR⟩ := hY1
      gi_wp2
      refine hR.mono ?_
      rintro e W3 (⟨rfl, hJ3, hk3⟩ | ⟨rfl, hJx3⟩)
      · have hb3 := (hk3 _ (.inl rfl)).trans hb
        have hrd3 : Rd .u32 W3 B (some ⟨b, o, none⟩) (xs.take (xs.length - (k + 1))) := by
          intro j hj'
          have hjm : j < m := by have := HM.out; simp at hj'; omega
          obtain ⟨b', o', e, hB, hc'⟩ := hrd j (by have := HM.out; simp; omega)
          refine ⟨b', o', e, hB, ?_⟩
          rw [hk3 _ (.inr ⟨b', o', j, e, hjm, rfl⟩), hc']
          simp
        gi_wp2
        go_roundw
        case rel => exact ⟨k + 1, _, rfl, by omega, by have := HI.out; omega, hJ3, hb3, hrd3⟩
        case measure => simp [intOf]
      · gi_wp2
        refine bodyPost_ret (results_none rfl _ _ _) rfl ?_
        exact ⟨⟨_, rfl⟩, .inr ⟨k, hlt, hJx3⟩⟩
    · obtain rfl : k = xs.length := by omega
      obtain rfl : i' = -1 := by omega
      clear hi
      gi_wp2
      go_end0
      exact ⟨⟨_, rfl⟩, .inl hJ⟩
end Go.Proofs.Ytlnjnoingiohjaa
