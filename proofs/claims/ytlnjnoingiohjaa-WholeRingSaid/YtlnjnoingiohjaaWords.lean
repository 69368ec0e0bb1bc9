/- whole.toWords. -/
import Derived.Test.YtlnjnoingiohjaaTrim
import Derived.Test.YtlnjnoingiohjaaMath
namespace Go.Proofs.Ytlnjnoingiohjaa
open Go.RowKit

/-- v is a slice that reads as xs in w, below block B. -/
def Sl (kd : IntKind) (w : World) (B : Nat) (v : Value) (xs : List Nat) : Prop :=
  ∃ A c, v = .slice A xs.length c ∧ Rd kd w B A xs ∧ xs.length ≤ c ∧ c ≤ 9223372036854775807

theorem Sl.to {kd : IntKind} {w w' : World} {v : Value} {xs : List Nat} (h : Sl kd w w.heap.size v xs) (hb : Below w.heap.size w w') : Sl kd w' w'.heap.size v xs := by
  obtain ⟨A, c, rfl, hr, h1, h2⟩ := h
  exact ⟨A, c, rfl, hr.to hb, h1, h2⟩

theorem Sl.trim {kd : IntKind} {w : World} {B c b : Nat} {A : Option Addr} {xs : List Nat} (hb : 1 < b) (h : Rd kd w B A xs) (hd : Dg b xs) (hc : xs.length ≤ c) (hc' : c ≤ 9223372036854775807) :
    Sl kd w B (.slice A (trimN xs) c) (dig b (val b xs)) := by
  refine ⟨A, c, ?_, ?_, ?_, hc'⟩
  · rw [← trimL_dig hb hd, trimL_length]
  · rw [← trimL_dig hb hd]; exact h.take _
  · rw [← trimL_dig hb hd]; exact Nat.le_trans (trimL_le xs) hc

theorem Rd.new (kd : IntKind) (w : World) (e : TypeId) (xs : List Nat) : Rd kd (w.alloc (.cells (ints kd xs).toArray e)) (w.heap.size + 1) (some ⟨w.heap.size, 0, none⟩) xs := by
  intro k hk
  refine ⟨_, _, rfl, by omega, ?_⟩
  have h1 : (w.alloc (.cells (ints kd xs).toArray e)).heap[w.heap.size]? = some (.cells (ints kd xs).toArray e) := by
    show (w.heap.push _)[w.heap.size]? = _
    simp
  simp only [World.cell?, h1]
  simp [ints, hk]

theorem two_val (n : Nat) : val b32 [n % 4294967296, n / 4294967296] = n := by simp only [val, b32]; omega
theorem two_dg {n : Nat} (hn : n < 18446744073709551616) : Dg b32 [n % 4294967296, n / 4294967296] :=
  Dg.cons (by unfold b32; omega) (Dg.one (by unfold b32; omega))
theorem two_trim {n : Nat} (hn : n < 18446744073709551616) : trimL [n % 4294967296, n / 4294967296] = dig b32 n := by
  rw [trimL_dig b32_one (two_dg hn), two_val]

set_option maxHeartbeats 400000 in
theorem toWords_any (n : Nat) (hn : n < 18446744073709551616) (w : World) :
    Calls Try.prog 48 #[.int .u64 (n : Nat)] w fun e w' => ∃ v, e = .returned v ∧ Sl .u32 w' w'.heap.size v (dig b32 n) ∧ Below w.heap.size w w' := by
  have hr := Rd.new .u32 w 52 [n % 4294967296, n / 4294967296]
  have HR := Lib.hid hr
  have HN := Lib.hid hn
  clear hr
  go_enter Try.func48, Try.ntmps48
  go_wp2_with fail
  refine (trim_any _ 2 (w.heap.size + 1) [n % 4294967296, n / 4294967296] _ HR.out (by simp) (by omega)).mono ?_
  rintro e w' ⟨rfl, rfl⟩
  go_wp2
  go_ret
  have hs := Sl.trim b32_one HR.out (two_dg HN.out) (c := 2) (by simp) (by omega)
  rw [two_val] at hs
  exact ⟨_, rfl, by simpa using hs, (Below.refl _ _).alloc (Nat.le_refl _) _⟩
end Go.Proofs.Ytlnjnoingiohjaa
