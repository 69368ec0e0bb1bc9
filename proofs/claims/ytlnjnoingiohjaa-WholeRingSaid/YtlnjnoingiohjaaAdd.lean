/- whole.sum. -/
import Derived.Test.YtlnjnoingiohjaaInteger
import Derived.Deep.RegionWith
namespace Go.Proofs.Ytlnjnoingiohjaa
open Go.RowKit Go.Shelf

/-- A row of words at A, with room for c, as an argument. -/
structure Arg (w : World) (A : Option Addr) (c : Nat) (xs : List Nat) : Prop where
  rd : Rd .u32 w w.heap.size A xs
  dg : Dg b32 xs
  le : xs.length ≤ c
  cap : c ≤ 9223372036854775807
  small : xs.length ≤ 4294967295

theorem Arg.to {w w' : World} {A : Option Addr} {c : Nat} {xs : List Nat} (h : Arg w A c xs) (hb : Below w.heap.size w w') : Arg w' A c xs := ⟨h.rd.to hb, h.dg, h.le, h.cap, h.small⟩
theorem Arg.trim {w : World} {A : Option Addr} {c : Nat} {xs : List Nat} (h : Arg w A c xs) : Arg w A c (trimL xs) :=
  ⟨h.rd.take _, h.dg.take _, Nat.le_trans (trimL_le xs) h.le, h.cap, Nat.le_trans (trimL_le xs) h.small⟩
theorem trim_trimmed {b : Nat} (hb : 1 < b) {xs : List Nat} (h : Dg b xs) : trimN (trimL xs) = (trimL xs).length := by
  rw [trimL_dig hb h, trimN_of_dig hb]

theorem trim_l {A : Option Addr} {c : Nat} {xs : List Nat} {w : World} (h : Arg w A c xs) :
    Calls Try.prog 44 #[.slice A xs.length c] w fun e w' => e = .returned (.slice A (trimL xs).length c) ∧ w = w' := by
  refine (trim_any A c _ xs w h.rd h.le h.cap).mono ?_
  rintro e w' ⟨rfl, rfl⟩
  rw [trimL_length]
  exact ⟨rfl, rfl⟩

/-- combine, then integer. -/
theorem combine_l {q : Int} (hq : q = 1 ∨ q = -1) {A A' : Option Addr} {c c' : Nat} {xs ys : List Nat} {w : World} (hx : Arg w A c xs) (hy : Arg w A' c' ys) (h0 : 0 ≤ ((val b32 xs : Nat) : Int) + q * (val b32 ys : Nat)) :
    Calls Try.prog 60 #[.slice A xs.length c, .slice A' ys.length c', .int .i64 1, .int .i64 q] w fun e w' => ∃ A1 c1 zs, e = .returned (.slice A1 zs.length c1) ∧
      Rd .u32 w' w'.heap.size A1 zs ∧ zs.length ≤ c1 ∧ c1 ≤ 9223372036854775807 ∧ Dg b32 zs ∧ zs.length ≤ max xs.length ys.length + 1 ∧ ((val b32 zs : Nat) : Int) = (val b32 xs : Nat) + q * (val b32 ys : Nat) ∧ Below w.heap.size w w' := by
  refine (combine_any q hq A A' c c' xs ys w hx.rd hy.rd hx.dg hy.dg (by have := hx.small; omega) (by have := hy.small; omega) h0).mono ?_
  rintro e w' ⟨v, zs, rfl, ⟨A1, c1, rfl, h1, h2, h3⟩, h4, h5, h6, h7⟩
  exact ⟨A1, c1, zs, rfl, h1, h2, h3, h4, h5, h6, h7⟩

/-- What a function that returns a Z promises, its shape written out. -/
def ZRet (w : World) (z : Int) (e : Ending) (w' : World) : Prop := ∃ A c, e = .returned (.agg #[.bool (decide (z < 0)), .slice A (dig b32 z.natAbs).length c]) ∧ Rd .u32 w' w'.heap.size A (dig b32 z.natAbs) ∧ (dig b32 z.natAbs).length ≤ c ∧ c ≤ 9223372036854775807 ∧ Below w.heap.size w w'

theorem integer_l (neg : Bool) {A : Option Addr} {c : Nat} {xs : List Nat} {w : World} (hx : Rd .u32 w w.heap.size A xs) (dx : Dg b32 xs) (hc : xs.length ≤ c) (hc' : c ≤ 9223372036854775807) :
    Calls Try.prog 47 #[.bool neg, .slice A xs.length c] w (ZRet w (zof neg (val b32 xs))) := by
  refine (integer_any neg A c xs w hx dx hc hc').mono ?_
  rintro e w' ⟨v, rfl, ⟨sv, rfl, A1, c1, rfl, h1, h2, h3⟩, hb⟩
  exact ⟨A1, c1, rfl, h1, h2, h3, hb⟩

/-- Block g begins with the cells a and b, and neither is frozen. -/
structure Two (W : World) (g : Nat) (a b : Value) : Prop where
  c0 : W.cell? ⟨g, 0, none⟩ = some a
  c1 : W.cell? ⟨g, 1, none⟩ = some b
  f0 : W.frozen? ⟨g, 0, none⟩ = false
  f1 : W.frozen? ⟨g, 1, none⟩ = false
  lt : g < W.heap.size

theorem Two.to {W V : World} {g : Nat} {a b : Value} (h : Two W g a b) (hb : Below W.heap.size W V) : Two V g a b :=
  ⟨(hb.cell (p := ⟨g, 0, none⟩) h.lt).trans h.c0, (hb.cell (p := ⟨g, 1, none⟩) h.lt).trans h.c1, (hb.frozen (p := ⟨g, 0, none⟩) h.lt).trans h.f0, (hb.frozen (p := ⟨g, 1, none⟩) h.lt).trans h.f1, Nat.lt_of_lt_of_le h.lt hb.size⟩

theorem Two.of {W : World} {g : Nat} {a b : Value} {t : TypeId} (h : W.heap[g]? = some (.cells #[a, b] t (0, 0))) : Two W g a b :=
  ⟨by simp [World.cell?, h], by simp [World.cell?, h], by simp [World.frozen?, h], by simp [World.frozen?, h], (Array.getElem?_eq_some_iff.1 h).1⟩

theorem Two.new (W : World) (a b : Value) (t : TypeId) : Two (W.alloc (.cells #[a, b] t)) W.heap.size a b := Two.of (World.alloc_heap_new W _)
theorem Two.alloc {W : World} {g : Nat} {a b : Value} (h : Two W g a b) (o : Obj) : Two (W.alloc o) g a b := h.to ((Below.refl _ _).alloc (Nat.le_refl _) _)

theorem Two.set {W : World} {g : Nat} {a b : Value} (h : Two W g a b) (a' b' : Value) : Two ((W.setCell ⟨g, 0, none⟩ a').setCell ⟨g, 1, none⟩ b') g a' b' := by
  have h0 : (W.setCell ⟨g, 0, none⟩ a').cell? ⟨g, 0, none⟩ = some a' := World.cell?_setCell_same' _ _ _ (by rw [h.c0]; rfl)
  have h1 : (W.setCell ⟨g, 0, none⟩ a').cell? ⟨g, 1, none⟩ = some b := (World.cell?_setCell_other _ _ _ _ (by simp)).trans h.c1
  refine ⟨(World.cell?_setCell_other _ _ _ _ (by simp)).trans h0, World.cell?_setCell_same' _ _ _ (by rw [h1]; rfl), ?_, ?_, by simpa [World.setCell] using h.lt⟩
  · rw [World.frozen?_setCell, World.frozen?_setCell]; exact h.f0
  · rw [World.frozen?_setCell, World.frozen?_setCell]; exact h.f1

/-- A store into a cell that holds no integer leaves a row of integers as it was. -/
theorem Rd.set {kd : IntKind} {w : World} {B : Nat} {A : Option Addr} {xs : List Nat} (h : Rd kd w B A xs) {p : Addr} {u : Value} (hp : w.cell? p = some u) (hu : ∀ n : Int, u ≠ .int kd n) (v : Value) : Rd kd (w.setCell p v) B A xs := by
  intro k hk
  obtain ⟨b, o, rfl, hb, hc⟩ := h k hk
  refine ⟨b, o, rfl, hb, ?_⟩
  rw [World.cell?_setCell_other, hc]
  rintro rfl
  rw [hc] at hp
  injection hp with hp
  exact hu _ hp.symm

/-- A Z that is stored into a result's cells and handed back. -/
theorem zret_stored {w w3 : World} {g : Nat} {x : Bool} {A0 : Option Addr} {n0 c0 : Nat} {z : Int} {A : Option Addr} {c : Nat} (t : Two w3 g (.bool x) (.slice A0 n0 c0)) (hg : w.heap.size ≤ g) (hr : Rd .u32 w3 w3.heap.size A (dig b32 z.natAbs))
    (h2 : (dig b32 z.natAbs).length ≤ c) (h3 : c ≤ 9223372036854775807) (hb : Below w.heap.size w w3) :
    ZRet w z (.returned (.agg #[.bool (decide (z < 0)), .slice A (dig b32 z.natAbs).length c])) ((w3.setCell ⟨g, 0, none⟩ (.bool (decide (z < 0)))).setCell ⟨g, 1, none⟩ (.slice A (dig b32 z.natAbs).length c)) := by
  refine ⟨A, c, rfl, ?_, h2, h3, (hb.setCell (p := ⟨g, 0, none⟩) hg _).setCell (p := ⟨g, 1, none⟩) hg _⟩
  have h1 : (w3.setCell ⟨g, 0, none⟩ (.bool (decide (z < 0)))).cell? ⟨g, 1, none⟩ = some (.slice A0 n0 c0) := (World.cell?_setCell_other _ _ _ _ (by simp)).trans t.c1
  have h4 := (hr.set t.c0 (fun n e => by cases e) (.bool (decide (z < 0)))).set h1 (fun n e => by cases e) (.slice A (dig b32 z.natAbs).length c)
  exact h4.more (by simp [World.setCell])

set_option maxHeartbeats 1000000 in
theorem sum_same (n : Bool) {A A' : Option Addr} {c c' : Nat} {xs ys : List Nat} {w : World} (hx : Arg w A c xs) (hy : Arg w A' c' ys) :
    Calls Try.prog 50 #[.agg #[.bool n, .slice A xs.length c], .bool n, .slice A' ys.length c'] w (ZRet w (zof n (val b32 xs + val b32 ys))) := by
  have h1 : (n == n) = true := by simp
  have HX := Lib.hid hx
  have HY := Lib.hid hy
  clear hx hy
  obtain ⟨W0, hW0⟩ : ∃ W0, W0 = (w.alloc (.cells #[.bool n, .slice A xs.length c] 24)).alloc (.cells #[.bool false, .slice none 0 0] 24) := ⟨_, rfl⟩
  have hb : Below w.heap.size w W0 := by rw [hW0]; exact ((Below.refl _ _).alloc (Nat.le_refl _) _).alloc (by simp) _
  have tX : Two W0 w.heap.size (.bool n) (.slice A xs.length c) := by rw [hW0]; exact (Two.new w _ _ _).alloc _
  have tR : Two W0 (w.heap.size + 1) (.bool false) (.slice none 0 0) := by
    have h := Two.new (w.alloc (.cells #[.bool n, .slice A xs.length c] 24)) (.bool false) (.slice none 0 0) 24
    rw [World.size_alloc] at h
    rw [hW0]; exact h
  have HW0 := Lib.hid hW0
  clear hW0
  go_enter Try.func50, Try.ntmps50
  go_wp2_with fail
  rw [← HW0.out]
  obtain ⟨q1, q2, q3, q4, q5⟩ := tX
  refine (trim_l (HX.out.to hb)).mono ?_
  rintro e w' ⟨rfl, rfl⟩
  go_wp2_with fail
  refine (trim_l (HY.out.to hb)).mono ?_
  rintro e w' ⟨rfl, rfl⟩
  go_wp2_with fail
  have h0 : 0 ≤ ((val b32 (trimL xs) : Nat) : Int) + 1 * (val b32 (trimL ys) : Nat) := by omega
  refine (combine_l (.inl rfl) (HX.out.to hb).trim (HY.out.to hb).trim h0).mono ?_
  clear h0
  rintro e w2 ⟨A1, c1, zs, rfl, r1, r2, r3, r5, _, r6, hb2⟩
  have hv : val b32 zs = val b32 xs + val b32 ys := by
    rw [val_trimL, val_trimL] at r6
    omega
  have HI := Lib.hid (integer_l n r1 r5 r2 r3)
  rw [hv] at HI
  have tR2 := tR.to hb2
  have HB := Lib.hid (hb.trans (hb2.mono hb.size))
  clear r1 r6 hb2 hv hb q1 q2 q3 q4 q5
  obtain ⟨z, ez⟩ : ∃ z, Hid (zof n (val b32 xs + val b32 ys) = z) := ⟨_, rfl⟩
  rw [ez.out] at HI ⊢
  go_wp2_with fail
  refine HI.out.mono ?_
  rintro e w3 ⟨A3, c3, rfl, s1, s2, s3, hb3⟩
  obtain ⟨q1, q2, q3, q4, q5⟩ := tR2.to hb3
  have S1 := Lib.hid s1
  have HB3 := Lib.hid (HB.out.trans (hb3.mono HB.out.size))
  clear s1 hb3 tR tR2
  go_wp2
  have tF := (⟨q1, q2, q3, q4, q5⟩ : Two w3 (w.heap.size + 1) _ _).set (.bool (decide (z < 0))) (.slice A3 (dig b32 z.natAbs).length c3)
  refine bodyPost_ret (v := .agg #[.bool (decide (z < 0)), .slice A3 (dig b32 z.natAbs).length c3]) (by simp [results, Try.f50, go_sem, tF.c0, tF.c1]) rfl ?_
  rw [ez.out]
  exact zret_stored ⟨q1, q2, q3, q4, q5⟩ (by omega) S1.out s2 s3 HB3.out
end Go.Proofs.Ytlnjnoingiohjaa
