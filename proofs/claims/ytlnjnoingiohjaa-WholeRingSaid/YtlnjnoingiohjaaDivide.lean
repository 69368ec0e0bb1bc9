/- whole.divide, where the dividend has at most two words. -/
import Derived.Test.YtlnjnoingiohjaaGcd
namespace Go.Proofs.Ytlnjnoingiohjaa
open Go.RowKit Go.Shelf

/-- What divide promises: the quotient's digits, and a row that stands for the remainder. -/
def DivRet (w : World) (q m : Nat) (e : Ending) (w' : World) : Prop := ∃ A1 c1 rs A2 c2, e = .returned (.tuple #[.slice A1 (dig b32 q).length c1, .slice A2 rs.length c2]) ∧ Rd .u32 w' w'.heap.size A1 (dig b32 q) ∧ Rd .u32 w' w'.heap.size A2 rs ∧
  Dg b32 rs ∧ val b32 rs = m ∧ (dig b32 q).length ≤ c1 ∧ c1 ≤ 9223372036854775807 ∧ rs.length ≤ c2 ∧ c2 ≤ 9223372036854775807 ∧ rs.length ≤ 4294967295 ∧ Below w.heap.size w w'

theorem div_res {w w' : World} {q m Q M : Nat} {A1 A2 : Option Addr} {c1 c2 : Nat} (s1 : (dig b32 q).length ≤ c1) (t1 : c1 ≤ 9223372036854775807) (s2 : (dig b32 m).length ≤ c2) (t2 : c2 ≤ 9223372036854775807) (h1 : Rd .u32 w' w'.heap.size A1 (dig b32 q)) (h2 : Rd .u32 w' w'.heap.size A2 (dig b32 m))
    (hb : Below w.heap.size w w') (hQ : q = Q ∧ q < 18446744073709551616) (hM : m = M ∧ m < 18446744073709551616) : DivRet w Q M (.returned (.tuple #[.slice A1 (dig b32 q).length c1, .slice A2 (dig b32 m).length c2])) w' := by
  obtain ⟨rfl, _⟩ := hQ
  obtain ⟨rfl, hm⟩ := hM
  have h3 : b32 ^ 2 = 18446744073709551616 := by decide
  have hl : (dig b32 m).length ≤ 2 := dig_length_le b32_one (by rw [h3]; exact hm)
  exact ⟨A1, c1, _, A2, c2, rfl, h1, h2, Dg_dig b32_one m, val_dig b32_one m, s1, t1, s2, t2, by omega, hb⟩

set_option maxRecDepth 100000 in
set_option maxHeartbeats 2000000 in
theorem divide_less {A A' : Option Addr} {c c' : Nat} {xs ys : List Nat} {w : World} (hx : Arg w A c xs) (hy : Arg w A' c' ys) (tx : trimL xs = xs) (ty : trimL ys = ys) (hlt : val b32 xs < val b32 ys) :
    Calls Try.prog 59 #[.slice A xs.length c, .slice A' ys.length c'] w (DivRet w (val b32 xs / val b32 ys) (val b32 xs % val b32 ys)) := by
  have HC := Lib.hid (compare_l hx hy)
  rw [tx, ty, cmpN_lt hlt] at HC
  have HQ : Hid (val b32 xs / val b32 ys = 0) := Nat.div_eq_of_lt hlt
  have HM : Hid (val b32 xs % val b32 ys = val b32 xs) := Nat.mod_eq_of_lt hlt
  have HX := Lib.hid hx
  clear hx hy tx ty hlt
  go_enter Try.func59, Try.ntmps59
  go_wp2_with fail
  refine HC.out.mono ?_
  rintro e w1 ⟨rfl, hb1⟩
  go_wp2_with fail
  refine (clone_l (HX.out.to hb1)).mono ?_
  rintro e w2 ⟨A1, c1, rfl, r1, r2, r3, hb2⟩
  have HR : Hid (DivRet w (val b32 xs / val b32 ys) (val b32 xs % val b32 ys) (.returned (.tuple #[.slice none 0 0, .slice A1 xs.length c1])) w2) := by
    show DivRet _ _ _ _ _
    rw [HQ.out, HM.out]
    exact ⟨none, 0, xs, A1, c1, rfl, Rd.nil, r1, HX.out.dg, rfl, by simp [dig_zero], by omega, r2, r3, HX.out.small, hb1.trans (hb2.mono hb1.size)⟩
  clear r1 hb1 hb2
  go_wp2
  go_ret2
  exact HR.out

set_option maxRecDepth 100000 in
set_option maxHeartbeats 4000000 in
theorem divide_two {A A' : Option Addr} {c c' : Nat} {xs ys : List Nat} {w : World} (hx : Arg w A c xs) (hy : Arg w A' c' ys) (tx : trimL xs = xs) (ty : trimL ys = ys) (hlt : val b32 ys ≤ val b32 xs) (h0 : 0 < val b32 ys) (hl : xs.length ≤ 2) (hl' : ys.length ≤ 2) :
    Calls Try.prog 59 #[.slice A xs.length c, .slice A' ys.length c'] w (DivRet w (val b32 xs / val b32 ys) (val b32 xs % val b32 ys)) := by
  have HC := Lib.hid (compare_l hx hy)
  rw [tx, ty] at HC
  obtain ⟨cv, hcv, hcv0⟩ : ∃ cv, cmpN (val b32 xs) (val b32 ys) = cv ∧ 0 ≤ cv := ⟨_, rfl, by unfold cmpN; split <;> (try split) <;> omega⟩
  rw [hcv] at HC
  clear hcv
  have lx := two_lt hx.dg (by rw [tx]; exact hl)
  have ly := two_lt hy.dg (by rw [ty]; exact hl')
  rw [tx] at lx
  rw [ty] at ly
  have HX := Lib.hid hx
  have HY := Lib.hid hy
  obtain ⟨u, eu⟩ : ∃ u : Nat, Hid (val b32 xs = u) := ⟨_, rfl⟩
  obtain ⟨v, ev⟩ : ∃ v : Nat, Hid (val b32 ys = v) := ⟨_, rfl⟩
  rw [eu.out] at lx
  rw [ev.out] at ly h0
  obtain ⟨q, eq⟩ : ∃ q : Nat, Hid (u / v = q) := ⟨_, rfl⟩
  obtain ⟨m, em⟩ : ∃ m : Nat, Hid (u % v = m) := ⟨_, rfl⟩
  have hq64 : q < 18446744073709551616 := by rw [← eq.out]; exact Nat.lt_of_le_of_lt (Nat.div_le_self u v) lx
  have hm64 : m < 18446744073709551616 := by rw [← em.out]; exact Nat.lt_of_le_of_lt (Nat.mod_le u v) lx
  have HQ : Hid (q = val b32 xs / val b32 ys ∧ q < 18446744073709551616) := ⟨by rw [eu.out, ev.out, eq.out], hq64⟩
  have HM : Hid (m = val b32 xs % val b32 ys ∧ m < 18446744073709551616) := ⟨by rw [eu.out, ev.out, em.out], hm64⟩
  have G1 : Hid ((u : Int).tdiv (v : Int) = (q : Nat)) := by show _ = _; rw [Int.tdiv_eq_ediv_of_nonneg (by omega), ← eq.out]; simp
  have G2 : Hid ((u : Int).tmod (v : Int) = (m : Nat)) := by show _ = _; rw [Int.tmod_eq_emod_of_nonneg (by omega), ← em.out]; simp
  have G3 : Hid (IntKind.u64.wrap (q : Int) = (q : Nat)) := by show _ = _; rw [IntKind.wrap_u64]; omega
  have hv1 : (1 : Int) ≤ (v : Int) := by omega
  have hv2 : ((v : Int) == 0) = false := by rw [beq_eq_false_iff_ne]; omega
  have hv3 : ¬ v = 0 := by omega
  clear hx hy tx ty hlt
  go_enter Try.func59, Try.ntmps59
  go_wp2_with fail
  refine HC.out.mono ?_
  rintro e w0 ⟨rfl, hb0⟩
  have U1 := Lib.hid (toUint64_any (c := c) (HX.out.to hb0).rd HX.out.dg hl)
  have U2 := Lib.hid (toUint64_any (c := c') (HY.out.to hb0).rd HY.out.dg hl')
  rw [eu.out] at U1
  rw [ev.out] at U2
  go_wp2_with fail
  refine U1.out.mono ?_
  rintro e w' ⟨rfl, rfl⟩
  go_wp2_with fail
  refine U2.out.mono ?_
  rintro e w' ⟨rfl, rfl⟩
  have hb : Below w.heap.size w w0.drew := hb0.drew
  clear hb0
  go_wp2_with fail
  have g1 := G1.out
  have g2 := G2.out
  have g3 := G3.out
  have g4 := hv2
  refine wp_region_any (by kernel_rfl) ?_
  refine (show wpAny _ _ _ _ _ _ _ (World.drew _) from ?_)
  refine wpAny_take (i := 0) (v := .int .u64 (u : Nat)) rfl (by kernel_rfl) (by kernel_rfl) (by kernel_rfl) (fun _ _ _ h => h) (Or.inl ⟨by rfl, fun _ => by go_simp⟩) ?_
  refine wpAny_take (i := 1) (v := .int .u64 (v : Nat)) rfl (by kernel_rfl) (by kernel_rfl) (by kernel_rfl) (fun _ _ _ h => h) (Or.inl ⟨by rfl, fun _ => by go_simp⟩) ?_
  refine wpAny_take (i := 4) (v := .int .u64 (u : Nat)) rfl (by kernel_rfl) (by kernel_rfl) (by kernel_rfl) (fun _ _ _ h => h) (Or.inl ⟨by rfl, fun _ => by go_simp⟩) ?_
  refine wpAny_take (i := 5) (v := .int .u64 (v : Nat)) rfl (by kernel_rfl) (by kernel_rfl) (by kernel_rfl) (fun _ _ _ h => h) (Or.inl ⟨by rfl, fun _ => by go_simp⟩) ?_
  refine wpAny_take (i := 2) (v := .int .u64 (q : Nat)) rfl (by kernel_rfl) (by kernel_rfl) (by kernel_rfl) (fun _ _ _ h => h) (Or.inl ⟨by rfl, fun _ => by go_simp⟩) ?_
  refine wpAny_take (i := 6) (v := .int .u64 (m : Nat)) rfl (by kernel_rfl) (by kernel_rfl) (by kernel_rfl) (fun _ _ _ h => h) (Or.inl ⟨by rfl, fun _ => by go_simp⟩) ?_
  refine wpAny_ready (rs := [3]) (by kernel_rfl) (by simp) (AllReady.cons rfl (fun K hK => ?_) AllReady.nil)
  go_simp
  refine (toWords_l q hq64 _).mono ?_
  rintro e w1 ⟨A1, c1, rfl, r1, s1, t1, hb1⟩
  refine hK _ _ ?_; clear hK K
  refine wpAny_ready (rs := [7]) (by kernel_rfl) (by simp) (AllReady.cons rfl (fun K hK => ?_) AllReady.nil)
  go_simp
  refine (toWords_l m hm64 _).mono ?_
  rintro e w2 ⟨A2, c2, rfl, r2, s2, t2, hb2⟩
  refine hK _ _ ?_; clear hK K
  have RQ : Rd .u32 w2 w2.heap.size A1 (dig b32 q) := r1.to hb2
  have RM : Rd .u32 w2 w2.heap.size A2 (dig b32 m) := r2
  have HB : Below w.heap.size w w2 := (hb.trans (hb1.mono hb.size)).trans (hb2.mono (hb.trans (hb1.mono hb.size)).size)
  have HRES := Lib.hid (div_res s1 t1 s2 t2 RQ RM HB HQ.out HM.out)
  clear RQ RM HB hb1 hb2 r1 r2 g1 g2 g3 g4
  refine wpAny_ready (rs := [8]) (by kernel_rfl) (by simp) (AllReady.cons rfl (fun K hK => ?_) AllReady.nil)
  go_simp; refine hK _ _ ?_; clear hK K
  refine wpAny_ready (rs := [9]) (by kernel_rfl) (by simp) (AllReady.cons rfl (fun K hK => ?_) AllReady.nil)
  go_simp; refine hK _ _ ?_; clear hK K
  refine wpAny_done (by kernel_rfl) ?_ _
  go_wp2
  go_ret2
  exact HRES.out
end Go.Proofs.Ytlnjnoingiohjaa
