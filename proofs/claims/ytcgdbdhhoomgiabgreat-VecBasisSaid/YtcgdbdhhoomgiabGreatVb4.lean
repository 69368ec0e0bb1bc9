/- Parts: 7. -/
import Derived.Test.YtcgdbdhhoomgiabGreatVb1
import Derived.Test.YtcgdbdhhoomgiabGreatVb3
import Derived.Deep.RegionHeld3
import Derived.Maps.AppendAt
set_option linter.unusedVariables false
set_option linter.unusedSimpArgs false
set_option maxRecDepth 100000
set_option maxHeartbeats 40000000

namespace Go.Proofs.YtcgdbdhhoomgiabGreat
open Go.RowKit Go.Shelf

/-- The first k words that the digits t make, two digits a word. -/
def pks (t : List Nat) : Nat -> List Nat
  | 0 => []
  | k + 1 => pks t k ++ [t.getD (2 * k) 0 + t.getD (2 * k + 1) 0 * 65536]

theorem pks_length (t : List Nat) : ∀ k, (pks t k).length = k
  | 0 => rfl
  | k + 1 => by simp [pks, pks_length t k]
theorem pks_dg {t : List Nat} (h : Dg b16 t) : ∀ k, Dg b32 (pks t k)
  | 0 => Dg.nil
  | k + 1 => by
    have h1 := getD_dg (by decide) h (2 * k)
    have h2 := getD_dg (by decide) h (2 * k + 1)
    unfold b16 at h1 h2
    exact (pks_dg h k).app (Dg.one (by unfold b32; omega))
theorem pow_2k (k : Nat) : b32 ^ k = b16 ^ (2 * k) := by rw [Nat.pow_mul]; rfl
theorem pks_val (t : List Nat) : ∀ k, val b32 (pks t k) = val b16 (t.take (2 * k))
  | 0 => by simp [pks, val]
  | k + 1 => by
    rw [pks, val_append, pks_length, pks_val t k, show 2 * (k + 1) = 2 * k + 1 + 1 from by omega, val_take_succ t (2 * k + 1), val_take_succ t (2 * k), pow_2k, Nat.pow_succ]
    simp only [val, Nat.mul_zero, Nat.add_zero]
    rw [Nat.mul_add, show b16 ^ (2 * k) * b16 * t.getD (2 * k + 1) 0 = b16 ^ (2 * k) * (t.getD (2 * k + 1) 0 * 65536) from by rw [Nat.mul_assoc, Nat.mul_comm b16]; rfl]
    omega

/-- A row without zeros at its end is not small. -/
theorem val_low {b : Nat} (hb : 0 < b) : ∀ {zs : List Nat}, trimN zs = zs.length -> zs ≠ [] -> b ^ (zs.length - 1) <= val b zs := by
  intro zs
  induction zs with
  | nil => intro _ h; exact absurd rfl h
  | cons d r ih =>
    intro ht _
    simp only [trimN, List.length_cons] at ht
    by_cases h0 : trimN r = 0
    · rw [if_pos h0] at ht
      by_cases hd : d = 0
      · rw [if_pos hd] at ht; omega
      · rw [if_neg hd] at ht
        have : r.length = 0 := by omega
        simp [this, val]; omega
    · rw [if_neg h0] at ht
      have hr : r ≠ [] := by rintro rfl; simp [trimN] at h0
      have h1 := ih (by omega) hr
      have h2 : 0 < r.length := List.length_pos_iff.2 hr
      simp only [val, List.length_cons, Nat.add_sub_cancel]
      have h3 : b ^ r.length = b * b ^ (r.length - 1) := by
        rw [Nat.mul_comm, <- Nat.pow_succ]; congr 1; omega
      have h4 := Nat.mul_le_mul_left b h1
      omega

/-- All words that the digits make, where the digits have no zeros at their end. -/
theorem pks_all {t : List Nat} (h : Dg b16 t) (ht : trimN t = t.length) {N : Nat} (h1 : t.length <= 2 * N) (h2 : 2 * N <= t.length + 1) : pks t N = dig b32 (val b16 t) := by
  have hv : val b32 (pks t N) = val b16 t := by rw [pks_val, List.take_of_length_le h1]
  have hd := pks_dg h N
  have he := trimL_dig b32_one hd
  rw [hv] at he
  rw [<- he]
  have hl := trimL_length (pks t N)
  suffices trimN (pks t N) = N by
    unfold trimL
    rw [this, List.take_of_length_le (by rw [pks_length]; omega)]
  have hle := trimN_le (pks t N)
  rw [pks_length] at hle
  rcases Nat.lt_or_ge (trimN (pks t N)) N with hlt | hge
  · exfalso
    have h3 : val b32 (trimL (pks t N)) < b32 ^ trimN (pks t N) := by
      have := val_lt (hd.take (trimN (pks t N)))
      unfold trimL
      rwa [List.length_take, pks_length, Nat.min_eq_left hle] at this
    rw [val_trimL, hv] at h3
    have hne : t ≠ [] := by rintro rfl; simp at h1 h2; omega
    have h4 := val_low (b := b16) (by decide) ht hne
    rw [pow_2k] at h3
    have h5 : b16 ^ (2 * trimN (pks t N)) <= b16 ^ (t.length - 1) := Nat.pow_le_pow_right (by decide) (by omega)
    omega
  · omega

/-- Block g is just a Z's two cells, none frozen. -/
def Zat (W : World) (g : Nat) (a b : Value) : Prop := W.heap[g]? = some (.cells #[a, b] 29 (0, 0))
theorem Zat.two {W : World} {g : Nat} {a b : Value} (h : Zat W g a b) : Two W g a b := Two.of h
theorem Zat.new (W : World) (a b : Value) : Zat (W.alloc (.cells #[a, b] 29)) W.heap.size a b := World.alloc_heap_new W _
theorem Zat.kept {W V : World} {row : Option Nat} {g : Nat} {a b : Value} (h : Zat W g a b) (hg : W.grownBy V row) (hne : some g ≠ row) : Zat V g a b := (hg.block g h.two.lt hne).trans h
theorem Zat.alloc {W : World} {g : Nat} {a b : Value} (h : Zat W g a b) (o : Obj) : Zat (W.alloc o) g a b := (Below.heap_alloc W o g h.two.lt).trans h
theorem Zat.not_row {W : World} {g : Nat} {a b : Value} (h : Zat W g a b) {base : Nat} {e : TypeId} {size n : Nat} {v : Value} {xs : List Value} (hr : W.ownsRow base e size v n xs) (hne : 29 ≠ e) : some g ≠ v.ownBlock := by
  rcases hr.2 with ⟨rfl, _⟩ | ⟨g', cap, cur, rfl, _, hh, _⟩
  · simp [Value.ownBlock]
  · intro he
    obtain rfl : g = g' := by simpa [Value.ownBlock] using he
    rw [show W.heap[g]? = _ from h] at hh
    injection hh with hh
    injection hh with _ h2
    exact hne h2

theorem own_caps {w : World} {base : Nat} {e : TypeId} {size n c : Nat} {A : Option Addr} {xs : List Value} (h : w.ownsRow base e size (.slice A n c) n xs) : n <= c /\ c <= 9223372036854775807 := by
  rcases h.2 with ⟨e, rfl⟩ | ⟨g, cap, cur, e, _, _, h1, h2, _⟩
  · injection e with _ _ e; subst e; exact ⟨by omega, by omega⟩
  · injection e with _ _ e; subst e; exact ⟨h1, by simpa [maxLen] using h2⟩

theorem at_int {A : Option Addr} {c : Nat} {xs : List Nat} {w : World} (hr : Rd .i64 w w.heap.size A xs) (hl : xs.length <= 9223372036854775807) (i : Int) (h0 : 0 <= i) (hi : i <= 9223372036854775807) :
    Calls Tryz.prog 100 #[.slice A xs.length c, .int .i64 i] w fun e w' => e = .returned (.int .i64 (xs.getD i.toNat 0 : Nat)) /\ w = w' := by
  obtain ⟨n, rfl⟩ := Int.eq_ofNat_of_zero_le h0
  exact at_any hr hl n (by omega)

theorem of_any (neg : Bool) {A : Option Addr} {c : Nat} {h : List Nat} {w : World} (hr : Rd .i64 w w.heap.size A h) (hd : Dg b16 h) (hc : h.length <= c) (hcap : c <= 9223372036854775807) (hsm : h.length <= 8589934592) :
    Calls Tryz.prog 82 #[.bool neg, .slice A h.length c] w (ZRet w (zof neg (val b16 h))) := by
  obtain ⟨i0, hi, hz0, hz1, hz2⟩ := info_parts infoWord
  obtain ⟨t, et⟩ : ∃ t, Hid (trimL h = t) := ⟨_, rfl⟩
  have htl : t.length = trimN h := by rw [<- et.out, trimL_length]
  have hsm' : t.length <= 8589934592 := by rw [htl]; exact Nat.le_trans (trimN_le h) hsm
  have dt : Dg b16 t := by rw [<- et.out]; exact hd.take _
  have tt : trimN t = t.length := by rw [<- et.out]; exact trim_trimmed b16_one hd
  have vt : val b16 t = val b16 h := by rw [<- et.out]; exact val_trimL h
  have rt : Rd .i64 w w.heap.size A t := by rw [<- et.out]; exact hr.take _
  rw [<- vt]
  have t0 := Zat.new w (.bool false) (.slice none 0 0)
  have HB0 := Lib.hid ((Below.refl w.heap.size w).alloc (Nat.le_refl _) (.cells #[.bool false, .slice none 0 0] 29))
  have HT := Lib.hid (rtrim_any A c _ h _ (hr.to HB0.out) hc hcap)
  rw [<- htl] at HT
  have DT := Lib.hid dt
  have TT := Lib.hid tt
  have RT := Lib.hid rt
  obtain ⟨z, ez⟩ : ∃ z, Hid (zof neg (val b16 t) = z) := ⟨_, rfl⟩
  rw [ez.out]
  have hb0 := HB0.out
  clear dt tt rt vt htl hr hd et hc
  obtain ⟨W0, hW0⟩ : ∃ W0, W0 = w.alloc (.cells #[.bool false, .slice none 0 0] 29) := ⟨_, rfl⟩
  have hs0 : W0.heap.size = w.heap.size + 1 := by rw [hW0]; simp
  rw [<- hW0] at t0 HT hb0
  have HW0 := Lib.hid hW0
  clear hW0 HB0
  go_enter Tryz.func82, Tryz.ntmps82
  go_wp2_with fail
  rw [<- HW0.out]
  refine HT.out.mono ?_
  rintro e w' ⟨rfl, rfl⟩
  go_wp2
  go_loopw [5, 6] (fun v i wr => ∃ (k j : Nat) (A1 : Option Addr) (c1 : Nat), v = .slice A1 k c1 /\ i = .int .i64 j /\ j = 2 * k /\ j <= t.length + 1 /\ wr.ownsRow w.heap.size 75 1 (.slice A1 k c1) k (ints .u32 (pks t k)) /\ Zat wr w.heap.size (.bool false) (.slice none 0 0) /\ Below w.heap.size w wr)
    (fun _ i _ => t.length + 1 - (intOf i).toNat)
  case atStart => exact ⟨0, 0, none, 0, rfl, rfl, rfl, by omega, by simpa [ints, pks] using World.ownsRow_nil _ _ _ _, t0, hb0⟩
  case round =>
    obtain ⟨k, j, A1, c1, rfl, rfl, hj, hk, hown, t1, hb⟩ := hrel
    by_cases hlt : j < t.length
    · have hu := getD_dg (by decide) DT.out j
      have hz := getD_dg (by decide) DT.out (j + 1)
      unfold b16 at hu hz
      have HA1 := Lib.hid (at_int (c := c) (RT.out.to hb) (by omega) (j : Int) (by omega) (by omega))
      have HA2 := Lib.hid (at_int (c := c) (RT.out.to hb) (by omega) ((j : Int) + 1) (by omega) (by omega))
      rw [show ((j : Int)).toNat = j from by omega] at HA1
      rw [show ((j : Int) + 1).toNat = j + 1 from by omega] at HA2
      obtain ⟨x, ex⟩ : ∃ x, Hid (t.getD j 0 = x) := ⟨_, rfl⟩
      obtain ⟨y, ey⟩ : ∃ y, Hid (t.getD (j + 1) 0 = y) := ⟨_, rfl⟩
      rw [ex.out] at hu HA1
      rw [ey.out] at hz HA2
      have hs1 := hb.size
      have HJ := Lib.hid hj
      have hk2 : 2 * k <= t.length := by omega
      clear hj
      have NEXT : ∀ v' w1, w1.ownsRow w.heap.size 75 1 v' (k + 1) (ints .u32 (pks t k) ++ [.int .u32 ((x : Int) + (y : Int) * 65536)]) -> (wr.alloc (.cells #[.int .u32 ((x : Int) + (y : Int) * 65536)] 75)).grownBy w1 (Value.slice A1 k c1).ownBlock ->
          ∃ (A2 : Option Addr) (c2 : Nat), v' = .slice A2 (k + 1) c2 /\ w1.ownsRow w.heap.size 75 1 (.slice A2 (k + 1) c2) (k + 1) (ints .u32 (pks t (k + 1))) /\ Zat w1 w.heap.size (.bool false) (.slice none 0 0) /\ Below w.heap.size w w1 := by
        intro v' w1 hown' hgrow
        obtain ⟨A2, c2, rfl⟩ := own_shape hown'
        refine ⟨A2, c2, rfl, ?_, ?_, (hb.alloc hs1 _).grown hgrow (by simp; omega) (fun j e => (hown.lt j e).1)⟩
        · rw [pks, <- HJ.out, ex.out, ey.out]
          simpa [ints] using hown'
        · exact (t1.alloc _).kept hgrow (t1.not_row hown (by decide))
      have hownA := hown.alloc (.cells #[.int .u32 ((x : Int) + (y : Int) * 65536)] 75)
      have HN := Lib.hid NEXT
      clear NEXT t1 hb hown ex ey
      go_wp2_with fail
      refine HA1.out.mono ?_
      rintro e w' ⟨rfl, rfl⟩
      go_wp2_with fail
      refine HA2.out.mono ?_
      rintro e w' ⟨rfl, rfl⟩
      go_wp2_with (at_builtin; refine wpList_append_own _ rfl (.tmp 15) (.tmp 27) 27 rfl w.heap.size 75 i0 (.int .u32 0) 1 4 Tryz.underlying27 hi hz0 hz1 hz2 rfl (by decide) (.slice A1 k c1) k _ rfl hownA ⟨wr.heap.size, 0, none⟩ 1 1 [.int .u32 ((x : Int) + (y : Int) * 65536)] rfl rfl (cell_one_new _ _ _) (by simp [Value.oneCell']) (by unfold maxLen; omega) (by omega) (by simp; omega) ?_; intro v' w1 hown' hgrow _; obtain ⟨A2, c2, rfl, n1, n2, n3⟩ := HN.out _ _ hown' hgrow; have N1 := Lib.hid n1; have N2 := Lib.hid n2; have N3 := Lib.hid n3; clear n1 n2 n3 hown' hgrow)
      go_roundw
      case rel => exact ⟨k + 1, j + 2, A2, c2, rfl, by simp, by have := HJ.out; omega, by omega, N1.out, N2.out, N3.out⟩
      case measure => simp [intOf]; omega
    · have hall := pks_all DT.out TT.out (N := k) (by omega) (by omega)
      obtain ⟨hc1, hc2⟩ := own_caps hown
      rw [hall] at hown
      have hr := Rd.of_own hown (Nat.le_refl _)
      have hkl : (dig b32 (val b16 t)).length = k := by have := hown.1; simp [ints] at this; omega
      have hza : z.natAbs = val b16 t := by rw [<- ez.out, zof_abs]
      have T1 := Lib.hid t1
      have t2 := t1.two
      have HRES : Hid (∀ B : Bool, decide (z < 0) = B -> ZRet w z (.returned (.agg #[.bool B, .slice A1 k c1])) ((wr.setCell ⟨w.heap.size, 0, none⟩ (.bool B)).setCell ⟨w.heap.size, 1, none⟩ (.slice A1 k c1))) := by
        rintro B rfl
        have h := zret_stored (z := z) t1.two (Nat.le_refl _) (by rw [hza]; exact hr) (by rw [hza, hkl]; exact hc1) hc2 hb
        rw [hza, hkl] at h
        exact h
      have HV : Hid (val b16 t = 0 ↔ k = 0) := by
        rw [<- hkl]
        exact ⟨fun h => by rw [h]; rfl, fun h => (dig_nil b32_one).1 (List.eq_nil_of_length_eq_zero h)⟩
      obtain ⟨p1, p2, p3, p4, p5⟩ := t2
      clear t1 hown hr hall hkl hza hb hj
      rcases Nat.eq_zero_or_pos k with hk0 | hk0
      · have hz0' : z = 0 := by rw [<- ez.out, HV.out.2 hk0, zof_zero]
        have DZ : Hid (decide (z < 0) = false) := by rw [hz0']; rfl
        subst hk0
        clear hz0'
        cases neg
        · go_wp2
          have tF := T1.out.two.set (.bool false) (.slice A1 0 c1)
          refine bodyPost_ret (v := .agg #[.bool false, .slice A1 0 c1]) (by simp [results, Tryz.f82, go_sem, tF.c0, tF.c1]) rfl (HRES.out false DZ.out)
        · go_wp2
          have tF := T1.out.two.set (.bool false) (.slice A1 0 c1)
          refine bodyPost_ret (v := .agg #[.bool false, .slice A1 0 c1]) (by simp [results, Tryz.f82, go_sem, tF.c0, tF.c1]) rfl (HRES.out false DZ.out)
      · have DZ : Hid (decide (z < 0) = neg) := by
          rw [<- ez.out]
          exact zof_neg neg (fun h => by have := HV.out.1 h; omega)
        cases neg
        · go_wp2
          have tF := T1.out.two.set (.bool false) (.slice A1 k c1)
          refine bodyPost_ret (v := .agg #[.bool false, .slice A1 k c1]) (by simp [results, Tryz.f82, go_sem, tF.c0, tF.c1]) rfl (HRES.out false DZ.out)
        · go_wp2
          have tF := T1.out.two.set (.bool true) (.slice A1 k c1)
          refine bodyPost_ret (v := .agg #[.bool true, .slice A1 k c1]) (by simp [results, Tryz.f82, go_sem, tF.c0, tF.c1]) rfl (HRES.out true DZ.out)
end Go.Proofs.YtcgdbdhhoomgiabGreat

namespace Go.Proofs.YtcgdbdhhoomgiabGreat
open Go.RowKit Go.Shelf

theorem trim_q {A : Option Addr} {c : Nat} {xs : List Nat} {w : World} (h : Arg w A c xs) :
    Calls Tryz.prog 50 #[.slice A xs.length c] w fun e w' => e = .returned (.slice A (trimL xs).length c) /\ w' = w := (trim_l h).mono fun _ _ ⟨h1, h2⟩ => ⟨h1, h2.symm⟩

theorem clone_l {A : Option Addr} {c : Nat} {xs : List Nat} {w : World} (h : Arg w A c xs) :
    Calls Tryz.prog 56 #[.slice A xs.length c] w fun e w' => ∃ A1 c1, e = .returned (.slice A1 xs.length c1) /\ Rd .u32 w' w'.heap.size A1 xs /\ xs.length <= c1 /\ c1 <= 9223372036854775807 /\ Below w.heap.size w w' := by
  refine (clone_any c h.rd (by have := h.small; omega)).mono ?_
  rintro e w' ⟨v, rfl, hown, hb⟩
  obtain ⟨A1, c1, rfl, h1, h2, h3⟩ := Sl.of_own hown
  exact ⟨A1, c1, rfl, h1, h2, h3, hb⟩

theorem two_lt {xs : List Nat} (hd : Dg b32 xs) (h : (trimL xs).length <= 2) : val b32 (trimL xs) < 18446744073709551616 := by
  have h1 := val_lt (hd.take (trimN xs))
  have h2 : b32 ^ (trimL xs).length <= b32 ^ 2 := Nat.pow_le_pow_right (by decide) h
  have h3 : b32 ^ 2 = 18446744073709551616 := by decide
  unfold trimL at h2 ⊢
  omega

theorem gcd_lt {a b : Nat} (ha : a < 18446744073709551616) (hb : b < 18446744073709551616) : Nat.gcd a b < 18446744073709551616 := by
  rcases Nat.eq_zero_or_pos a with h | h
  · subst h; rw [Nat.gcd_zero_left]; exact hb
  · exact Nat.lt_of_le_of_lt (Nat.gcd_le_left b h) ha

theorem gcd_a (na nb : Bool) {A A' : Option Addr} {c c' : Nat} {xs ys : List Nat} {w : World} (hx : Arg w A c xs) (hy : Arg w A' c' ys) (hxl : (trimL xs).length <= 2) (hyl : (trimL ys).length <= 2) (hlt : val b32 ys <= val b32 xs) (hz : 0 < val b32 ys) :
    Calls Tryz.prog 63 #[.agg #[.bool na, .slice A xs.length c], .agg #[.bool nb, .slice A' ys.length c']] w (ZRet w (Nat.gcd (val b32 xs) (val b32 ys) : Nat)) := by
  have HX := Lib.hid hx
  have HY := Lib.hid hy
  have HLT := Lib.hid hlt
  have HZ := Lib.hid hz
  have hlen : ((trimL ys).length = 0) ↔ val b32 ys = 0 := by
    rw [trimL_dig b32_one hy.dg]
    exact ⟨fun h => (dig_nil b32_one).1 (List.eq_nil_of_length_eq_zero h), fun h => by rw [h]; rfl⟩
  have hq : ((((trimL ys).length : Nat) : Int) == 0) = false := by
    have : (trimL ys).length ≠ 0 := fun h => by have := hlen.1 h; omega
    rw [beq_eq_false_iff_ne]; omega
  clear hx hy hlt hz hlen
  obtain ⟨W0, hW0⟩ : ∃ W0, W0 = ((w.alloc (.cells #[.bool na, .slice A xs.length c] 29)).alloc (.cells #[.bool nb, .slice A' ys.length c'] 29)).alloc (.cells #[.bool false, .slice none 0 0] 29) := ⟨_, rfl⟩
  have hb : Below w.heap.size w W0 := by rw [hW0]; exact (((Below.refl _ _).alloc (Nat.le_refl _) _).alloc (by simp) _).alloc (by simp; omega) _
  have tX : Zat W0 w.heap.size (.bool na) (.slice A xs.length c) := by rw [hW0]; exact ((Zat.new w _ _).alloc _).alloc _
  have tY : Zat W0 (w.heap.size + 1) (.bool nb) (.slice A' ys.length c') := by
    have h := Zat.new (w.alloc (.cells #[.bool na, .slice A xs.length c] 29)) (.bool nb) (.slice A' ys.length c')
    rw [World.size_alloc] at h
    rw [hW0]; exact h.alloc _
  have tR : Zat W0 (w.heap.size + 1 + 1) (.bool false) (.slice none 0 0) := by
    have h := Zat.new ((w.alloc (.cells #[.bool na, .slice A xs.length c] 29)).alloc (.cells #[.bool nb, .slice A' ys.length c'] 29)) (.bool false) (.slice none 0 0)
    rw [World.size_alloc, World.size_alloc] at h
    rw [hW0]; exact h
  have q1 := tX.two.c1
  have q2 := tY.two.c1
  have HW0 := Lib.hid hW0
  clear hW0
  go_enter Tryz.func63, Tryz.ntmps63
  go_wp2_with fail
  rw [<- HW0.out]
  go_quiet ((first | (go_at_call 50; with_reducible exact Calls.quiet_of_same (trim_q (HX.out.to (hb.trans (bel_drewN (Below.refl _ _) _))))) | (go_at_call 50; with_reducible exact Calls.quiet_of_same (trim_q (HY.out.to (hb.trans (bel_drewN (Below.refl _ _) _)))))))
  rename_i nq
  have hb1 : Below w.heap.size w (W0.drewN nq) := bel_drewN hb _
  have tR1 : Zat (W0.drewN nq) (w.heap.size + 1 + 1) (.bool false) (.slice none 0 0) := tR
  generalize W0.drewN nq = W1 at hb1 tR1 ⊢
  clear q1 q2 tX tY tR hb HW0
  go_wp2_with fail
  refine (compare_l (HX.out.to hb1) (HY.out.to hb1)).mono ?_
  obtain ⟨cv, hcv, hcv0⟩ : ∃ cv, cmpN (val b32 xs) (val b32 ys) = cv /\ 0 <= cv := ⟨_, rfl, by have := HLT.out; unfold cmpN; split <;> (try split) <;> omega⟩
  rw [hcv]
  clear hcv
  rintro e w1 ⟨rfl, hb2⟩
  have hb3 := hb1.trans (hb2.mono hb1.size)
  have tR3 : Two w1 (w.heap.size + 1 + 1) _ _ := tR1.two.to hb2
  clear hb1 tR1 hb2
  have HG1 : Hid (Nat.gcd (val b32 (trimL xs)) (val b32 (trimL ys)) = Nat.gcd (val b32 xs) (val b32 ys)) := by
    show _ = _
    rw [val_trimL, val_trimL]
  have lx := two_lt HX.out.dg (by assumption)
  have ly := two_lt HY.out.dg (by assumption)
  have U1 := Lib.hid (toUint64_any (c := c) (HX.out.to hb3).trim.rd HX.out.trim.dg (by assumption))
  have U2 := Lib.hid (toUint64_any (c := c') (HY.out.to hb3).trim.rd HY.out.trim.dg (by assumption))
  have HG0 := gcd_lt lx ly
  have S1 := Lib.hid (smallGCD_any _ _ w1 lx ly)
  rw [HG1.out] at S1 HG0
  obtain ⟨g, eg⟩ : ∃ g : Nat, Hid (Nat.gcd (val b32 xs) (val b32 ys) = g) := ⟨_, rfl⟩
  rw [eg.out] at S1 HG0 ⊢
  clear HG1 lx ly
  go_wp2_with fail
  refine U1.out.mono ?_
  rintro e w' ⟨rfl, rfl⟩
  go_wp2_with fail
  refine U2.out.mono ?_
  rintro e w' ⟨rfl, rfl⟩
  go_wp2_with fail
  refine S1.out.mono ?_
  rintro e w' ⟨rfl, dn, rfl⟩
  go_wp2_with fail
  refine (toWords_l g HG0 _).mono ?_
  rintro e w2 ⟨A1, c1, rfl, r1, r2, r3, hb4⟩
  have HI := Lib.hid (integer_l false r1 (Dg_dig b32_one g) r2 r3)
  rw [val_dig b32_one, show zof false g = ((g : Nat) : Int) from rfl] at HI
  have tR4 := (tR3.to (bel_drewN (Below.refl _ _) dn)).to hb4
  have HB := Lib.hid ((bel_drewN hb3 dn).trans (hb4.mono hb3.size))
  clear r1 hb4 hb3 tR3
  obtain ⟨z, ez⟩ : ∃ z : Int, Hid (((g : Nat) : Int) = z) := ⟨_, rfl⟩
  rw [ez.out] at HI ⊢
  go_wp2_with fail
  refine HI.out.mono ?_
  rintro e w3 ⟨A3, c3, rfl, s1, s2, s3, hb5⟩
  obtain ⟨q1, q2, q3, q4, q5⟩ := tR4.to hb5
  have S2 := Lib.hid s1
  have HB3 := Lib.hid (HB.out.trans (hb5.mono HB.out.size))
  clear s1 hb5 tR4
  go_wp2
  have tF := (⟨q1, q2, q3, q4, q5⟩ : Two w3 (w.heap.size + 1 + 1) _ _).set (.bool (decide (z < 0))) (.slice A3 (dig b32 z.natAbs).length c3)
  refine bodyPost_ret (v := .agg #[.bool (decide (z < 0)), .slice A3 (dig b32 z.natAbs).length c3]) (by simp [results, Tryz.f63, go_sem, tF.c0, tF.c1]) rfl ?_
  rw [eg.out, ez.out]
  exact zret_stored ⟨q1, q2, q3, q4, q5⟩ (by omega) S2.out s2 s3 HB3.out

theorem gcd_b (na nb : Bool) {A A' : Option Addr} {c c' : Nat} {xs ys : List Nat} {w : World} (hx : Arg w A c xs) (hy : Arg w A' c' ys) (hxl : (trimL xs).length <= 2) (hyl : (trimL ys).length <= 2) (hlt : val b32 ys <= val b32 xs) (hz : val b32 ys = 0) :
    Calls Tryz.prog 63 #[.agg #[.bool na, .slice A xs.length c], .agg #[.bool nb, .slice A' ys.length c']] w (ZRet w (Nat.gcd (val b32 xs) (val b32 ys) : Nat)) := by
  have HX := Lib.hid hx
  have HY := Lib.hid hy
  have HLT := Lib.hid hlt
  have HZ := Lib.hid hz
  have hlen : ((trimL ys).length = 0) ↔ val b32 ys = 0 := by
    rw [trimL_dig b32_one hy.dg]
    exact ⟨fun h => (dig_nil b32_one).1 (List.eq_nil_of_length_eq_zero h), fun h => by rw [h]; rfl⟩
  have hq : ((((trimL ys).length : Nat) : Int) == 0) = true := by
    rw [hlen.2 hz]; rfl
  clear hx hy hlt hz hlen
  obtain ⟨W0, hW0⟩ : ∃ W0, W0 = ((w.alloc (.cells #[.bool na, .slice A xs.length c] 29)).alloc (.cells #[.bool nb, .slice A' ys.length c'] 29)).alloc (.cells #[.bool false, .slice none 0 0] 29) := ⟨_, rfl⟩
  have hb : Below w.heap.size w W0 := by rw [hW0]; exact (((Below.refl _ _).alloc (Nat.le_refl _) _).alloc (by simp) _).alloc (by simp; omega) _
  have tX : Zat W0 w.heap.size (.bool na) (.slice A xs.length c) := by rw [hW0]; exact ((Zat.new w _ _).alloc _).alloc _
  have tY : Zat W0 (w.heap.size + 1) (.bool nb) (.slice A' ys.length c') := by
    have h := Zat.new (w.alloc (.cells #[.bool na, .slice A xs.length c] 29)) (.bool nb) (.slice A' ys.length c')
    rw [World.size_alloc] at h
    rw [hW0]; exact h.alloc _
  have tR : Zat W0 (w.heap.size + 1 + 1) (.bool false) (.slice none 0 0) := by
    have h := Zat.new ((w.alloc (.cells #[.bool na, .slice A xs.length c] 29)).alloc (.cells #[.bool nb, .slice A' ys.length c'] 29)) (.bool false) (.slice none 0 0)
    rw [World.size_alloc, World.size_alloc] at h
    rw [hW0]; exact h
  have q1 := tX.two.c1
  have q2 := tY.two.c1
  have HW0 := Lib.hid hW0
  clear hW0
  go_enter Tryz.func63, Tryz.ntmps63
  go_wp2_with fail
  rw [<- HW0.out]
  go_quiet ((first | (go_at_call 50; with_reducible exact Calls.quiet_of_same (trim_q (HX.out.to (hb.trans (bel_drewN (Below.refl _ _) _))))) | (go_at_call 50; with_reducible exact Calls.quiet_of_same (trim_q (HY.out.to (hb.trans (bel_drewN (Below.refl _ _) _)))))))
  rename_i nq
  have hb1 : Below w.heap.size w (W0.drewN nq) := bel_drewN hb _
  have tR1 : Zat (W0.drewN nq) (w.heap.size + 1 + 1) (.bool false) (.slice none 0 0) := tR
  generalize W0.drewN nq = W1 at hb1 tR1 ⊢
  clear q1 q2 tX tY tR hb HW0
  go_wp2_with fail
  refine (compare_l (HX.out.to hb1) (HY.out.to hb1)).mono ?_
  obtain ⟨cv, hcv, hcv0⟩ : ∃ cv, cmpN (val b32 xs) (val b32 ys) = cv /\ 0 <= cv := ⟨_, rfl, by have := HLT.out; unfold cmpN; split <;> (try split) <;> omega⟩
  rw [hcv]
  clear hcv
  rintro e w1 ⟨rfl, hb2⟩
  have hb3 := hb1.trans (hb2.mono hb1.size)
  have tR3 : Two w1 (w.heap.size + 1 + 1) _ _ := tR1.two.to hb2
  clear hb1 tR1 hb2
  have HG : Hid (zof false (val b32 (trimL xs)) = ((Nat.gcd (val b32 xs) (val b32 ys) : Nat) : Int)) := by
    have h := HZ.out
    show _ = _
    rw [val_trimL, h]
    simp [zof]
  go_wp2_with fail
  refine (clone_l (HX.out.to hb3).trim).mono ?_
  rintro e w2 ⟨A1, c1, rfl, r1, r2, r3, hb4⟩
  have HI := Lib.hid (integer_l false r1 HX.out.trim.dg r2 r3)
  rw [HG.out] at HI
  have tR4 := tR3.to hb4
  have HB := Lib.hid (hb3.trans (hb4.mono hb3.size))
  clear r1 hb4 hb3 tR3
  obtain ⟨z, ez⟩ : ∃ z : Int, Hid (((Nat.gcd (val b32 xs) (val b32 ys) : Nat) : Int) = z) := ⟨_, rfl⟩
  rw [ez.out] at HI ⊢
  go_wp2_with fail
  refine HI.out.mono ?_
  rintro e w3 ⟨A3, c3, rfl, s1, s2, s3, hb5⟩
  obtain ⟨q1, q2, q3, q4, q5⟩ := tR4.to hb5
  have S2 := Lib.hid s1
  have HB3 := Lib.hid (HB.out.trans (hb5.mono HB.out.size))
  clear s1 hb5 tR4
  go_wp2
  have tF := (⟨q1, q2, q3, q4, q5⟩ : Two w3 (w.heap.size + 1 + 1) _ _).set (.bool (decide (z < 0))) (.slice A3 (dig b32 z.natAbs).length c3)
  refine bodyPost_ret (v := .agg #[.bool (decide (z < 0)), .slice A3 (dig b32 z.natAbs).length c3]) (by simp [results, Tryz.f63, go_sem, tF.c0, tF.c1]) rfl ?_
  rw [ez.out]
  exact zret_stored ⟨q1, q2, q3, q4, q5⟩ (by omega) S2.out s2 s3 HB3.out

theorem gcd_c (na nb : Bool) {A A' : Option Addr} {c c' : Nat} {xs ys : List Nat} {w : World} (hx : Arg w A c xs) (hy : Arg w A' c' ys) (hxl : (trimL xs).length <= 2) (hyl : (trimL ys).length <= 2) (hlt : val b32 xs < val b32 ys) (hz : 0 < val b32 xs) :
    Calls Tryz.prog 63 #[.agg #[.bool na, .slice A xs.length c], .agg #[.bool nb, .slice A' ys.length c']] w (ZRet w (Nat.gcd (val b32 xs) (val b32 ys) : Nat)) := by
  have HX := Lib.hid hx
  have HY := Lib.hid hy
  have HLT := Lib.hid hlt
  have HZ := Lib.hid hz
  have hlen : ((trimL xs).length = 0) ↔ val b32 xs = 0 := by
    rw [trimL_dig b32_one hx.dg]
    exact ⟨fun h => (dig_nil b32_one).1 (List.eq_nil_of_length_eq_zero h), fun h => by rw [h]; rfl⟩
  have hq : ((((trimL xs).length : Nat) : Int) == 0) = false := by
    have : (trimL xs).length ≠ 0 := fun h => by have := hlen.1 h; omega
    rw [beq_eq_false_iff_ne]; omega
  clear hx hy hlt hz hlen
  obtain ⟨W0, hW0⟩ : ∃ W0, W0 = ((w.alloc (.cells #[.bool na, .slice A xs.length c] 29)).alloc (.cells #[.bool nb, .slice A' ys.length c'] 29)).alloc (.cells #[.bool false, .slice none 0 0] 29) := ⟨_, rfl⟩
  have hb : Below w.heap.size w W0 := by rw [hW0]; exact (((Below.refl _ _).alloc (Nat.le_refl _) _).alloc (by simp) _).alloc (by simp; omega) _
  have tX : Zat W0 w.heap.size (.bool na) (.slice A xs.length c) := by rw [hW0]; exact ((Zat.new w _ _).alloc _).alloc _
  have tY : Zat W0 (w.heap.size + 1) (.bool nb) (.slice A' ys.length c') := by
    have h := Zat.new (w.alloc (.cells #[.bool na, .slice A xs.length c] 29)) (.bool nb) (.slice A' ys.length c')
    rw [World.size_alloc] at h
    rw [hW0]; exact h.alloc _
  have tR : Zat W0 (w.heap.size + 1 + 1) (.bool false) (.slice none 0 0) := by
    have h := Zat.new ((w.alloc (.cells #[.bool na, .slice A xs.length c] 29)).alloc (.cells #[.bool nb, .slice A' ys.length c'] 29)) (.bool false) (.slice none 0 0)
    rw [World.size_alloc, World.size_alloc] at h
    rw [hW0]; exact h
  have q1 := tX.two.c1
  have q2 := tY.two.c1
  have HW0 := Lib.hid hW0
  clear hW0
  go_enter Tryz.func63, Tryz.ntmps63
  go_wp2_with fail
  rw [<- HW0.out]
  go_quiet ((first | (go_at_call 50; with_reducible exact Calls.quiet_of_same (trim_q (HX.out.to (hb.trans (bel_drewN (Below.refl _ _) _))))) | (go_at_call 50; with_reducible exact Calls.quiet_of_same (trim_q (HY.out.to (hb.trans (bel_drewN (Below.refl _ _) _)))))))
  rename_i nq
  have hb1 : Below w.heap.size w (W0.drewN nq) := bel_drewN hb _
  have tR1 : Zat (W0.drewN nq) (w.heap.size + 1 + 1) (.bool false) (.slice none 0 0) := tR
  generalize W0.drewN nq = W1 at hb1 tR1 ⊢
  clear q1 q2 tX tY tR hb HW0
  go_wp2_with fail
  refine (compare_l (HX.out.to hb1) (HY.out.to hb1)).mono ?_
  rw [cmpN_lt HLT.out]
  rintro e w1 ⟨rfl, hb2⟩
  have hb3 := hb1.trans (hb2.mono hb1.size)
  have tR3 : Two w1 (w.heap.size + 1 + 1) _ _ := tR1.two.to hb2
  clear hb1 tR1 hb2
  have HG1 : Hid (Nat.gcd (val b32 (trimL ys)) (val b32 (trimL xs)) = Nat.gcd (val b32 xs) (val b32 ys)) := by
    show _ = _
    rw [val_trimL, val_trimL]
    exact Nat.gcd_comm _ _
  have lx := two_lt HY.out.dg (by assumption)
  have ly := two_lt HX.out.dg (by assumption)
  have U1 := Lib.hid (toUint64_any (c := c') (HY.out.to hb3).trim.rd HY.out.trim.dg (by assumption))
  have U2 := Lib.hid (toUint64_any (c := c) (HX.out.to hb3).trim.rd HX.out.trim.dg (by assumption))
  have HG0 := gcd_lt lx ly
  have S1 := Lib.hid (smallGCD_any _ _ w1 lx ly)
  rw [HG1.out] at S1 HG0
  obtain ⟨g, eg⟩ : ∃ g : Nat, Hid (Nat.gcd (val b32 xs) (val b32 ys) = g) := ⟨_, rfl⟩
  rw [eg.out] at S1 HG0 ⊢
  clear HG1 lx ly
  go_wp2_with fail
  refine U1.out.mono ?_
  rintro e w' ⟨rfl, rfl⟩
  go_wp2_with fail
  refine U2.out.mono ?_
  rintro e w' ⟨rfl, rfl⟩
  go_wp2_with fail
  refine S1.out.mono ?_
  rintro e w' ⟨rfl, dn, rfl⟩
  go_wp2_with fail
  refine (toWords_l g HG0 _).mono ?_
  rintro e w2 ⟨A1, c1, rfl, r1, r2, r3, hb4⟩
  have HI := Lib.hid (integer_l false r1 (Dg_dig b32_one g) r2 r3)
  rw [val_dig b32_one, show zof false g = ((g : Nat) : Int) from rfl] at HI
  have tR4 := (tR3.to (bel_drewN (Below.refl _ _) dn)).to hb4
  have HB := Lib.hid ((bel_drewN hb3 dn).trans (hb4.mono hb3.size))
  clear r1 hb4 hb3 tR3
  obtain ⟨z, ez⟩ : ∃ z : Int, Hid (((g : Nat) : Int) = z) := ⟨_, rfl⟩
  rw [ez.out] at HI ⊢
  go_wp2_with fail
  refine HI.out.mono ?_
  rintro e w3 ⟨A3, c3, rfl, s1, s2, s3, hb5⟩
  obtain ⟨q1, q2, q3, q4, q5⟩ := tR4.to hb5
  have S2 := Lib.hid s1
  have HB3 := Lib.hid (HB.out.trans (hb5.mono HB.out.size))
  clear s1 hb5 tR4
  go_wp2
  have tF := (⟨q1, q2, q3, q4, q5⟩ : Two w3 (w.heap.size + 1 + 1) _ _).set (.bool (decide (z < 0))) (.slice A3 (dig b32 z.natAbs).length c3)
  refine bodyPost_ret (v := .agg #[.bool (decide (z < 0)), .slice A3 (dig b32 z.natAbs).length c3]) (by simp [results, Tryz.f63, go_sem, tF.c0, tF.c1]) rfl ?_
  rw [eg.out, ez.out]
  exact zret_stored ⟨q1, q2, q3, q4, q5⟩ (by omega) S2.out s2 s3 HB3.out

theorem gcd_d (na nb : Bool) {A A' : Option Addr} {c c' : Nat} {xs ys : List Nat} {w : World} (hx : Arg w A c xs) (hy : Arg w A' c' ys) (hxl : (trimL xs).length <= 2) (hyl : (trimL ys).length <= 2) (hlt : val b32 xs < val b32 ys) (hz : val b32 xs = 0) :
    Calls Tryz.prog 63 #[.agg #[.bool na, .slice A xs.length c], .agg #[.bool nb, .slice A' ys.length c']] w (ZRet w (Nat.gcd (val b32 xs) (val b32 ys) : Nat)) := by
  have HX := Lib.hid hx
  have HY := Lib.hid hy
  have HLT := Lib.hid hlt
  have HZ := Lib.hid hz
  have hlen : ((trimL xs).length = 0) ↔ val b32 xs = 0 := by
    rw [trimL_dig b32_one hx.dg]
    exact ⟨fun h => (dig_nil b32_one).1 (List.eq_nil_of_length_eq_zero h), fun h => by rw [h]; rfl⟩
  have hq : ((((trimL xs).length : Nat) : Int) == 0) = true := by
    rw [hlen.2 hz]; rfl
  clear hx hy hlt hz hlen
  obtain ⟨W0, hW0⟩ : ∃ W0, W0 = ((w.alloc (.cells #[.bool na, .slice A xs.length c] 29)).alloc (.cells #[.bool nb, .slice A' ys.length c'] 29)).alloc (.cells #[.bool false, .slice none 0 0] 29) := ⟨_, rfl⟩
  have hb : Below w.heap.size w W0 := by rw [hW0]; exact (((Below.refl _ _).alloc (Nat.le_refl _) _).alloc (by simp) _).alloc (by simp; omega) _
  have tX : Zat W0 w.heap.size (.bool na) (.slice A xs.length c) := by rw [hW0]; exact ((Zat.new w _ _).alloc _).alloc _
  have tY : Zat W0 (w.heap.size + 1) (.bool nb) (.slice A' ys.length c') := by
    have h := Zat.new (w.alloc (.cells #[.bool na, .slice A xs.length c] 29)) (.bool nb) (.slice A' ys.length c')
    rw [World.size_alloc] at h
    rw [hW0]; exact h.alloc _
  have tR : Zat W0 (w.heap.size + 1 + 1) (.bool false) (.slice none 0 0) := by
    have h := Zat.new ((w.alloc (.cells #[.bool na, .slice A xs.length c] 29)).alloc (.cells #[.bool nb, .slice A' ys.length c'] 29)) (.bool false) (.slice none 0 0)
    rw [World.size_alloc, World.size_alloc] at h
    rw [hW0]; exact h
  have q1 := tX.two.c1
  have q2 := tY.two.c1
  have HW0 := Lib.hid hW0
  clear hW0
  go_enter Tryz.func63, Tryz.ntmps63
  go_wp2_with fail
  rw [<- HW0.out]
  go_quiet ((first | (go_at_call 50; with_reducible exact Calls.quiet_of_same (trim_q (HX.out.to (hb.trans (bel_drewN (Below.refl _ _) _))))) | (go_at_call 50; with_reducible exact Calls.quiet_of_same (trim_q (HY.out.to (hb.trans (bel_drewN (Below.refl _ _) _)))))))
  rename_i nq
  have hb1 : Below w.heap.size w (W0.drewN nq) := bel_drewN hb _
  have tR1 : Zat (W0.drewN nq) (w.heap.size + 1 + 1) (.bool false) (.slice none 0 0) := tR
  generalize W0.drewN nq = W1 at hb1 tR1 ⊢
  clear q1 q2 tX tY tR hb HW0
  go_wp2_with fail
  refine (compare_l (HX.out.to hb1) (HY.out.to hb1)).mono ?_
  rw [cmpN_lt HLT.out]
  rintro e w1 ⟨rfl, hb2⟩
  have hb3 := hb1.trans (hb2.mono hb1.size)
  have tR3 : Two w1 (w.heap.size + 1 + 1) _ _ := tR1.two.to hb2
  clear hb1 tR1 hb2
  have HG : Hid (zof false (val b32 (trimL ys)) = ((Nat.gcd (val b32 xs) (val b32 ys) : Nat) : Int)) := by
    have h := HZ.out
    show _ = _
    rw [val_trimL, h]
    simp [zof]
  go_wp2_with fail
  refine (clone_l (HY.out.to hb3).trim).mono ?_
  rintro e w2 ⟨A1, c1, rfl, r1, r2, r3, hb4⟩
  have HI := Lib.hid (integer_l false r1 HY.out.trim.dg r2 r3)
  rw [HG.out] at HI
  have tR4 := tR3.to hb4
  have HB := Lib.hid (hb3.trans (hb4.mono hb3.size))
  clear r1 hb4 hb3 tR3
  obtain ⟨z, ez⟩ : ∃ z : Int, Hid (((Nat.gcd (val b32 xs) (val b32 ys) : Nat) : Int) = z) := ⟨_, rfl⟩
  rw [ez.out] at HI ⊢
  go_wp2_with fail
  refine HI.out.mono ?_
  rintro e w3 ⟨A3, c3, rfl, s1, s2, s3, hb5⟩
  obtain ⟨q1, q2, q3, q4, q5⟩ := tR4.to hb5
  have S2 := Lib.hid s1
  have HB3 := Lib.hid (HB.out.trans (hb5.mono HB.out.size))
  clear s1 hb5 tR4
  go_wp2
  have tF := (⟨q1, q2, q3, q4, q5⟩ : Two w3 (w.heap.size + 1 + 1) _ _).set (.bool (decide (z < 0))) (.slice A3 (dig b32 z.natAbs).length c3)
  refine bodyPost_ret (v := .agg #[.bool (decide (z < 0)), .slice A3 (dig b32 z.natAbs).length c3]) (by simp [results, Tryz.f63, go_sem, tF.c0, tF.c1]) rfl ?_
  rw [ez.out]
  exact zret_stored ⟨q1, q2, q3, q4, q5⟩ (by omega) S2.out s2 s3 HB3.out

theorem gcd_small (na nb : Bool) {A A' : Option Addr} {c c' : Nat} {xs ys : List Nat} {w : World} (hx : Arg w A c xs) (hy : Arg w A' c' ys) (hxl : (trimL xs).length <= 2) (hyl : (trimL ys).length <= 2) :
    Calls Tryz.prog 63 #[.agg #[.bool na, .slice A xs.length c], .agg #[.bool nb, .slice A' ys.length c']] w (ZRet w (Nat.gcd (val b32 xs) (val b32 ys) : Nat)) := by
  rcases Nat.lt_or_ge (val b32 xs) (val b32 ys) with h | h
  · rcases Nat.eq_zero_or_pos (val b32 xs) with h0 | h0
    · exact gcd_d na nb hx hy hxl hyl h h0
    · exact gcd_c na nb hx hy hxl hyl h h0
  · rcases Nat.eq_zero_or_pos (val b32 ys) with h0 | h0
    · exact gcd_b na nb hx hy hxl hyl h h0
    · exact gcd_a na nb hx hy hxl hyl h h0
end Go.Proofs.YtcgdbdhhoomgiabGreat

namespace Go.Proofs.YtcgdbdhhoomgiabGreat
open Go.RowKit Go.Shelf

/-- What divide promises: the quotient's digits, and a row that stands for the remainder. -/
def DivRet (w : World) (q m : Nat) (e : Ending) (w' : World) : Prop := ∃ A1 c1 rs A2 c2, e = .returned (.tuple #[.slice A1 (dig b32 q).length c1, .slice A2 rs.length c2]) /\ Rd .u32 w' w'.heap.size A1 (dig b32 q) /\ Rd .u32 w' w'.heap.size A2 rs /\
  Dg b32 rs /\ val b32 rs = m /\ (dig b32 q).length <= c1 /\ c1 <= 9223372036854775807 /\ rs.length <= c2 /\ c2 <= 9223372036854775807 /\ rs.length <= 4294967295 /\ Below w.heap.size w w'

theorem div_res {w w' : World} {q m Q M : Nat} {A1 A2 : Option Addr} {c1 c2 : Nat} (s1 : (dig b32 q).length <= c1) (t1 : c1 <= 9223372036854775807) (s2 : (dig b32 m).length <= c2) (t2 : c2 <= 9223372036854775807) (h1 : Rd .u32 w' w'.heap.size A1 (dig b32 q)) (h2 : Rd .u32 w' w'.heap.size A2 (dig b32 m))
    (hb : Below w.heap.size w w') (hQ : q = Q /\ q < 18446744073709551616) (hM : m = M /\ m < 18446744073709551616) : DivRet w Q M (.returned (.tuple #[.slice A1 (dig b32 q).length c1, .slice A2 (dig b32 m).length c2])) w' := by
  obtain ⟨rfl, _⟩ := hQ
  obtain ⟨rfl, hm⟩ := hM
  have h3 : b32 ^ 2 = 18446744073709551616 := by decide
  have hl : (dig b32 m).length <= 2 := dig_length_le b32_one (by rw [h3]; exact hm)
  exact ⟨A1, c1, _, A2, c2, rfl, h1, h2, Dg_dig b32_one m, val_dig b32_one m, s1, t1, s2, t2, by omega, hb⟩

theorem divide_less {A A' : Option Addr} {c c' : Nat} {xs ys : List Nat} {w : World} (hx : Arg w A c xs) (hy : Arg w A' c' ys) (tx : trimL xs = xs) (ty : trimL ys = ys) (hlt : val b32 xs < val b32 ys) :
    Calls Tryz.prog 88 #[.slice A xs.length c, .slice A' ys.length c'] w (DivRet w (val b32 xs / val b32 ys) (val b32 xs % val b32 ys)) := by
  have HC := Lib.hid (compare_l hx hy)
  rw [tx, ty, cmpN_lt hlt] at HC
  have HQ : Hid (val b32 xs / val b32 ys = 0) := Nat.div_eq_of_lt hlt
  have HM : Hid (val b32 xs % val b32 ys = val b32 xs) := Nat.mod_eq_of_lt hlt
  have HX := Lib.hid hx
  clear hx hy tx ty hlt
  go_enter Tryz.func88, Tryz.ntmps88
  go_wp2_with fail
  refine HC.out.mono ?_
  rintro e w1 ⟨rfl, hb1⟩
  go_wp2_with fail
  refine (clone_l (HX.out.to hb1)).mono ?_
  rintro e w2 ⟨A1, c1, rfl, r1, r2, r3, hb2⟩
  have HR : Hid (DivRet w (val b32 xs / val b32 ys) (val b32 xs % val b32 ys) (.returned (.tuple #[.slice none 0 0, .slice A1 xs.length c1])) w2) := by
    show DivRet _ _ _ _ _
    rw [HQ.out, HM.out]
    exact ⟨none, 0, xs, A1, c1, rfl, Rd.nil, r1, HX.out.dg, rfl, by simp [dig_zero], by omega, r2, r3, HX.out.small, hb1.trans (hb2.mono hb1.size)⟩
  clear r1 hb1 hb2
  go_wp2
  go_ret2
  exact HR.out

theorem divide_two {A A' : Option Addr} {c c' : Nat} {xs ys : List Nat} {w : World} (hx : Arg w A c xs) (hy : Arg w A' c' ys) (tx : trimL xs = xs) (ty : trimL ys = ys) (hlt : val b32 ys <= val b32 xs) (h0 : 0 < val b32 ys) (hl : xs.length <= 2) (hl' : ys.length <= 2) :
    Calls Tryz.prog 88 #[.slice A xs.length c, .slice A' ys.length c'] w (DivRet w (val b32 xs / val b32 ys) (val b32 xs % val b32 ys)) := by
  have HC := Lib.hid (compare_l hx hy)
  rw [tx, ty] at HC
  obtain ⟨cv, hcv, hcv0⟩ : ∃ cv, cmpN (val b32 xs) (val b32 ys) = cv /\ 0 <= cv := ⟨_, rfl, by unfold cmpN; split <;> (try split) <;> omega⟩
  rw [hcv] at HC
  clear hcv
  have lx := two_lt hx.dg (by rw [tx]; exact hl)
  have ly := two_lt hy.dg (by rw [ty]; exact hl')
  rw [tx] at lx
  rw [ty] at ly
  have HX := Lib.hid hx
  have HY := Lib.hid hy
  obtain ⟨u, eu⟩ : ∃ u : Nat, Hid (val b32 xs = u) := ⟨_, rfl⟩
  obtain ⟨v, ev⟩ : ∃ v : Nat, Hid (val b32 ys = v) := ⟨_, rfl⟩
  rw [eu.out] at lx
  rw [ev.out] at ly h0
  obtain ⟨q, eq⟩ : ∃ q : Nat, Hid (u / v = q) := ⟨_, rfl⟩
  obtain ⟨m, em⟩ : ∃ m : Nat, Hid (u % v = m) := ⟨_, rfl⟩
  have hq64 : q < 18446744073709551616 := by rw [<- eq.out]; exact Nat.lt_of_le_of_lt (Nat.div_le_self u v) lx
  have hm64 : m < 18446744073709551616 := by rw [<- em.out]; exact Nat.lt_of_le_of_lt (Nat.mod_le u v) lx
  have HQ : Hid (q = val b32 xs / val b32 ys /\ q < 18446744073709551616) := ⟨by rw [eu.out, ev.out, eq.out], hq64⟩
  have HM : Hid (m = val b32 xs % val b32 ys /\ m < 18446744073709551616) := ⟨by rw [eu.out, ev.out, em.out], hm64⟩
  have G1 : Hid ((u : Int).tdiv (v : Int) = (q : Nat)) := by show _ = _; rw [Int.tdiv_eq_ediv_of_nonneg (by omega), <- eq.out]; simp
  have G2 : Hid ((u : Int).tmod (v : Int) = (m : Nat)) := by show _ = _; rw [Int.tmod_eq_emod_of_nonneg (by omega), <- em.out]; simp
  have G3 : Hid (IntKind.u64.wrap (q : Int) = (q : Nat)) := by show _ = _; rw [IntKind.wrap_u64]; omega
  have hv1 : (1 : Int) <= (v : Int) := by omega
  have hv2 : ((v : Int) == 0) = false := by rw [beq_eq_false_iff_ne]; omega
  have hv3 : ¬ v = 0 := by omega
  clear hx hy tx ty hlt
  go_enter Tryz.func88, Tryz.ntmps88
  go_wp2_with fail
  refine HC.out.mono ?_
  rintro e w0 ⟨rfl, hb0⟩
  have U1 := Lib.hid (toUint64_any (c := c) (HX.out.to hb0).rd HX.out.dg hl)
  have U2 := Lib.hid (toUint64_any (c := c') (HY.out.to hb0).rd HY.out.dg hl')
  rw [eu.out] at U1
  rw [ev.out] at U2
  go_wp2_with fail
  refine U1.out.mono ?_
  rintro e w' ⟨rfl, rfl⟩
  go_wp2_with fail
  refine U2.out.mono ?_
  rintro e w' ⟨rfl, rfl⟩
  have hb : Below w.heap.size w w0.drew := hb0.drew
  clear hb0
  go_wp2_with fail
  have g1 := G1.out
  have g2 := G2.out
  have g3 := G3.out
  have g4 := hv2
  refine wp_region_any (by kernel_rfl) ?_
  refine (show wpAny _ _ _ _ _ _ _ (World.drew _) from ?_)
  refine wpAny_take (i := 0) (v := .int .u64 (u : Nat)) rfl (by kernel_rfl) (by kernel_rfl) (by kernel_rfl) (fun _ _ _ h => h) (Or.inl ⟨by rfl, fun _ => by go_simp⟩) ?_
  refine wpAny_take (i := 1) (v := .int .u64 (v : Nat)) rfl (by kernel_rfl) (by kernel_rfl) (by kernel_rfl) (fun _ _ _ h => h) (Or.inl ⟨by rfl, fun _ => by go_simp⟩) ?_
  refine wpAny_take (i := 4) (v := .int .u64 (u : Nat)) rfl (by kernel_rfl) (by kernel_rfl) (by kernel_rfl) (fun _ _ _ h => h) (Or.inl ⟨by rfl, fun _ => by go_simp⟩) ?_
  refine wpAny_take (i := 5) (v := .int .u64 (v : Nat)) rfl (by kernel_rfl) (by kernel_rfl) (by kernel_rfl) (fun _ _ _ h => h) (Or.inl ⟨by rfl, fun _ => by go_simp⟩) ?_
  refine wpAny_take (i := 2) (v := .int .u64 (q : Nat)) rfl (by kernel_rfl) (by kernel_rfl) (by kernel_rfl) (fun _ _ _ h => h) (Or.inl ⟨by rfl, fun _ => by go_simp⟩) ?_
  refine wpAny_take (i := 6) (v := .int .u64 (m : Nat)) rfl (by kernel_rfl) (by kernel_rfl) (by kernel_rfl) (fun _ _ _ h => h) (Or.inl ⟨by rfl, fun _ => by go_simp⟩) ?_
  refine wpAny_ready (rs := [3]) (by kernel_rfl) (by simp) (AllReady.cons rfl (fun K hK => ?_) AllReady.nil)
  go_simp
  refine (toWords_l q hq64 _).mono ?_
  rintro e w1 ⟨A1, c1, rfl, r1, s1, t1, hb1⟩
  refine hK _ _ ?_; clear hK K
  refine wpAny_ready (rs := [7]) (by kernel_rfl) (by simp) (AllReady.cons rfl (fun K hK => ?_) AllReady.nil)
  go_simp
  refine (toWords_l m hm64 _).mono ?_
  rintro e w2 ⟨A2, c2, rfl, r2, s2, t2, hb2⟩
  refine hK _ _ ?_; clear hK K
  have RQ : Rd .u32 w2 w2.heap.size A1 (dig b32 q) := r1.to hb2
  have RM : Rd .u32 w2 w2.heap.size A2 (dig b32 m) := r2
  have HB : Below w.heap.size w w2 := (hb.trans (hb1.mono hb.size)).trans (hb2.mono (hb.trans (hb1.mono hb.size)).size)
  have HRES := Lib.hid (div_res s1 t1 s2 t2 RQ RM HB HQ.out HM.out)
  clear RQ RM HB hb1 hb2 r1 r2 g1 g2 g3 g4
  refine wpAny_ready (rs := [8]) (by kernel_rfl) (by simp) (AllReady.cons rfl (fun K hK => ?_) AllReady.nil)
  go_simp; refine hK _ _ ?_; clear hK K
  refine wpAny_ready (rs := [9]) (by kernel_rfl) (by simp) (AllReady.cons rfl (fun K hK => ?_) AllReady.nil)
  go_simp; refine hK _ _ ?_; clear hK K
  refine wpAny_done (by kernel_rfl) ?_ _
  go_wp2
  go_ret2
  exact HRES.out
end Go.Proofs.YtcgdbdhhoomgiabGreat

namespace Go.Proofs.YtcgdbdhhoomgiabGreat
open Go.RowKit Go.Shelf

/-- What DivMod promises where the divisor is not 0. -/
def DRet (w : World) (q r : Int) (e : Ending) (w' : World) : Prop := ∃ A1 c1 A2 c2, e = .returned (.tuple #[.agg #[.bool (decide (q < 0)), .slice A1 (dig b32 q.natAbs).length c1], .agg #[.bool (decide (r < 0)), .slice A2 (dig b32 r.natAbs).length c2], .int .i64 0]) /\
  Rd .u32 w' w'.heap.size A1 (dig b32 q.natAbs) /\ Rd .u32 w' w'.heap.size A2 (dig b32 r.natAbs) /\ (dig b32 q.natAbs).length <= c1 /\ c1 <= 9223372036854775807 /\ (dig b32 r.natAbs).length <= c2 /\ c2 <= 9223372036854775807 /\ Below w.heap.size w w'

theorem Rd.set2 {kd : IntKind} {w : World} {B g : Nat} {A : Option Addr} {xs : List Nat} {x : Bool} {A0 : Option Addr} {n0 c0 : Nat} (t : Two w g (.bool x) (.slice A0 n0 c0)) (h : Rd kd w B A xs) (a b : Value) : Rd kd ((w.setCell ⟨g, 0, none⟩ a).setCell ⟨g, 1, none⟩ b) B A xs := by
  have h1 : (w.setCell ⟨g, 0, none⟩ a).cell? ⟨g, 1, none⟩ = some (.slice A0 n0 c0) := (World.cell?_setCell_other _ _ _ _ (by simp)).trans t.c1
  exact (h.set t.c0 (fun n e => by cases e) a).set h1 (fun n e => by cases e) b

theorem Two.far {w : World} {g g' : Nat} {a b : Value} (t : Two w g a b) (hne : g ≠ g') (u v : Value) : Two ((w.setCell ⟨g', 0, none⟩ u).setCell ⟨g', 1, none⟩ v) g a b := by
  refine ⟨?_, ?_, ?_, ?_, by simpa [World.setCell] using t.lt⟩
  · rw [World.cell?_setCell_other _ _ _ _ (by simp), World.cell?_setCell_other _ _ _ _ (by simp)]; exact t.c0
  · rw [World.cell?_setCell_other _ _ _ _ (by simp), World.cell?_setCell_other _ _ _ _ (by simp)]; exact t.c1
  · rw [World.frozen?_setCell, World.frozen?_setCell]; exact t.f0
  · rw [World.frozen?_setCell, World.frozen?_setCell]; exact t.f1

/-- Two integers that are stored into two results' cells and handed back. -/
theorem dret_stored {w w3 : World} {g g' : Nat} {x x' : Bool} {A0 A0' : Option Addr} {n0 c0 n0' c0' : Nat} {q r : Int} {A1 A2 : Option Addr} {c1 c2 : Nat} (t : Two w3 g (.bool x) (.slice A0 n0 c0)) (t' : Two w3 g' (.bool x') (.slice A0' n0' c0')) (hne : g ≠ g')
    (hg : w.heap.size <= g) (hg' : w.heap.size <= g') (h1 : Rd .u32 w3 w3.heap.size A1 (dig b32 q.natAbs)) (h2 : Rd .u32 w3 w3.heap.size A2 (dig b32 r.natAbs)) (l1 : (dig b32 q.natAbs).length <= c1) (m1 : c1 <= 9223372036854775807) (l2 : (dig b32 r.natAbs).length <= c2) (m2 : c2 <= 9223372036854775807) (hb : Below w.heap.size w w3) :
    DRet w q r (.returned (.tuple #[.agg #[.bool (decide (q < 0)), .slice A1 (dig b32 q.natAbs).length c1], .agg #[.bool (decide (r < 0)), .slice A2 (dig b32 r.natAbs).length c2], .int .i64 0]))
      ((((w3.setCell ⟨g, 0, none⟩ (.bool (decide (q < 0)))).setCell ⟨g, 1, none⟩ (.slice A1 (dig b32 q.natAbs).length c1)).setCell ⟨g', 0, none⟩ (.bool (decide (r < 0)))).setCell ⟨g', 1, none⟩ (.slice A2 (dig b32 r.natAbs).length c2)) := by
  have t2 := t'.far hne.symm (.bool (decide (q < 0))) (.slice A1 (dig b32 q.natAbs).length c1)
  refine ⟨A1, c1, A2, c2, rfl, ?_, ?_, l1, m1, l2, m2, (((hb.setCell (p := ⟨g, 0, none⟩) hg _).setCell (p := ⟨g, 1, none⟩) hg _).setCell (p := ⟨g', 0, none⟩) hg' _).setCell (p := ⟨g', 1, none⟩) hg' _⟩
  · exact (Rd.set2 t2 (Rd.set2 t h1 _ _) _ _).more (by simp [World.setCell])
  · exact (Rd.set2 t2 (Rd.set2 t h2 _ _) _ _).more (by simp [World.setCell])

end Go.Proofs.YtcgdbdhhoomgiabGreat

namespace Go.Proofs.YtcgdbdhhoomgiabGreat
open Go.RowKit Go.Shelf

theorem neg_any (n : Bool) {A : Option Addr} {c : Nat} {xs : List Nat} {w : World} (hx : Arg w A c xs) :
    Calls Tryz.prog 64 #[.agg #[.bool n, .slice A xs.length c]] w (ZRet w (zof (!n) (val b32 xs))) := by
  have HX := Lib.hid hx
  clear hx
  obtain ⟨W0, hW0⟩ : ∃ W0, W0 = (w.alloc (.cells #[.bool n, .slice A xs.length c] 29)).alloc (.cells #[.bool false, .slice none 0 0] 29) := ⟨_, rfl⟩
  have hb : Below w.heap.size w W0 := by rw [hW0]; exact ((Below.refl _ _).alloc (Nat.le_refl _) _).alloc (by simp) _
  have tX : Two W0 w.heap.size (.bool n) (.slice A xs.length c) := by rw [hW0]; exact (Two.new w _ _ _).alloc _
  have tR : Two W0 (w.heap.size + 1) (.bool false) (.slice none 0 0) := by
    have h := Two.new (w.alloc (.cells #[.bool n, .slice A xs.length c] 29)) (.bool false) (.slice none 0 0) 29
    rw [World.size_alloc] at h
    rw [hW0]; exact h
  have HW0 := Lib.hid hW0
  clear hW0
  go_enter Tryz.func64, Tryz.ntmps64
  go_wp2_with fail
  rw [<- HW0.out]
  have q1 := tX.c0
  have q2 := tX.c1
  have tXd := tX.to ((Below.refl _ W0).drew)
  have tRd := tR.to ((Below.refl _ W0).drew)
  obtain ⟨z, ez⟩ : ∃ z, Hid (zof (!n) (val b32 xs) = z) := ⟨_, rfl⟩
  go_region_held3 (fun w' => w'.cell? ⟨w.heap.size, 0, none⟩ = some (.bool n) /\ w'.cell? ⟨w.heap.size, 1, none⟩ = some (.slice A xs.length c))
    (first | exact ⟨q1, q2⟩ | exact ⟨(tXd.to hb2).c0, (tXd.to hb2).c1⟩ | exact ⟨t3.c0, t3.c1⟩ | exact ⟨(t3.far (by omega) _ _).c0, (t3.far (by omega) _ _).c1⟩)
    (first | (go_at_call 56; refine (clone_l (HX.out.to hb.drew)).mono ?_; rintro e w2 ⟨A1, c1, rfl, r1, r2, r3, hb2⟩) | (go_at_call 59; refine (integer_l (!n) r1 HX.out.dg r2 r3).mono ?_; rw [ez.out]; rintro e w3 ⟨A3, c3, rfl, s1, s2, s3, hb3⟩; have t3 := (tXd.to hb2).to hb3; have t4 := (tRd.to hb2).to hb3; have u0 := t4.c0; have u1 := t4.c1; have u2 := t4.f0; have u3 := t4.f1))
  have HB3 : Below w.heap.size w w3 := (hb.drew.trans (hb2.mono hb.size)).trans (hb3.mono (hb.drew.trans (hb2.mono hb.size)).size)
  go_wp2
  have tF := t4.set (.bool (decide (z < 0))) (.slice A3 (dig b32 z.natAbs).length c3)
  refine bodyPost_ret (v := .agg #[.bool (decide (z < 0)), .slice A3 (dig b32 z.natAbs).length c3]) (by simp [results, Tryz.f64, go_sem, tF.c0, tF.c1]) rfl ?_
  rw [ez.out]
  exact zret_stored t4 (by omega) s1 s2 s3 HB3

theorem zof_not (n : Bool) (v : Nat) : zof (!n) v = -zof n v := by cases n <;> simp [zof]

theorem sum_any (n m : Bool) {A A' : Option Addr} {c c' : Nat} {xs ys : List Nat} {w : World} (hx : Arg w A c xs) (hy : Arg w A' c' ys) :
    Calls Tryz.prog 85 #[.agg #[.bool n, .slice A xs.length c], .bool m, .slice A' ys.length c'] w (ZRet w (zof n (val b32 xs) + zof m (val b32 ys))) := by
  by_cases h : m = n
  · subst h
    have h := sum_same m hx hy
    rw [show zof m (val b32 xs + val b32 ys) = zof m (val b32 xs) + zof m (val b32 ys) from by cases m <;> simp [zof] <;> omega] at h
    exact h
  · obtain rfl : m = !n := by cases n <;> cases m <;> simp_all
    rcases Nat.lt_or_ge (val b32 xs) (val b32 ys) with hlt | hge
    · have h := sum_less n hx hy hlt
      rw [show zof (!n) (val b32 ys - val b32 xs) = zof n (val b32 xs) + zof (!n) (val b32 ys) from by cases n <;> simp [zof] <;> omega] at h
      exact h
    · have h := sum_more n hx hy hge
      rw [show zof n (val b32 xs - val b32 ys) = zof n (val b32 xs) + zof (!n) (val b32 ys) from by cases n <;> simp [zof] <;> omega] at h
      exact h

theorem add_any (na nb : Bool) {A A' : Option Addr} {c c' : Nat} {xs ys : List Nat} {w : World} (hx : Arg w A c xs) (hy : Arg w A' c' ys) :
    Calls Tryz.prog 61 #[.agg #[.bool na, .slice A xs.length c], .agg #[.bool nb, .slice A' ys.length c']] w (ZRet w (zof na (val b32 xs) + zof nb (val b32 ys))) := by
  have HX := Lib.hid hx
  have HY := Lib.hid hy
  clear hx hy
  obtain ⟨W0, hW0⟩ : ∃ W0, W0 = ((w.alloc (.cells #[.bool na, .slice A xs.length c] 29)).alloc (.cells #[.bool nb, .slice A' ys.length c'] 29)).alloc (.cells #[.bool false, .slice none 0 0] 29) := ⟨_, rfl⟩
  have hb : Below w.heap.size w W0 := by rw [hW0]; exact (((Below.refl _ _).alloc (Nat.le_refl _) _).alloc (by simp) _).alloc (by simp; omega) _
  have tX : Two W0 w.heap.size (.bool na) (.slice A xs.length c) := by rw [hW0]; exact ((Two.new w _ _ _).alloc _).alloc _
  have tY : Two W0 (w.heap.size + 1) (.bool nb) (.slice A' ys.length c') := by
    have h := Two.new (w.alloc (.cells #[.bool na, .slice A xs.length c] 29)) (.bool nb) (.slice A' ys.length c') 29
    rw [World.size_alloc] at h
    rw [hW0]; exact h.alloc _
  have tR : Two W0 (w.heap.size + 1 + 1) (.bool false) (.slice none 0 0) := by
    have h := Two.new ((w.alloc (.cells #[.bool na, .slice A xs.length c] 29)).alloc (.cells #[.bool nb, .slice A' ys.length c'] 29)) (.bool false) (.slice none 0 0) 29
    rw [World.size_alloc, World.size_alloc] at h
    rw [hW0]; exact h
  have HW0 := Lib.hid hW0
  clear hW0
  go_enter Tryz.func61, Tryz.ntmps61
  go_wp2_with fail
  rw [<- HW0.out]
  have q1 := tX.c0
  have q2 := tX.c1
  have q3 := tY.c0
  have q4 := tY.c1
  obtain ⟨z, ez⟩ : ∃ z, Hid (zof na (val b32 xs) + zof nb (val b32 ys) = z) := ⟨_, rfl⟩
  have HI := Lib.hid (sum_any na (nb) (HX.out.to hb) (HY.out.to hb))
  rw [show zof na (val b32 xs) + zof (nb) (val b32 ys) = zof na (val b32 xs) + zof nb (val b32 ys) from rfl, ez.out] at HI
  go_wp2_with fail
  refine HI.out.mono ?_
  rintro e w3 ⟨A3, c3, rfl, s1, s2, s3, hb3⟩
  have t4 := tR.to hb3
  have u0 := t4.c0
  have u1 := t4.c1
  have u2 := t4.f0
  have u3 := t4.f1
  have S1 := Lib.hid s1
  have HB3 := Lib.hid (hb.trans (hb3.mono hb.size))
  clear s1 hb3 tX tY tR q1 q2 q3 q4
  go_wp2
  have tF := t4.set (.bool (decide (z < 0))) (.slice A3 (dig b32 z.natAbs).length c3)
  refine bodyPost_ret (v := .agg #[.bool (decide (z < 0)), .slice A3 (dig b32 z.natAbs).length c3]) (by simp [results, Tryz.f61, go_sem, tF.c0, tF.c1]) rfl ?_
  rw [ez.out]
  exact zret_stored t4 (by omega) S1.out s2 s3 HB3.out

end Go.Proofs.YtcgdbdhhoomgiabGreat

namespace Go.Proofs.YtcgdbdhhoomgiabGreat

theorem val_set {b : Nat} : ∀ (P : List Nat) (j v : Nat), j < P.length -> val b (P.set j v) + b ^ j * P.getD j 0 = val b P + b ^ j * v
  | [], j, v, h => by simp at h
  | x :: r, 0, v, _ => by simp [val]; omega
  | x :: r, j + 1, v, h => by
    have ih := val_set (b := b) r j v (by simpa using h)
    have h1 := congrArg (b * ·) ih
    simp only [Nat.mul_add] at h1
    simp only [List.set_cons_succ, val, List.getD_cons_succ, Nat.pow_succ']
    rw [Nat.mul_assoc, Nat.mul_assoc]
    omega

theorem getD_set_other (P : List Nat) {j i : Nat} (v : Nat) (h : j ≠ i) : (P.set j v).getD i 0 = P.getD i 0 := by
  simp [List.getD, h]

theorem Dg.set {b : Nat} {P : List Nat} (h : Dg b P) (j : Nat) {v : Nat} (hv : v < b) : Dg b (P.set j v) := by
  intro d hd
  rcases List.mem_or_eq_of_mem_set hd with h1 | h1
  · exact h d h1
  · rw [h1]; exact hv

/-- One round of the inner loop. -/
theorem mul_step {b i k f u v r S T : Nat} {P : List Nat} (hP : i + k < P.length) (hv : P.getD (i + k) 0 = v) (h : val b P + b ^ (i + k) * r = S + b ^ i * (f * T)) :
    val b (P.set (i + k) ((f * u + v + r) % b)) + b ^ (i + (k + 1)) * ((f * u + v + r) / b) = S + b ^ i * (f * (T + b ^ k * u)) := by
  have h1 := val_set (b := b) P (i + k) ((f * u + v + r) % b) hP
  rw [hv] at h1
  have h2 := Nat.div_add_mod (f * u + v + r) b
  have h3 : b ^ (i + (k + 1)) * ((f * u + v + r) / b) = b ^ (i + k) * (b * ((f * u + v + r) / b)) := by
    rw [<- Nat.add_assoc, Nat.pow_succ, Nat.mul_assoc]
  have h4 : b ^ i * (f * (T + b ^ k * u)) = b ^ i * (f * T) + b ^ (i + k) * (f * u) := by
    rw [Nat.mul_add, Nat.mul_add, Nat.pow_add, Nat.mul_assoc (b ^ i) (b ^ k), <- Nat.mul_assoc f (b ^ k) u, Nat.mul_comm f (b ^ k), Nat.mul_assoc (b ^ k) f u]
  have h5 : b ^ (i + k) * (b * ((f * u + v + r) / b)) + b ^ (i + k) * ((f * u + v + r) % b) = b ^ (i + k) * (f * u) + b ^ (i + k) * v + b ^ (i + k) * r := by
    rw [<- Nat.mul_add, h2, Nat.mul_add, Nat.mul_add]
  rw [h3, h4]
  omega

/-- The word behind the inner loop. -/
theorem mul_last {b i m f r S T : Nat} {P : List Nat} (hP : i + m < P.length) (hv : P.getD (i + m) 0 = 0) (h : val b P + b ^ (i + m) * r = S + b ^ i * (f * T)) :
    val b (P.set (i + m) r) = S + b ^ i * (f * T) := by
  have h1 := val_set (b := b) P (i + m) r hP
  rw [hv] at h1
  omega

theorem carry_lt {b f u v r : Nat} (hf : f < b) (hu : u < b) (hv : v < b) (hr : r < b) : f * u + v + r < b * b := by
  have h1 : f * u <= (b - 1) * (b - 1) := Nat.mul_le_mul (by omega) (by omega)
  have h2 : (b - 1) * (b - 1) + 2 * (b - 1) + 1 = b * b := by
    obtain ⟨c, rfl⟩ : ∃ c, b = c + 1 := ⟨b - 1, by omega⟩
    simp only [Nat.add_sub_cancel]
    rw [Nat.add_mul, Nat.mul_add]
    omega
  omega
end Go.Proofs.YtcgdbdhhoomgiabGreat

namespace Go.Proofs.YtcgdbdhhoomgiabGreat
open Go.RowKit

/-- Block g has sz cells, may be written, and begins with the numbers. -/
def Buf (kd : IntKind) (ty : TypeId) (g sz : Nat) (xs : List Nat) (w : World) : Prop := ∃ cur, w.heap[g]? = some (.cells cur ty (0, 0)) /\ cur.size = sz /\ cur.toList.take xs.length = ints kd xs

section
variable {kd : IntKind} {ty : TypeId} {g sz : Nat} {xs : List Nat} {w w' : World}

theorem Buf.lt (h : Buf kd ty g sz xs w) : g < w.heap.size := by
  obtain ⟨cur, h1, _⟩ := h
  exact (Array.getElem?_eq_some_iff.1 h1).1

theorem Buf.le (h : Buf kd ty g sz xs w) : xs.length <= sz := by
  obtain ⟨cur, _, h2, h3⟩ := h
  have := congrArg List.length h3
  simp [ints] at this
  omega

theorem Buf.cell (h : Buf kd ty g sz xs w) {j : Nat} (hj : j < xs.length) : w.cell? ⟨g, j, none⟩ = some (.int kd (xs[j] : Nat)) := by
  obtain ⟨cur, h1, h2, h3⟩ := h
  have h4 : (ints kd xs)[j]? = some (.int kd (xs[j] : Nat)) := by simp [ints, hj]
  rw [<- h3, List.getElem?_take, if_pos hj] at h4
  simpa [World.cell?, h1] using h4

theorem Buf.frozen (h : Buf kd ty g sz xs w) (j : Nat) : w.frozen? ⟨g, j, none⟩ = false := by
  obtain ⟨cur, h1, _⟩ := h
  simp [World.frozen?, h1]

theorem Buf.kept {row : Option Nat} (h : Buf kd ty g sz xs w) (hg : w.grownBy w' row) (hne : some g ≠ row) : Buf kd ty g sz xs w' := by
  have hl := h.lt
  obtain ⟨cur, h1, h2, h3⟩ := h
  exact ⟨cur, (hg.block g hl hne).trans h1, h2, h3⟩

theorem Buf.rd (h : Buf kd ty g sz xs w) {B : Nat} (hB : g < B) : Rd kd w B (some ⟨g, 0, none⟩) xs := fun k hk => ⟨g, 0, rfl, hB, by rw [Nat.zero_add]; exact h.cell hk⟩

theorem Buf.set (h : Buf kd ty g sz xs w) (m v : Nat) : Buf kd ty g sz (xs.set m v) (w.setCell ⟨g, m, none⟩ (.int kd (v : Nat))) := by
  obtain ⟨cur, h1, h2, h3⟩ := h
  obtain ⟨hlt, hk⟩ := Array.getElem?_eq_some_iff.1 h1
  refine ⟨cur.setIfInBounds m (.int kd (v : Nat)), ?_, by simp [h2], ?_⟩
  · show (w.heap.modify g _)[g]? = _
    rw [Array.getElem?_eq_getElem (by rw [Array.size_modify]; exact hlt), Array.getElem_modify_self, hk]
    rfl
  · rw [Array.toList_setIfInBounds, List.length_set, List.take_set, h3]
    simp [ints, List.map_set]

theorem buf_own {β : Type} (kd : IntKind) (ty : TypeId) (g sz : Nat) (f : β -> List Nat) : Own (fun s W => Buf kd ty g sz (f s) W) := fun s X Y row hs hg hrow =>
  hs.kept hg (fun e' => by obtain ⟨o, ho, hc⟩ := hrow g e'.symm; obtain ⟨cur, h1, _⟩ := hs; rw [h1] at ho; cases ho; cases hc)

theorem grownBy_at (W : World) (b o : Nat) (v : Value) : W.grownBy (W.setCell ⟨b, o, none⟩ v) (some b) :=
  ⟨rfl, rfl, rfl, (KeepsWalks.setCell W _ v).size, fun k _ hk => Below.heap_setCell _ _ _ k (fun e => hk (by rw [e]))⟩

theorem Grown.trans {a b c : World} {row : Option Nat} (h : a.grownBy b row) (k : b.grownBy c row) : a.grownBy c row :=
  ⟨k.os.trans h.os, k.tape.trans h.tape, k.output.trans h.output, Nat.le_trans h.size k.size, fun i hi hne => (k.block i (Nat.lt_of_lt_of_le hi h.size) hne).trans (h.block i hi hne)⟩

/-- A later block's change is none of it. -/
theorem Grown.later {a b c : World} {row row' : Option Nat} (h : a.grownBy b row) (k : b.grownBy c row') (hr : ∀ r, row' = some r -> a.heap.size <= r) : a.grownBy c row :=
  ⟨k.os.trans h.os, k.tape.trans h.tape, k.output.trans h.output, Nat.le_trans h.size k.size, fun i hi hne => (k.block i (Nat.lt_of_lt_of_le hi h.size) (fun e => absurd (hr i e.symm) (by omega))).trans (h.block i hi hne)⟩

theorem ownFrom_grown {β : Type} {B : Nat} {w₀ : World} {row : Option Nat} (hB : w₀.heap.size <= B) : OwnFrom B (fun (_ : β) W => w₀.grownBy W row) :=
  fun _ _ _ _ hs hg hr => Grown.later hs hg fun r e => Nat.le_trans hB (hr r e).1

theorem Grown.below {a b : World} {g B : Nat} (h : a.grownBy b (some g)) (hB : B <= g) (ha : B <= a.heap.size) : Below B a b :=
  ⟨h.os, h.tape, h.output, h.size, fun i hi => h.block i (by omega) (by simp; omega)⟩

theorem Grown.drew {a b : World} {row : Option Nat} (h : a.grownBy b row) : a.grownBy b.drew row := ⟨h.os, h.tape, h.output, h.size, h.block⟩
end
end Go.Proofs.YtcgdbdhhoomgiabGreat
