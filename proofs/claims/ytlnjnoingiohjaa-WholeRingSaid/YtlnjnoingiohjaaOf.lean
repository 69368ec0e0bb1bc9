/- pylonref01.of: the integer with a sign and a row of digits in base 65536. -/
import Derived.Test.YtlnjnoingiohjaaHalves
import Derived.Maps.AppendAt
namespace Go.Proofs.Ytlnjnoingiohjaa
open Go.RowKit Go.Shelf

/-- The first k words that the digits t make, two digits a word. -/
def pks (t : List Nat) : Nat → List Nat
  | 0 => []
  | k + 1 => pks t k ++ [t.getD (2 * k) 0 + t.getD (2 * k + 1) 0 * 65536]

theorem pks_length (t : List Nat) : ∀ k, (pks t k).length = k
  | 0 => rfl
  | k + 1 => by simp [pks, pks_length t k]
theorem pks_dg {t : List Nat} (h : Dg b16 t) : ∀ k, Dg b32 (pks t k)
  | 0 => Dg.nil
  | k + 1 => by
    have h1 := getD_dg (by decide) h (2 * k)
    have h2 := getD_dg (by decide) h (2 * k + 1)
    unfold b16 at h1 h2
    exact (pks_dg h k).app (Dg.one (by unfold b32; omega))
theorem pow_2k (k : Nat) : b32 ^ k = b16 ^ (2 * k) := by rw [Nat.pow_mul]; rfl
theorem pks_val (t : List Nat) : ∀ k, val b32 (pks t k) = val b16 (t.take (2 * k))
  | 0 => by simp [pks, val]
  | k + 1 => by
    rw [pks, val_append, pks_length, pks_val t k, show 2 * (k + 1) = 2 * k + 1 + 1 from by omega, val_take_succ t (2 * k + 1), val_take_succ t (2 * k), pow_2k, Nat.pow_succ]
    simp only [val, Nat.mul_zero, Nat.add_zero]
    rw [Nat.mul_add, show b16 ^ (2 * k) * b16 * t.getD (2 * k + 1) 0 = b16 ^ (2 * k) * (t.getD (2 * k + 1) 0 * 65536) from by rw [Nat.mul_assoc, Nat.mul_comm b16]; rfl]
    omega

/-- A row without zeros at its end is not small. -/
theorem val_low {b : Nat} (hb : 0 < b) : ∀ {zs : List Nat}, trimN zs = zs.length → zs ≠ [] → b ^ (zs.length - 1) ≤ val b zs := by
  intro zs
  induction zs with
  | nil => intro _ h; exact absurd rfl h
  | cons d r ih =>
    intro ht _
    simp only [trimN, List.length_cons] at ht
    by_cases h0 : trimN r = 0
    · rw [if_pos h0] at ht
      by_cases hd : d = 0
      · rw [if_pos hd] at ht; omega
      · rw [if_neg hd] at ht
        have : r.length = 0 := by omega
        simp [this, val]; omega
    · rw [if_neg h0] at ht
      have hr : r ≠ [] := by rintro rfl; simp [trimN] at h0
      have h1 := ih (by omega) hr
      have h2 : 0 < r.length := List.length_pos_iff.2 hr
      simp only [val, List.length_cons, Nat.add_sub_cancel]
      have h3 : b ^ r.length = b * b ^ (r.length - 1) := by
        rw [Nat.mul_comm, ← Nat.pow_succ]; congr 1; omega
      have h4 := Nat.mul_le_mul_left b h1
      omega

/-- All words that the digits make, where the digits have no zeros at their end. -/
theorem pks_all {t : List Nat} (h : Dg b16 t) (ht : trimN t = t.length) {N : Nat} (h1 : t.length ≤ 2 * N) (h2 : 2 * N ≤ t.length + 1) : pks t N = dig b32 (val b16 t) := by
  have hv : val b32 (pks t N) = val b16 t := by rw [pks_val, List.take_of_length_le h1]
  have hd := pks_dg h N
  have he := trimL_dig b32_one hd
  rw [hv] at he
  rw [← he]
  have hl := trimL_length (pks t N)
  suffices trimN (pks t N) = N by
    unfold trimL
    rw [this, List.take_of_length_le (by rw [pks_length]; omega)]
  have hle := trimN_le (pks t N)
  rw [pks_length] at hle
  rcases Nat.lt_or_ge (trimN (pks t N)) N with hlt | hge
  · exfalso
    have h3 : val b32 (trimL (pks t N)) < b32 ^ trimN (pks t N) := by
      have := val_lt (hd.take (trimN (pks t N)))
      unfold trimL
      rwa [List.length_take, pks_length, Nat.min_eq_left hle] at this
    rw [val_trimL, hv] at h3
    have hne : t ≠ [] := by rintro rfl; simp at h1 h2; omega
    have h4 := val_low (b := b16) (by decide) ht hne
    rw [pow_2k] at h3
    have h5 : b16 ^ (2 * trimN (pks t N)) ≤ b16 ^ (t.length - 1) := Nat.pow_le_pow_right (by decide) (by omega)
    omega
  · omega

/-- Block g is just a Z's two cells, none frozen. -/
def Zat (W : World) (g : Nat) (a b : Value) : Prop := W.heap[g]? = some (.cells #[a, b] 24 (0, 0))
theorem Zat.two {W : World} {g : Nat} {a b : Value} (h : Zat W g a b) : Two W g a b := Two.of h
theorem Zat.new (W : World) (a b : Value) : Zat (W.alloc (.cells #[a, b] 24)) W.heap.size a b := World.alloc_heap_new W _
theorem Zat.kept {W V : World} {row : Option Nat} {g : Nat} {a b : Value} (h : Zat W g a b) (hg : W.grownBy V row) (hne : some g ≠ row) : Zat V g a b := (hg.block g h.two.lt hne).trans h
theorem Zat.alloc {W : World} {g : Nat} {a b : Value} (h : Zat W g a b) (o : Obj) : Zat (W.alloc o) g a b := (Below.heap_alloc W o g h.two.lt).trans h
theorem Zat.not_row {W : World} {g : Nat} {a b : Value} (h : Zat W g a b) {base : Nat} {e : TypeId} {size n : Nat} {v : Value} {xs : List Value} (hr : W.ownsRow base e size v n xs) (hne : 24 ≠ e) : some g ≠ v.ownBlock := by
  rcases hr.2 with ⟨rfl, _⟩ | ⟨g', cap, cur, rfl, _, hh, _⟩
  · simp [Value.ownBlock]
  · intro he
    obtain rfl : g = g' := by simpa [Value.ownBlock] using he
    rw [show W.heap[g]? = _ from h] at hh
    injection hh with hh
    injection hh with _ h2
    exact hne h2

theorem own_caps {w : World} {base : Nat} {e : TypeId} {size n c : Nat} {A : Option Addr} {xs : List Value} (h : w.ownsRow base e size (.slice A n c) n xs) : n ≤ c ∧ c ≤ 9223372036854775807 := by
  rcases h.2 with ⟨e, rfl⟩ | ⟨g, cap, cur, e, _, _, h1, h2, _⟩
  · injection e with _ _ e; subst e; exact ⟨by omega, by omega⟩
  · injection e with _ _ e; subst e; exact ⟨h1, by simpa [maxLen] using h2⟩

theorem at_int {A : Option Addr} {c : Nat} {xs : List Nat} {w : World} (hr : Rd .i64 w w.heap.size A xs) (hl : xs.length ≤ 9223372036854775807) (i : Int) (h0 : 0 ≤ i) (hi : i ≤ 9223372036854775807) :
    Calls Try.prog 71 #[.slice A xs.length c, .int .i64 i] w fun e w' => e = .returned (.int .i64 (xs.getD i.toNat 0 : Nat)) ∧ w = w' := by
  obtain ⟨n, rfl⟩ := Int.eq_ofNat_of_zero_le h0
  exact at_any hr hl n (by omega)

set_option maxRecDepth 100000 in
set_option maxHeartbeats 4000000 in
theorem of_any (neg : Bool) {A : Option Addr} {c : Nat} {h : List Nat} {w : World} (hr : Rd .i64 w w.heap.size A h) (hd : Dg b16 h) (hc : h.length ≤ c) (hcap : c ≤ 9223372036854775807) (hsm : h.length ≤ 8589934592) :
    Calls Try.prog 49 #[.bool neg, .slice A h.length c] w (ZRet w (zof neg (val b16 h))) := by
  obtain ⟨i0, hi, hz0, hz1, hz2⟩ := info_parts infoWord
  obtain ⟨t, et⟩ : ∃ t, Hid (trimL h = t) := ⟨_, rfl⟩
  have htl : t.length = trimN h := by rw [← et.out, trimL_length]
  have hsm' : t.length ≤ 8589934592 := by rw [htl]; exact Nat.le_trans (trimN_le h) hsm
  have dt : Dg b16 t := by rw [← et.out]; exact hd.take _
  have tt : trimN t = t.length := by rw [← et.out]; exact trim_trimmed b16_one hd
  have vt : val b16 t = val b16 h := by rw [← et.out]; exact val_trimL h
  have rt : Rd .i64 w w.heap.size A t := by rw [← et.out]; exact hr.take _
  rw [← vt]
  have t0 := Zat.new w (.bool false) (.slice none 0 0)
  have HB0 := Lib.hid ((Below.refl w.heap.size w).alloc (Nat.le_refl _) (.cells #[.bool false, .slice none 0 0] 24))
  have HT := Lib.hid (rtrim_any A c _ h _ (hr.to HB0.out) hc hcap)
  rw [← htl] at HT
  have DT := Lib.hid dt
  have TT := Lib.hid tt
  have RT := Lib.hid rt
  obtain ⟨z, ez⟩ : ∃ z, Hid (zof neg (val b16 t) = z) := ⟨_, rfl⟩
  rw [ez.out]
  have hb0 := HB0.out
  clear dt tt rt vt htl hr hd et hc
  obtain ⟨W0, hW0⟩ : ∃ W0, W0 = w.alloc (.cells #[.bool false, .slice none 0 0] 24) := ⟨_, rfl⟩
  have hs0 : W0.heap.size = w.heap.size + 1 := by rw [hW0]; simp
  rw [← hW0] at t0 HT hb0
  have HW0 := Lib.hid hW0
  clear hW0 HB0
  go_enter Try.func49, Try.ntmps49
  go_wp2_with fail
  rw [← HW0.out]
  refine HT.out.mono ?_
  rintro e w' ⟨rfl, rfl⟩
  go_wp2
  go_loopw [5, 6] (fun v i wr => ∃ (k j : Nat) (A1 : Option Addr) (c1 : Nat), v = .slice A1 k c1 ∧ i = .int .i64 j ∧ j = 2 * k ∧ j ≤ t.length + 1 ∧ wr.ownsRow w.heap.size 52 1 (.slice A1 k c1) k (ints .u32 (pks t k)) ∧ Zat wr w.heap.size (.bool false) (.slice none 0 0) ∧ Below w.heap.size w wr)
    (fun _ i _ => t.length + 1 - (intOf i).toNat)
  case atStart => exact ⟨0, 0, none, 0, rfl, rfl, rfl, by omega, by simpa [ints, pks] using World.ownsRow_nil _ _ _ _, t0, hb0⟩
  case round =>
    obtain ⟨k, j, A1, c1, rfl, rfl, hj, hk, hown, t1, hb⟩ := hrel
    by_cases hlt : j < t.length
    · have hu := getD_dg (by decide) DT.out j
      have hz := getD_dg (by decide) DT.out (j + 1)
      unfold b16 at hu hz
      have HA1 := Lib.hid (at_int (c := c) (RT.out.to hb) (by omega) (j : Int) (by omega) (by omega))
      have HA2 := Lib.hid (at_int (c := c) (RT.out.to hb) (by omega) ((j : Int) + 1) (by omega) (by omega))
      rw [show ((j : Int)).toNat = j from by omega] at HA1
      rw [show ((j : Int) + 1).toNat = j + 1 from by omega] at HA2
      obtain ⟨x, ex⟩ : ∃ x, Hid (t.getD j 0 = x) := ⟨_, rfl⟩
      obtain ⟨y, ey⟩ : ∃ y, Hid (t.getD (j + 1) 0 = y) := ⟨_, rfl⟩
      rw [ex.out] at hu HA1
      rw [ey.out] at hz HA2
      have hs1 := hb.size
      have HJ := Lib.hid hj
      have hk2 : 2 * k ≤ t.length := by omega
      clear hj
      have NEXT : ∀ v' w1, w1.ownsRow w.heap.size 52 1 v' (k + 1) (ints .u32 (pks t k) ++ [.int .u32 ((x : Int) + (y : Int) * 65536)]) → (wr.alloc (.cells #[.int .u32 ((x : Int) + (y : Int) * 65536)] 52)).grownBy w1 (Value.slice A1 k c1).ownBlock →
          ∃ (A2 : Option Addr) (c2 : Nat), v' = .slice A2 (k + 1) c2 ∧ w1.ownsRow w.heap.size 52 1 (.slice A2 (k + 1) c2) (k + 1) (ints .u32 (pks t (k + 1))) ∧ Zat w1 w.heap.size (.bool false) (.slice none 0 0) ∧ Below w.heap.size w w1 := by
        intro v' w1 hown' hgrow
        obtain ⟨A2, c2, rfl⟩ := own_shape hown'
        refine ⟨A2, c2, rfl, ?_, ?_, (hb.alloc hs1 _).grown hgrow (by simp; omega) (fun j e => (hown.lt j e).1)⟩
        · rw [pks, ← HJ.out, ex.out, ey.out]
          simpa [ints] using hown'
        · exact (t1.alloc _).kept hgrow (t1.not_row hown (by decide))
      have hownA := hown.alloc (.cells #[.int .u32 ((x : Int) + (y : Int) * 65536)] 52)
      have HN := Lib.hid NEXT
      clear NEXT t1 hb hown ex ey
      go_wp2_with fail
      refine HA1.out.mono ?_
      rintro e w' ⟨rfl, rfl⟩
      go_wp2_with fail
      refine HA2.out.mono ?_
      rintro e w' ⟨rfl, rfl⟩
      go_wp2_with (at_builtin; refine wpList_append_own _ rfl (.tmp 15) (.tmp 27) 22 rfl w.heap.size 52 i0 (.int .u32 0) 1 4 Try.underlying22 hi hz0 hz1 hz2 rfl (by decide) (.slice A1 k c1) k _ rfl hownA ⟨wr.heap.size, 0, none⟩ 1 1 [.int .u32 ((x : Int) + (y : Int) * 65536)] rfl rfl (cell_one_new _ _ _) (by simp [Value.oneCell']) (by unfold maxLen; omega) (by omega) (by simp; omega) ?_; intro v' w1 hown' hgrow _; obtain ⟨A2, c2, rfl, n1, n2, n3⟩ := HN.out _ _ hown' hgrow; have N1 := Lib.hid n1; have N2 := Lib.hid n2; have N3 := Lib.hid n3; clear n1 n2 n3 hown' hgrow)
      go_roundw
      case rel => exact ⟨k + 1, j + 2, A2, c2, rfl, by simp, by have := HJ.out; omega, by omega, N1.out, N2.out, N3.out⟩
      case measure => simp [intOf]; omega
    · have hall := pks_all DT.out TT.out (N := k) (by omega) (by omega)
      obtain ⟨hc1, hc2⟩ := own_caps hown
      rw [hall] at hown
      have hr := Rd.of_own hown (Nat.le_refl _)
      have hkl : (dig b32 (val b16 t)).length = k := by have := hown.1; simp [ints] at this; omega
      have hza : z.natAbs = val b16 t := by rw [← ez.out, zof_abs]
      have T1 := Lib.hid t1
      have t2 := t1.two
      have HRES : Hid (∀ B : Bool, decide (z < 0) = B → ZRet w z (.returned (.agg #[.bool B, .slice A1 k c1])) ((wr.setCell ⟨w.heap.size, 0, none⟩ (.bool B)).setCell ⟨w.heap.size, 1, none⟩ (.slice A1 k c1))) := by
        rintro B rfl
        have h := zret_stored (z := z) t1.two (Nat.le_refl _) (by rw [hza]; exact hr) (by rw [hza, hkl]; exact hc1) hc2 hb
        rw [hza, hkl] at h
        exact h
      have HV : Hid (val b16 t = 0 ↔ k = 0) := by
        rw [← hkl]
        exact ⟨fun h => by rw [h]; rfl, fun h => (dig_nil b32_one).1 (List.eq_nil_of_length_eq_zero h)⟩
      obtain ⟨p1, p2, p3, p4, p5⟩ := t2
      clear t1 hown hr hall hkl hza hb hj
      rcases Nat.eq_zero_or_pos k with hk0 | hk0
      · have hz0' : z = 0 := by rw [← ez.out, HV.out.2 hk0, zof_zero]
        have DZ : Hid (decide (z < 0) = false) := by rw [hz0']; rfl
        subst hk0
        clear hz0'
        cases neg
        · go_wp2
          have tF := T1.out.two.set (.bool false) (.slice A1 0 c1)
          refine bodyPost_ret (v := .agg #[.bool false, .slice A1 0 c1]) (by simp [results, Try.f49, go_sem, tF.c0, tF.c1]) rfl (HRES.out false DZ.out)
        · go_wp2
          have tF := T1.out.two.set (.bool false) (.slice A1 0 c1)
          refine bodyPost_ret (v := .agg #[.bool false, .slice A1 0 c1]) (by simp [results, Try.f49, go_sem, tF.c0, tF.c1]) rfl (HRES.out false DZ.out)
      · have DZ : Hid (decide (z < 0) = neg) := by
          rw [← ez.out]
          exact zof_neg neg (fun h => by have := HV.out.1 h; omega)
        cases neg
        · go_wp2
          have tF := T1.out.two.set (.bool false) (.slice A1 k c1)
          refine bodyPost_ret (v := .agg #[.bool false, .slice A1 k c1]) (by simp [results, Try.f49, go_sem, tF.c0, tF.c1]) rfl (HRES.out false DZ.out)
        · go_wp2
          have tF := T1.out.two.set (.bool true) (.slice A1 k c1)
          refine bodyPost_ret (v := .agg #[.bool true, .slice A1 k c1]) (by simp [results, Try.f49, go_sem, tF.c0, tF.c1]) rfl (HRES.out true DZ.out)
end Go.Proofs.Ytlnjnoingiohjaa
