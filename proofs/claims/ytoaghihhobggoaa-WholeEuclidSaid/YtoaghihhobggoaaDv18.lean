/- Parts: KBack, Lz. -/
import Derived.Test.YtoaghihhobggoaaDv2
import Derived.Test.YtoaghihhobggoaaDv9
import Derived.Test.YtoaghihhobggoaaDv16
import Derived.Shelf.Small.Bits
set_option linter.unusedVariables false
set_option linter.unusedSimpArgs false

namespace Go.Proofs.Ytoaghihhobggoaa
open Go.RowKit Go.Shelf

/-- What a round of addBack finds. -/
def AddSt (w : World) (g sz g2 sz2 B : Nat) (cr : Nat) (Q ys : List Nat) (W : World) : Prop :=
  Buf .u32 52 g sz Q W ∧ Buf .u32 52 g2 sz2 ys W ∧
    Boxed W B 2 (.int .i64 1) ∧ Boxed W (B + 1) 2 (.int .i64 1) ∧ Boxed W (B + 2) 2 (.int .i64 (cr : Nat)) ∧ w.grownBy W (some g)

section
variable {w W : World} {g sz g2 sz2 B : Nat} {cr : Nat} {Q ys : List Nat}
theorem AddSt.more (h : AddSt w g sz g2 sz2 B cr Q ys W) (hg : g < B) (hg2 : g2 < B) (hB : w.heap.size ≤ B) (cr' : Nat) : AddSt w g sz g2 sz2 B cr' Q ys (W.setCell ⟨B + 2, 0, none⟩ (.int .i64 (cr' : Nat))) := by
  obtain ⟨a, b, e, i, j, k⟩ := h
  have G := grownBy_at W (B + 2) 0 (.int .i64 (cr' : Nat))
  exact ⟨a.kept G (by simp; omega), b.kept G (by simp; omega), e.kept G (by simp), i.kept G (by simp), j.set _, Grown.later k G (by simp; omega)⟩
theorem AddSt.put (h : AddSt w g sz g2 sz2 B cr Q ys W) (hg : g < B) (hne : g2 ≠ g) (j d : Nat) : AddSt w g sz g2 sz2 B cr (Q.set j d) ys (W.setCell ⟨g, j, none⟩ (.int .u32 (d : Nat))) := by
  obtain ⟨a, b, e, i, j', k⟩ := h
  have G := grownBy_at W g j (.int .u32 (d : Nat))
  exact ⟨a.set _ _, b.kept G (by simp; omega), e.kept G (by simp; omega), i.kept G (by simp; omega), j'.kept G (by simp; omega), Grown.trans k G⟩
theorem AddSt.start {w : World} (ha : Buf .u32 52 g sz Q w) (hb : Buf .u32 52 g2 sz2 ys w) : AddSt w g sz g2 sz2 w.heap.size 0 Q ys (((w.alloc (.cells #[.int .i64 1] 2)).alloc (.cells #[.int .i64 1] 2)).alloc (.cells #[.int .i64 0] 2)) := by
  have G : ∀ (V : World) (o : Obj), V.grownBy (V.alloc o) none := fun V o => World.grownBy_alloc _ _ none
  have b2 := Boxed.new w 2 (.int .i64 1)
  have b3 := Boxed.new (w.alloc (.cells #[.int .i64 1] 2)) 2 (.int .i64 1)
  have b4 := Boxed.new ((w.alloc (.cells #[.int .i64 1] 2)).alloc (.cells #[.int .i64 1] 2)) 2 (.int .i64 0)
  simp only [World.size_alloc] at b3 b4
  refine ⟨?_, ?_, (b2.alloc _).alloc _, b3.alloc _, b4, ?_⟩
  · exact ((ha.kept (G _ _) (by simp)).kept (G _ _) (by simp)).kept (G _ _) (by simp)
  · exact ((hb.kept (G _ _) (by simp)).kept (G _ _) (by simp)).kept (G _ _) (by simp)
  · exact Grown.trans (Grown.trans (World.grownBy_alloc _ _ _) (World.grownBy_alloc _ _ _)) (World.grownBy_alloc _ _ _)
end

theorem more_step (v u cc B : Nat) (w : World) (hv : v < 4294967296) (hu : u < 4294967296) (hc : cc ≤ 1)
    (cp : Boxed w B 2 (.int .i64 1)) (cq : Boxed w (B + 1) 2 (.int .i64 1)) (cr : Boxed w (B + 2) 2 (.int .i64 (cc : Nat))) {d c' : Nat} (hd : (v + u + cc) % b32 = d) (h : (v + u + cc) / b32 = c') :
    Calls Try.prog 95 #[.int .u32 (v : Nat), .int .u32 (u : Nat), .pointer (some ⟨B, 0, none⟩), .pointer (some ⟨B + 1, 0, none⟩), .pointer (some ⟨B + 2, 0, none⟩)] w fun e w' =>
      e = .returned (.int .u32 (d : Nat)) ∧ w' = w.setCell ⟨B + 2, 0, none⟩ (.int .i64 (c' : Nat)) := by
  refine (combiner1_any 1 1 (cc : Nat) v u B (B + 1) (B + 2) w hv hu cp.cell cq.cell cr.cell cr.frozen (by omega) (by omega) (by omega) (by omega) (by omega) (by omega) (by omega) (by omega)).mono ?_
  rintro e w' ⟨rfl, rfl⟩
  unfold b32 at hd h
  have e1 : (1 * (v : Int) + 1 * (u : Int) + (cc : Nat)) % 4294967296 = (d : Int) := by omega
  have e2 : (1 * (v : Int) + 1 * (u : Int) + (cc : Nat)) / 4294967296 = (c' : Int) := by omega
  rw [e1, e2]
  exact ⟨rfl, rfl⟩

def OutB (o n : Nat) (P Q : List Nat) : Prop := ∀ j, j < o ∨ o + n < j → Q.getD j 0 = P.getD j 0
theorem OutB.set {o n j v : Nat} {P Q : List Nat} (h : OutB o n P Q) (h1 : o ≤ j) (h2 : j ≤ o + n) : OutB o n P (Q.set j v) := fun i hi => by rw [getD_set_other Q v (by omega)]; exact h i hi

set_option maxRecDepth 100000 in
set_option maxHeartbeats 4000000 in
theorem addBack_any {g g2 sz sz2 o cap c2 : Nat} {P0 ys : List Nat} {w : World} (hb : Buf .u32 52 g sz P0 w) (hd : Dg b32 P0) (hy : Buf .u32 52 g2 sz2 ys w) (dy : Dg b32 ys) (hne : g2 ≠ g) (hl : o + ys.length + 1 ≤ P0.length) (hsm : P0.length ≤ 4294967297) (hcap : ys.length + 1 ≤ cap) (hcap2 : cap ≤ 9223372036854775807) :
    Calls Try.prog 93 #[.slice (some ⟨g, o, none⟩) (ys.length + 1) cap, .slice (some ⟨g2, 0, none⟩) ys.length c2] w fun e w' => ∃ (Q : List Nat) (c : Nat), (∃ v, e = .returned v) ∧ c ≤ 1 ∧ Q.length = P0.length ∧ Dg b32 Q ∧
      OutB o ys.length P0 Q ∧ val b32 Q + b32 ^ (o + (ys.length + 1)) * c = val b32 P0 + b32 ^ o * val b32 ys ∧ Buf .u32 52 g sz Q w' ∧ w.grownBy w' (some g) := by
  have S0 := AddSt.start hb hy
  have hgB := hb.lt
  have hgB2 := hy.lt
  have HDY := Lib.hid dy
  clear dy hb hy
  go_enter Try.func93, Try.ntmps93
  go_wp2_with fail
  refine (combiner_any 1 1 _).mono ?_
  rintro e w6 ⟨rfl, rfl⟩
  obtain ⟨W0, hW0⟩ : ∃ W0, W0 = (((w.alloc (.cells #[.int .i64 1] 2)).alloc (.cells #[.int .i64 1] 2)).alloc (.cells #[.int .i64 0] 2)) := ⟨_, rfl⟩
  rw [← hW0] at S0 ⊢
  clear hW0
  obtain ⟨B, eB⟩ : ∃ B, w.heap.size = B := ⟨_, rfl⟩
  have hBw : w.heap.size ≤ B := by omega
  rw [eB] at S0 hgB hgB2 ⊢
  clear eB
  have h0 : Hid (val b32 P0 + b32 ^ (o + 0) * 0 = val b32 P0 + b32 ^ o * val b32 (ys.take 0)) := by show _ = _; simp [val]
  go_wp2
  go_loopw [10] (fun kv wi => ∃ (k : Nat) (Q : List Nat) (cc : Nat), kv = .int .i64 k ∧ k ≤ ys.length ∧ Q.length = P0.length ∧ Dg b32 Q ∧ Hid (OutB o ys.length P0 Q) ∧ cc ≤ 1 ∧ Hid (val b32 Q + b32 ^ (o + k) * cc = val b32 P0 + b32 ^ o * val b32 (ys.take k)) ∧ AddSt w g sz g2 sz2 B cc Q ys wi)
    (fun kv _ => ys.length - (intOf kv).toNat)
  case atStart => exact ⟨0, P0, 0, rfl, Nat.zero_le _, rfl, hd, fun _ _ => rfl, by decide, h0, S0⟩
  case round =>
    obtain ⟨k, Q, cc, rfl, hk, hQl, hQd, HO, hcc, HV, hst⟩ := hrel
    by_cases hkl : k < ys.length
    · have ey := hst.2.1.cell hkl
      rw [← getD_at hkl] at ey
      have hu := getD_dg (by decide) HDY.out k
      have hik : o + k < Q.length := by omega
      have ev := hst.1.cell hik
      rw [← getD_at hik] at ev
      have hv := getD_dg (by decide) hQd (o + k)
      have HTY := Lib.hid (val_take_succ (b := b32) ys k)
      obtain ⟨u, eu⟩ : ∃ u, Hid (ys.getD k 0 = u) := ⟨_, rfl⟩
      obtain ⟨v, hvv⟩ : ∃ v, Hid (Q.getD (o + k) 0 = v) := ⟨_, rfl⟩
      rw [eu.out] at ey hu HTY
      rw [hvv.out] at ev hv
      have hval := back_step (u := u) (by decide) hik hvv.out HV.out
      rw [← HTY.out] at hval
      obtain ⟨d, ed⟩ : ∃ d, (v + u + cc) % b32 = d := ⟨_, rfl⟩
      obtain ⟨c', ec⟩ : ∃ c', (v + u + cc) / b32 = c' := ⟨_, rfl⟩
      have hdd : d < b32 := by rw [← ed]; exact Nat.mod_lt _ (by decide)
      have hc' : c' ≤ 1 := by unfold b32 at ec hv hu; omega
      have ST2 := Lib.hid (more_step v u cc B _ hv hu hcc hst.2.2.1 hst.2.2.2.1 hst.2.2.2.2.1 ed ec)
      rw [ed, ec] at hval
      have s3 := hst.more hgB hgB2 hBw c'
      have s4 := s3.put hgB hne (o + k) d
      have ev3 := s3.1.cell hik
      rw [← getD_at hik, hvv.out] at ev3
      have fv3 := s3.1.frozen (o + k)
      have fv := hst.1.frozen (o + k)
      have S4 := Lib.hid s4
      have HVL := Lib.hid hval
      have hk2 : (k : Int) < (ys.length : Int) + 1 := by omega
      clear s3 s4 hval ed ec HV hst
      go_wp2_with fail
      refine ST2.out.mono ?_
      rintro e w' ⟨rfl, rfl⟩
      go_wp2
      go_roundw
      case rel => exact ⟨k + 1, Q.set (o + k) d, c', by simp, by omega, by rw [List.length_set]; exact hQl, hQd.set _ hdd, HO.out.set (by omega) (by omega), hc', HVL, S4.out⟩
      case measure => simp [intOf]; omega
    · obtain rfl : k = ys.length := by omega
      have hik : o + ys.length < Q.length := by omega
      have ev := hst.1.cell hik
      rw [← getD_at hik] at ev
      have hv := getD_dg (by decide) hQd (o + ys.length)
      obtain ⟨v, hvv⟩ : ∃ v, Hid (Q.getD (o + ys.length) 0 = v) := ⟨_, rfl⟩
      rw [hvv.out] at ev hv
      have hval := back_step (u := 0) (by decide) hik hvv.out HV.out
      rw [List.take_of_length_le (Nat.le_refl _), Nat.mul_zero, Nat.add_zero] at hval
      obtain ⟨d, ed⟩ : ∃ d, (v + 0 + cc) % b32 = d := ⟨_, rfl⟩
      obtain ⟨c', ec⟩ : ∃ c', (v + 0 + cc) / b32 = c' := ⟨_, rfl⟩
      have hdd : d < b32 := by rw [← ed]; exact Nat.mod_lt _ (by decide)
      have hc' : c' ≤ 1 := by unfold b32 at ec hv; omega
      have ST2 := Lib.hid (more_step v 0 cc B _ hv (by decide) hcc hst.2.2.1 hst.2.2.2.1 hst.2.2.2.2.1 ed ec)
      rw [show v + cc = v + 0 + cc from rfl, ed, ec] at hval
      have s3 := hst.more hgB hgB2 hBw c'
      have s4 := s3.put hgB hne (o + ys.length) d
      have ev3 := s3.1.cell hik
      rw [← getD_at hik, hvv.out] at ev3
      have fv3 := s3.1.frozen (o + ys.length)
      have fv := hst.1.frozen (o + ys.length)
      have S4 := Lib.hid s4
      have HVL := Lib.hid hval
      have hk2 : (ys.length : Int) < (ys.length : Int) + 1 := by omega
      clear s3 s4 hval ed ec HV hst
      go_wp2_with fail
      refine ST2.out.mono ?_
      rintro e w' ⟨rfl, rfl⟩
      go_wp2
      go_end0
      exact ⟨Q.set (o + ys.length) d, c', ⟨_, rfl⟩, hc', by rw [List.length_set]; exact hQl, hQd.set _ hdd, HO.out.set (by omega) (by omega), HVL.out, S4.out.1, S4.out.2.2.2.2.2⟩
end Go.Proofs.Ytoaghihhobggoaa

namespace Go.Proofs.Ytoaghihhobggoaa
open Go.RowKit Go.Shelf

def lzRen : Go.Shelf.Ren := ⟨fun | 133 => 89 | 128 => 99 | n => n, fun | 51 => 52 | 3 => 3 | 4 => 4 | 46 => 78 | 5 => 5 | 9 => 9 | n => n, fun | n => n⟩
theorem lzLays : Go.Proofs.Lays.n133 Try.prog lzRen := {
  mixed := by kernel_rfl
  f128 := Try.func99.trans (congrArg some (by kernel_rfl))
  f133 := Try.func89.trans (congrArg some (by kernel_rfl))
  t3 := Try.underlying3
  a3 := Try.isAgg3
  z3 := Try.sizeOf3
  v3 := Try.zeroValue3
  t4 := Try.underlying4
  a4 := Try.isAgg4
  z4 := Try.sizeOf4
  v4 := Try.zeroValue4
  t5 := Try.underlying5
  a5 := Try.isAgg5
  z5 := Try.sizeOf5
  v5 := Try.zeroValue5
  t9 := Try.underlying9
  a9 := Try.isAgg9
  z9 := Try.sizeOf9
  v9 := Try.zeroValue9
  t46 := Try.underlying78
  a46 := Try.isAgg78
  z46 := Try.sizeOf78
  v46 := Try.zeroValue78
  t51 := Try.underlying52
  a51 := Try.isAgg52
  z51 := Try.sizeOf52
  v51 := Try.zeroValue52 }

theorem bitLen_two (x : Nat) : x < 2 ^ 64 → 0 < x → ∃ n, Lib.bitLen x = n + 1 ∧ 2 ^ n ≤ x ∧ x < 2 ^ (n + 1) := by
  induction x using Nat.strongRecOn with
  | _ x ih =>
    intro h h0
    rw [Lib.bitLen_half x (by omega) h]
    rcases Nat.lt_or_ge x 2 with h1 | h1
    · obtain rfl : x = 1 := by omega
      exact ⟨0, by decide +kernel, by decide, by decide⟩
    · obtain ⟨n, e, a, b⟩ := ih (x / 2) (by omega) (by omega) (by omega)
      refine ⟨n + 1, by omega, ?_, ?_⟩
      · rw [Nat.pow_succ]; omega
      · rw [Nat.pow_succ]; omega

theorem lz_any (x : Nat) (hx : x < 4294967296) (h0 : 0 < x) (w : World) :
    Calls Try.prog 89 #[.int .u32 (x : Nat)] w fun e w' => ∃ s : Nat, e = .returned (.int .i64 (s : Nat)) ∧ s < 32 ∧ 2147483648 ≤ x * 2 ^ s ∧ x * 2 ^ s < 4294967296 ∧ w' = w := by
  refine (Any.bits_LeadingZeros32 lzLays (x : Nat) w (by omega) (by omega)).mono ?_
  rintro e w' ⟨rfl, rfl⟩
  obtain ⟨n, e1, a, b⟩ := bitLen_two x (Nat.lt_trans hx (by decide)) h0
  have hn : n < 32 := by
    rcases Nat.lt_or_ge n 32 with h | h
    · exact h
    · have : 2 ^ 32 ≤ 2 ^ n := Nat.pow_le_pow_right (by decide) h
      have e2 : 2 ^ 32 = 4294967296 := by decide
      omega
  refine ⟨31 - n, ?_, by omega, ?_, ?_, rfl⟩
  · rw [show ((x : Nat) : Int).toNat = x from rfl, e1]
    congr 2
    omega
  · have h1 := Nat.mul_le_mul_right (2 ^ (31 - n)) a
    rw [← Nat.pow_add, show n + (31 - n) = 31 from by omega] at h1
    exact h1
  · have h1 := Nat.mul_lt_mul_of_pos_right b (Nat.pow_pos (n := 31 - n) (show 0 < 2 by decide))
    rw [← Nat.pow_add, show n + 1 + (31 - n) = 32 from by omega] at h1
    exact h1
end Go.Proofs.Ytoaghihhobggoaa
