/- Parts: Frac7, Frac8. -/
import Derived.Test.YtbpeekhbmabibaaFa8
set_option linter.unusedVariables false

namespace Go.Proofs.Ytbpeekhbmabibaa
open Go.RowKit Go.Shelf

theorem multiplier_c (f c : Nat) (hc : c < 4294967296) (w : World) :
    Calls Try.prog 89 #[.int .u32 (f : Nat), .int .u32 (c : Nat)] w fun e w' => e = .returned (.func (.func 94) #[] #[.pointer (some ⟨w.heap.size, 0, none⟩), .pointer (some ⟨w.heap.size + 1, 0, none⟩)]) ∧
      w' = (w.alloc (.cells #[.int .u32 (f : Nat)] 73)).alloc (.cells #[.int .u64 (c : Nat)] 67) := by
  have g : IntKind.u64.wrap (c : Int) = (c : Int) := by rw [IntKind.wrap_u64]; omega
  go_enter Try.func89, Try.ntmps89
  go_wp2
  go_ret
  exact ⟨rfl, rfl⟩

theorem mul_carry {W : World} {B f r : Nat} (hf : f < 4294967296) (hr : r < 4294967296) (c0 : W.cell? ⟨B, 0, none⟩ = some (.int .u32 (f : Nat))) (c1 : W.cell? ⟨B + 1, 0, none⟩ = some (.int .u64 (r : Nat))) (fr : W.frozen? ⟨B + 1, 0, none⟩ = false) :
    Calls Try.prog 94 #[.int .u32 0, .int .u32 0, .pointer (some ⟨B, 0, none⟩), .pointer (some ⟨B + 1, 0, none⟩)] W fun e w' => e = .returned (.int .u32 (r : Nat)) ∧ w' = W.setCell ⟨B + 1, 0, none⟩ (.int .u64 0) := by
  have h := multiplier1_any f 0 0 r B (B + 1) W hf (by decide) (by decide) hr c0 c1 fr
  rw [show (f * 0 + 0 + r) % 4294967296 = r from by omega, show (f * 0 + 0 + r) / 4294967296 = 0 from by omega] at h
  exact h

set_option maxRecDepth 100000 in
set_option maxHeartbeats 4000000 in
theorem sa_nil (f d : Nat) (hf : f < 4294967296) (hd0 : 0 < d) (hd : d < 4294967296) (w : World) :
    Calls Try.prog 79 #[.slice none 0 0, .int .u32 (f : Nat), .int .u32 (d : Nat)] w fun e w' => ∃ A c, e = .returned (.slice A 1 c) ∧ Rd .u32 w' w'.heap.size A [d] ∧ 1 ≤ c ∧ c ≤ 9223372036854775807 ∧ Below w.heap.size w w' := by
  obtain ⟨i0, hi, hz0, hz1, hz2⟩ := info_parts infoWord
  have HM := Lib.hid (multiplier_c f d hd w)
  obtain ⟨W1, hW1⟩ : ∃ W1, W1 = (w.alloc (.cells #[.int .u32 (f : Nat)] 73)).alloc (.cells #[.int .u64 (d : Nat)] 67) := ⟨_, rfl⟩
  have hb1 : Below w.heap.size w W1 := by rw [hW1]; exact ((Below.refl _ _).alloc (Nat.le_refl _) _).alloc (by simp) _
  have hsz : W1.heap.size = w.heap.size + 1 + 1 := by rw [hW1]; simp
  have e0 : W1.heap[w.heap.size]? = some (.cells #[.int .u32 (f : Nat)] 73 (0, 0)) := by
    rw [hW1]
    exact (Below.heap_alloc _ _ _ (by simp)).trans (World.alloc_heap_new w _)
  have e1 : W1.heap[w.heap.size + 1]? = some (.cells #[.int .u64 (d : Nat)] 67 (0, 0)) := by
    have h := World.alloc_heap_new (w.alloc (.cells #[.int .u32 (f : Nat)] 73)) (.cells #[.int .u64 (d : Nat)] 67)
    rw [World.size_alloc, ← hW1] at h
    exact h
  have c0 : W1.cell? ⟨w.heap.size, 0, none⟩ = some (.int .u32 (f : Nat)) := by simp [World.cell?, e0]
  have c1 : W1.cell? ⟨w.heap.size + 1, 0, none⟩ = some (.int .u64 (d : Nat)) := by simp [World.cell?, e1]
  have f1 : W1.frozen? ⟨w.heap.size + 1, 0, none⟩ = false := by simp [World.frozen?, e1]
  have HN := Lib.hid (mul_carry hf hd c0 c1 f1)
  obtain ⟨W2, hW2⟩ : ∃ W2, W2 = W1.setCell ⟨w.heap.size + 1, 0, none⟩ (.int .u64 0) := ⟨_, rfl⟩
  have hb2 : Below w.heap.size w W2 := by rw [hW2]; exact hb1.setCell (p := ⟨w.heap.size + 1, 0, none⟩) (Nat.le_succ _) _
  rw [← hW2] at HN
  rw [← hW1] at HM
  have hs2 : w.heap.size ≤ W2.heap.size := hb2.size
  obtain ⟨v', w3, hrun, hown', hgrow, _, _⟩ := run_append_own_at (P := Try.prog) (W2.alloc (.cells #[.int .u32 (d : Nat)] 73)) w.heap.size 22 22 73 i0 (.int .u32 0) 1 4
    Try.underlying22 hi hz0 hz1 hz2 rfl (by decide) _ 0 _ (World.ownsRow_nil _ w.heap.size 73 1) ⟨W2.heap.size, 0, none⟩ 1 1 [.int .u32 (d : Nat)] rfl (cell_one_new _ _ _) (by simp [Value.oneCell']) (by unfold maxLen; omega) (by omega) (by simp; omega)
  obtain ⟨A2, c2, rfl⟩ := own_shape hown'
  rw [Nat.zero_add] at hrun hown'
  have hb3 : Below w.heap.size w w3 := (hb2.alloc hs2 _).grown hgrow (by simp; omega) (fun j e => by simp [Value.ownBlock] at e)
  obtain ⟨l1, m1⟩ := own_caps hown'
  have hrd : Rd .u32 w3 w3.heap.size A2 [d] := Rd.of_own (by simpa [ints] using hown') (Nat.le_refl _)
  have HT := Lib.hid (trim_any A2 c2 _ [d] w3 hrd l1 m1)
  rw [show trimN [d] = 1 from by have := trimN_snoc [] d (by omega); simpa using this] at HT
  have HRUN := Lib.hid hrun
  have HRD := Lib.hid hrd
  have HB3 := Lib.hid hb3
  clear hi hz0 hz1 hz2 hW1 hb1 hsz e0 e1 c0 c1 f1 hW2 hb2 hs2 hrun hown' hgrow hb3 hrd
  go_enter Try.func79, Try.ntmps79
  go_wp2_with fail
  refine HM.out.mono ?_
  rintro e w' ⟨rfl, rfl⟩
  go_wp2
  refine wp_loop_rounds 1 ?_
  rw [rounds_succ]
  go_wp2_with fail
  refine HN.out.mono ?_
  rintro e w' ⟨rfl, rfl⟩
  go_wp2_with (at_builtin; refine wpList_append_run rfl (.tmp 27) (.tmp 30) 22 rfl (by rfl) (by rfl) HRUN.out ?_; clear HRUN)
  refine HT.out.mono ?_
  rintro e w' ⟨rfl, rfl⟩
  go_wp2
  go_ret
  exact ⟨A2, c2, rfl, HRD.out, l1, m1, HB3.out⟩

theorem cut_1 (w : World) : Calls Try.prog 63 #[.string ⟨#[49]⟩, .string ⟨#[45]⟩] w fun e w' => e = .returned (.tuple #[.string ⟨#[49]⟩, .bool false]) ∧ w = w' := by
  have e1 : ((({ data := #[49] } : ByteArray).extract 0 1).toList == [45]) = false := by decide +kernel
  go_enter Try.func63, Try.ntmps63
  go_wp2
  go_ret2
  exact ⟨rfl, rfl⟩
set_option maxHeartbeats 1000000 in
theorem isDecimal_1 (w : World) : Calls Try.prog 64 #[.string ⟨#[49]⟩] w fun e w' => e = .returned (.bool true) ∧ w = w' := by
  have e1 : ((({ data := #[49] } : ByteArray)).toList == [48]) = false := by decide +kernel
  have e2 : ((({ data := #[49] } : ByteArray)).toList == []) = false := by decide +kernel
  have e3 : ((({ data := #[49] } : ByteArray)).toList != []) = true := by decide +kernel
  go_enter Try.func64, Try.ntmps64
  go_wp2
  refine wp_loop_rounds 2 ?_
  rw [rounds_succ]
  go_wp2
  rw [rounds_succ]
  go_wp2
  go_ret
  exact ⟨rfl, rfl⟩
set_option maxHeartbeats 1000000 in
theorem magnitude_1 (w : World) : Calls Try.prog 65 #[.string ⟨#[49]⟩] w fun e w' => ∃ A c, e = .returned (.slice A 1 c) ∧ Rd .u32 w' w'.heap.size A [1] ∧ 1 ≤ c ∧ c ≤ 9223372036854775807 ∧ Below w.heap.size w w' := by
  have HS := Lib.hid (sa_nil 10 1 (by decide) (by decide) (by decide) w)
  go_enter Try.func65, Try.ntmps65
  go_wp2
  refine wp_loop_rounds 2 ?_
  rw [rounds_succ]
  go_wp2_with fail
  refine HS.out.mono ?_
  rintro e w' ⟨A, c, rfl, h1, h2, h3, h4⟩
  have H1 := Lib.hid h1
  have H4 := Lib.hid h4
  clear h1 h4
  go_wp2
  rw [rounds_succ]
  go_wp2
  go_ret
  exact ⟨A, c, rfl, H1.out, h2, h3, H4.out⟩
set_option maxRecDepth 100000 in
set_option maxHeartbeats 2000000 in
theorem parse_1 (w : World) : Calls Try.prog 41 #[.string ⟨#[49]⟩] w fun e w' => ∃ x y, e = .returned (.tuple #[.agg #[x, y], .int .i64 0]) ∧ Zc w' x y 1 ∧ Below w.heap.size w w' := by
  have e1 : ((({ data := #[49] } : ByteArray)).toList == [48]) = false := by decide +kernel
  obtain ⟨W0, hW0⟩ : ∃ W0, W0 = w.alloc (.cells #[.bool false, .slice none 0 0] 24) := ⟨_, rfl⟩
  have hb : Below w.heap.size w W0 := by rw [hW0]; exact (Below.refl _ _).alloc (Nat.le_refl _) _
  have tR : Two W0 w.heap.size (.bool false) (.slice none 0 0) := by rw [hW0]; exact Two.new w _ _ _
  have HW0 := Lib.hid hW0
  have HB := Lib.hid hb
  clear hW0 hb
  go_enter Try.func41, Try.ntmps41
  go_wp2_with fail
  rw [← HW0.out]
  refine (cut_1 _).mono ?_
  rintro e w' ⟨rfl, rfl⟩
  go_wp2_with fail
  refine (isDecimal_1 _).mono ?_
  rintro e w' ⟨rfl, rfl⟩
  go_wp2_with fail
  refine (magnitude_1 _).mono ?_
  rintro e V ⟨A, c, rfl, r1, l1, m1, bb⟩
  replace tR := tR.to bb
  replace HB := Lib.hid (HB.out.trans (bb.mono HB.out.size))
  have HI := Lib.hid (integer_l false r1 (Dg.one (by decide)) l1 m1)
  obtain ⟨z, ez⟩ : ∃ z : Int, Hid (z = 1) := ⟨_, rfl⟩
  rw [show zof false (val b32 [1]) = z from by rw [ez.out]; simp [zof, val]] at HI
  clear r1 l1 m1 bb e1
  go_wp2_with fail
  refine HI.out.mono ?_
  rintro e V2 ⟨A3, c3, rfl, s1, s2, s3, bb⟩
  replace tR := tR.to bb
  replace HB := Lib.hid (HB.out.trans (bb.mono HB.out.size))
  have RZ : Hid (Zc V2 (.bool (decide (z < 0))) (.slice A3 (dig b32 z.natAbs).length c3) z) := ⟨A3, c3, rfl, rfl, s1, s2, s3⟩
  obtain ⟨V3, eV, u, kp, _⟩ := pack2 tR Fs.nil (.bool (decide (z < 0))) (.slice A3 (dig b32 z.natAbs).length c3)
  obtain ⟨v0, v1, v2, v3, _⟩ := tR
  have EV := Lib.hid eV
  have KP := Lib.hid kp
  have U := Lib.hid u
  clear eV kp u s1 s2 s3 bb HI
  go_wp2
  rw [EV.out]
  refine bodyPost_ret (v := .tuple #[.agg #[.bool (decide (z < 0)), .slice A3 (dig b32 z.natAbs).length c3], .int .i64 0]) (by simp [results, Try.f41, go_sem, U.out.c0, U.out.c1]) rfl ?_
  have ez2 := ez.out
  subst ez2
  exact ⟨_, _, rfl, KP.out.zc _ _ _ RZ.out, KP.out.bel _ _ HB.out (Nat.le_refl _)⟩

theorem cut_2 (w : World) : Calls Try.prog 63 #[.string ⟨#[50]⟩, .string ⟨#[45]⟩] w fun e w' => e = .returned (.tuple #[.string ⟨#[50]⟩, .bool false]) ∧ w = w' := by
  have e1 : ((({ data := #[50] } : ByteArray).extract 0 1).toList == [45]) = false := by decide +kernel
  go_enter Try.func63, Try.ntmps63
  go_wp2
  go_ret2
  exact ⟨rfl, rfl⟩
set_option maxHeartbeats 1000000 in
theorem isDecimal_2 (w : World) : Calls Try.prog 64 #[.string ⟨#[50]⟩] w fun e w' => e = .returned (.bool true) ∧ w = w' := by
  have e1 : ((({ data := #[50] } : ByteArray)).toList == [48]) = false := by decide +kernel
  have e2 : ((({ data := #[50] } : ByteArray)).toList == []) = false := by decide +kernel
  have e3 : ((({ data := #[50] } : ByteArray)).toList != []) = true := by decide +kernel
  go_enter Try.func64, Try.ntmps64
  go_wp2
  refine wp_loop_rounds 2 ?_
  rw [rounds_succ]
  go_wp2
  rw [rounds_succ]
  go_wp2
  go_ret
  exact ⟨rfl, rfl⟩
set_option maxHeartbeats 1000000 in
theorem magnitude_2 (w : World) : Calls Try.prog 65 #[.string ⟨#[50]⟩] w fun e w' => ∃ A c, e = .returned (.slice A 1 c) ∧ Rd .u32 w' w'.heap.size A [2] ∧ 1 ≤ c ∧ c ≤ 9223372036854775807 ∧ Below w.heap.size w w' := by
  have HS := Lib.hid (sa_nil 10 2 (by decide) (by decide) (by decide) w)
  go_enter Try.func65, Try.ntmps65
  go_wp2
  refine wp_loop_rounds 2 ?_
  rw [rounds_succ]
  go_wp2_with fail
  refine HS.out.mono ?_
  rintro e w' ⟨A, c, rfl, h1, h2, h3, h4⟩
  have H1 := Lib.hid h1
  have H4 := Lib.hid h4
  clear h1 h4
  go_wp2
  rw [rounds_succ]
  go_wp2
  go_ret
  exact ⟨A, c, rfl, H1.out, h2, h3, H4.out⟩
set_option maxRecDepth 100000 in
set_option maxHeartbeats 2000000 in
theorem parse_2 (w : World) : Calls Try.prog 41 #[.string ⟨#[50]⟩] w fun e w' => ∃ x y, e = .returned (.tuple #[.agg #[x, y], .int .i64 0]) ∧ Zc w' x y 2 ∧ Below w.heap.size w w' := by
  have e1 : ((({ data := #[50] } : ByteArray)).toList == [48]) = false := by decide +kernel
  obtain ⟨W0, hW0⟩ : ∃ W0, W0 = w.alloc (.cells #[.bool false, .slice none 0 0] 24) := ⟨_, rfl⟩
  have hb : Below w.heap.size w W0 := by rw [hW0]; exact (Below.refl _ _).alloc (Nat.le_refl _) _
  have tR : Two W0 w.heap.size (.bool false) (.slice none 0 0) := by rw [hW0]; exact Two.new w _ _ _
  have HW0 := Lib.hid hW0
  have HB := Lib.hid hb
  clear hW0 hb
  go_enter Try.func41, Try.ntmps41
  go_wp2_with fail
  rw [← HW0.out]
  refine (cut_2 _).mono ?_
  rintro e w' ⟨rfl, rfl⟩
  go_wp2_with fail
  refine (isDecimal_2 _).mono ?_
  rintro e w' ⟨rfl, rfl⟩
  go_wp2_with fail
  refine (magnitude_2 _).mono ?_
  rintro e V ⟨A, c, rfl, r1, l1, m1, bb⟩
  replace tR := tR.to bb
  replace HB := Lib.hid (HB.out.trans (bb.mono HB.out.size))
  have HI := Lib.hid (integer_l false r1 (Dg.one (by decide)) l1 m1)
  obtain ⟨z, ez⟩ : ∃ z : Int, Hid (z = 2) := ⟨_, rfl⟩
  rw [show zof false (val b32 [2]) = z from by rw [ez.out]; simp [zof, val]] at HI
  clear r1 l1 m1 bb e1
  go_wp2_with fail
  refine HI.out.mono ?_
  rintro e V2 ⟨A3, c3, rfl, s1, s2, s3, bb⟩
  replace tR := tR.to bb
  replace HB := Lib.hid (HB.out.trans (bb.mono HB.out.size))
  have RZ : Hid (Zc V2 (.bool (decide (z < 0))) (.slice A3 (dig b32 z.natAbs).length c3) z) := ⟨A3, c3, rfl, rfl, s1, s2, s3⟩
  obtain ⟨V3, eV, u, kp, _⟩ := pack2 tR Fs.nil (.bool (decide (z < 0))) (.slice A3 (dig b32 z.natAbs).length c3)
  obtain ⟨v0, v1, v2, v3, _⟩ := tR
  have EV := Lib.hid eV
  have KP := Lib.hid kp
  have U := Lib.hid u
  clear eV kp u s1 s2 s3 bb HI
  go_wp2
  rw [EV.out]
  refine bodyPost_ret (v := .tuple #[.agg #[.bool (decide (z < 0)), .slice A3 (dig b32 z.natAbs).length c3], .int .i64 0]) (by simp [results, Try.f41, go_sem, U.out.c0, U.out.c1]) rfl ?_
  have ez2 := ez.out
  subst ez2
  exact ⟨_, _, rfl, KP.out.zc _ _ _ RZ.out, KP.out.bel _ _ HB.out (Nat.le_refl _)⟩

theorem cut_3 (w : World) : Calls Try.prog 63 #[.string ⟨#[51]⟩, .string ⟨#[45]⟩] w fun e w' => e = .returned (.tuple #[.string ⟨#[51]⟩, .bool false]) ∧ w = w' := by
  have e1 : ((({ data := #[51] } : ByteArray).extract 0 1).toList == [45]) = false := by decide +kernel
  go_enter Try.func63, Try.ntmps63
  go_wp2
  go_ret2
  exact ⟨rfl, rfl⟩
set_option maxHeartbeats 1000000 in
theorem isDecimal_3 (w : World) : Calls Try.prog 64 #[.string ⟨#[51]⟩] w fun e w' => e = .returned (.bool true) ∧ w = w' := by
  have e1 : ((({ data := #[51] } : ByteArray)).toList == [48]) = false := by decide +kernel
  have e2 : ((({ data := #[51] } : ByteArray)).toList == []) = false := by decide +kernel
  have e3 : ((({ data := #[51] } : ByteArray)).toList != []) = true := by decide +kernel
  go_enter Try.func64, Try.ntmps64
  go_wp2
  refine wp_loop_rounds 2 ?_
  rw [rounds_succ]
  go_wp2
  rw [rounds_succ]
  go_wp2
  go_ret
  exact ⟨rfl, rfl⟩
set_option maxHeartbeats 1000000 in
theorem magnitude_3 (w : World) : Calls Try.prog 65 #[.string ⟨#[51]⟩] w fun e w' => ∃ A c, e = .returned (.slice A 1 c) ∧ Rd .u32 w' w'.heap.size A [3] ∧ 1 ≤ c ∧ c ≤ 9223372036854775807 ∧ Below w.heap.size w w' := by
  have HS := Lib.hid (sa_nil 10 3 (by decide) (by decide) (by decide) w)
  go_enter Try.func65, Try.ntmps65
  go_wp2
  refine wp_loop_rounds 2 ?_
  rw [rounds_succ]
  go_wp2_with fail
  refine HS.out.mono ?_
  rintro e w' ⟨A, c, rfl, h1, h2, h3, h4⟩
  have H1 := Lib.hid h1
  have H4 := Lib.hid h4
  clear h1 h4
  go_wp2
  rw [rounds_succ]
  go_wp2
  go_ret
  exact ⟨A, c, rfl, H1.out, h2, h3, H4.out⟩
set_option maxRecDepth 100000 in
set_option maxHeartbeats 2000000 in
theorem parse_3 (w : World) : Calls Try.prog 41 #[.string ⟨#[51]⟩] w fun e w' => ∃ x y, e = .returned (.tuple #[.agg #[x, y], .int .i64 0]) ∧ Zc w' x y 3 ∧ Below w.heap.size w w' := by
  have e1 : ((({ data := #[51] } : ByteArray)).toList == [48]) = false := by decide +kernel
  obtain ⟨W0, hW0⟩ : ∃ W0, W0 = w.alloc (.cells #[.bool false, .slice none 0 0] 24) := ⟨_, rfl⟩
  have hb : Below w.heap.size w W0 := by rw [hW0]; exact (Below.refl _ _).alloc (Nat.le_refl _) _
  have tR : Two W0 w.heap.size (.bool false) (.slice none 0 0) := by rw [hW0]; exact Two.new w _ _ _
  have HW0 := Lib.hid hW0
  have HB := Lib.hid hb
  clear hW0 hb
  go_enter Try.func41, Try.ntmps41
  go_wp2_with fail
  rw [← HW0.out]
  refine (cut_3 _).mono ?_
  rintro e w' ⟨rfl, rfl⟩
  go_wp2_with fail
  refine (isDecimal_3 _).mono ?_
  rintro e w' ⟨rfl, rfl⟩
  go_wp2_with fail
  refine (magnitude_3 _).mono ?_
  rintro e V ⟨A, c, rfl, r1, l1, m1, bb⟩
  replace tR := tR.to bb
  replace HB := Lib.hid (HB.out.trans (bb.mono HB.out.size))
  have HI := Lib.hid (integer_l false r1 (Dg.one (by decide)) l1 m1)
  obtain ⟨z, ez⟩ : ∃ z : Int, Hid (z = 3) := ⟨_, rfl⟩
  rw [show zof false (val b32 [3]) = z from by rw [ez.out]; simp [zof, val]] at HI
  clear r1 l1 m1 bb e1
  go_wp2_with fail
  refine HI.out.mono ?_
  rintro e V2 ⟨A3, c3, rfl, s1, s2, s3, bb⟩
  replace tR := tR.to bb
  replace HB := Lib.hid (HB.out.trans (bb.mono HB.out.size))
  have RZ : Hid (Zc V2 (.bool (decide (z < 0))) (.slice A3 (dig b32 z.natAbs).length c3) z) := ⟨A3, c3, rfl, rfl, s1, s2, s3⟩
  obtain ⟨V3, eV, u, kp, _⟩ := pack2 tR Fs.nil (.bool (decide (z < 0))) (.slice A3 (dig b32 z.natAbs).length c3)
  obtain ⟨v0, v1, v2, v3, _⟩ := tR
  have EV := Lib.hid eV
  have KP := Lib.hid kp
  have U := Lib.hid u
  clear eV kp u s1 s2 s3 bb HI
  go_wp2
  rw [EV.out]
  refine bodyPost_ret (v := .tuple #[.agg #[.bool (decide (z < 0)), .slice A3 (dig b32 z.natAbs).length c3], .int .i64 0]) (by simp [results, Try.f41, go_sem, U.out.c0, U.out.c1]) rfl ?_
  have ez2 := ez.out
  subst ez2
  exact ⟨_, _, rfl, KP.out.zc _ _ _ RZ.out, KP.out.bel _ _ HB.out (Nat.le_refl _)⟩

theorem cut_4 (w : World) : Calls Try.prog 63 #[.string ⟨#[52]⟩, .string ⟨#[45]⟩] w fun e w' => e = .returned (.tuple #[.string ⟨#[52]⟩, .bool false]) ∧ w = w' := by
  have e1 : ((({ data := #[52] } : ByteArray).extract 0 1).toList == [45]) = false := by decide +kernel
  go_enter Try.func63, Try.ntmps63
  go_wp2
  go_ret2
  exact ⟨rfl, rfl⟩
set_option maxHeartbeats 1000000 in
theorem isDecimal_4 (w : World) : Calls Try.prog 64 #[.string ⟨#[52]⟩] w fun e w' => e = .returned (.bool true) ∧ w = w' := by
  have e1 : ((({ data := #[52] } : ByteArray)).toList == [48]) = false := by decide +kernel
  have e2 : ((({ data := #[52] } : ByteArray)).toList == []) = false := by decide +kernel
  have e3 : ((({ data := #[52] } : ByteArray)).toList != []) = true := by decide +kernel
  go_enter Try.func64, Try.ntmps64
  go_wp2
  refine wp_loop_rounds 2 ?_
  rw [rounds_succ]
  go_wp2
  rw [rounds_succ]
  go_wp2
  go_ret
  exact ⟨rfl, rfl⟩
set_option maxHeartbeats 1000000 in
theorem magnitude_4 (w : World) : Calls Try.prog 65 #[.string ⟨#[52]⟩] w fun e w' => ∃ A c, e = .returned (.slice A 1 c) ∧ Rd .u32 w' w'.heap.size A [4] ∧ 1 ≤ c ∧ c ≤ 9223372036854775807 ∧ Below w.heap.size w w' := by
  have HS := Lib.hid (sa_nil 10 4 (by decide) (by decide) (by decide) w)
  go_enter Try.func65, Try.ntmps65
  go_wp2
  refine wp_loop_rounds 2 ?_
  rw [rounds_succ]
  go_wp2_with fail
  refine HS.out.mono ?_
  rintro e w' ⟨A, c, rfl, h1, h2, h3, h4⟩
  have H1 := Lib.hid h1
  have H4 := Lib.hid h4
  clear h1 h4
  go_wp2
  rw [rounds_succ]
  go_wp2
  go_ret
  exact ⟨A, c, rfl, H1.out, h2, h3, H4.out⟩
set_option maxRecDepth 100000 in
set_option maxHeartbeats 2000000 in
theorem parse_4 (w : World) : Calls Try.prog 41 #[.string ⟨#[52]⟩] w fun e w' => ∃ x y, e = .returned (.tuple #[.agg #[x, y], .int .i64 0]) ∧ Zc w' x y 4 ∧ Below w.heap.size w w' := by
  have e1 : ((({ data := #[52] } : ByteArray)).toList == [48]) = false := by decide +kernel
  obtain ⟨W0, hW0⟩ : ∃ W0, W0 = w.alloc (.cells #[.bool false, .slice none 0 0] 24) := ⟨_, rfl⟩
  have hb : Below w.heap.size w W0 := by rw [hW0]; exact (Below.refl _ _).alloc (Nat.le_refl _) _
  have tR : Two W0 w.heap.size (.bool false) (.slice none 0 0) := by rw [hW0]; exact Two.new w _ _ _
  have HW0 := Lib.hid hW0
  have HB := Lib.hid hb
  clear hW0 hb
  go_enter Try.func41, Try.ntmps41
  go_wp2_with fail
  rw [← HW0.out]
  refine (cut_4 _).mono ?_
  rintro e w' ⟨rfl, rfl⟩
  go_wp2_with fail
  refine (isDecimal_4 _).mono ?_
  rintro e w' ⟨rfl, rfl⟩
  go_wp2_with fail
  refine (magnitude_4 _).mono ?_
  rintro e V ⟨A, c, rfl, r1, l1, m1, bb⟩
  replace tR := tR.to bb
  replace HB := Lib.hid (HB.out.trans (bb.mono HB.out.size))
  have HI := Lib.hid (integer_l false r1 (Dg.one (by decide)) l1 m1)
  obtain ⟨z, ez⟩ : ∃ z : Int, Hid (z = 4) := ⟨_, rfl⟩
  rw [show zof false (val b32 [4]) = z from by rw [ez.out]; simp [zof, val]] at HI
  clear r1 l1 m1 bb e1
  go_wp2_with fail
  refine HI.out.mono ?_
  rintro e V2 ⟨A3, c3, rfl, s1, s2, s3, bb⟩
  replace tR := tR.to bb
  replace HB := Lib.hid (HB.out.trans (bb.mono HB.out.size))
  have RZ : Hid (Zc V2 (.bool (decide (z < 0))) (.slice A3 (dig b32 z.natAbs).length c3) z) := ⟨A3, c3, rfl, rfl, s1, s2, s3⟩
  obtain ⟨V3, eV, u, kp, _⟩ := pack2 tR Fs.nil (.bool (decide (z < 0))) (.slice A3 (dig b32 z.natAbs).length c3)
  obtain ⟨v0, v1, v2, v3, _⟩ := tR
  have EV := Lib.hid eV
  have KP := Lib.hid kp
  have U := Lib.hid u
  clear eV kp u s1 s2 s3 bb HI
  go_wp2
  rw [EV.out]
  refine bodyPost_ret (v := .tuple #[.agg #[.bool (decide (z < 0)), .slice A3 (dig b32 z.natAbs).length c3], .int .i64 0]) (by simp [results, Try.f41, go_sem, U.out.c0, U.out.c1]) rfl ?_
  have ez2 := ez.out
  subst ez2
  exact ⟨_, _, rfl, KP.out.zc _ _ _ RZ.out, KP.out.bel _ _ HB.out (Nat.le_refl _)⟩

end Go.Proofs.Ytbpeekhbmabibaa

namespace Go.Proofs.Ytbpeekhbmabibaa
open Go.RowKit Go.Shelf

theorem Zi.k4 {g : Nat} {w V : World} {x y : Value} {z : Int} (h : Zi w x y z) (kp : Kept4 g w V) : Zi V x y z := kp.zi _ _ _ h

set_option maxRecDepth 100000 in
set_option maxHeartbeats 4000000 in
theorem upright_pos {w : World} {x1 y1 x2 y2 : Value} {p q : Int} (h1 : Zi w x1 y1 p) (h2 : Zi w x2 y2 q) (hq : 0 < q) :
    Calls Try.prog 33 #[.agg #[x1, y1, x2, y2]] w fun e w' => e = .returned (.agg #[x1, y1, x2, y2]) ∧ Below w.heap.size w w' := by
  obtain ⟨W0, hW0⟩ : ∃ W0, W0 = (w.alloc (.cells #[x1, y1, x2, y2] 26)).alloc (.cells #[.bool false, .slice none 0 0, .bool false, .slice none 0 0] 26) := ⟨_, rfl⟩
  have hbw : Below w.heap.size w W0 := by rw [hW0]; exact ((Below.refl _ _).alloc (Nat.le_refl _) _).alloc (by simp) _
  have tA : Four W0 w.heap.size x1 y1 x2 y2 := by rw [hW0]; exact (Four.new w _ _ _ _ _).alloc _
  have tR : Four W0 (w.heap.size + 1) (.bool false) (.slice none 0 0) (.bool false) (.slice none 0 0) := by
    have h := Four.new (w.alloc (.cells #[x1, y1, x2, y2] 26)) (.bool false) (.slice none 0 0) (.bool false) (.slice none 0 0) 26
    rw [World.size_alloc] at h
    rw [hW0]; exact h
  have HW0 := Lib.hid hW0
  have hB := h2.to hbw
  have HB := Lib.hid hbw
  have hs := Lib.hid (sgn_pos hq)
  have f1 := h1.fs
  have f2 := h2.fs
  clear h1 h2 hW0 hbw hq
  obtain ⟨n1, A1, l1, m1, rfl, rfl⟩ := f1
  obtain ⟨n2, A2, l2, m2, rfl, rfl⟩ := f2
  go_enter Try.func33, Try.ntmps33
  go_wp2_with fail
  rw [← HW0.out]
  have k0 := tA.c0
  have k1 := tA.c1
  have k2 := tA.c2
  have k3 := tA.c3
  go_wp2_with fail
  refine (sign_v hB hs.out).mono ?_
  rintro e V1 ⟨rfl, bb⟩
  replace tA := tA.to bb
  replace tR := tR.to bb
  replace HB := Lib.hid (HB.out.trans (bb.mono HB.out.size))
  clear k0 k1 k2 k3 bb hB
  have k0 := tA.c0
  have k1 := tA.c1
  have k2 := tA.c2
  have k3 := tA.c3
  obtain ⟨V3, eV, u, kp⟩ := pack4 tR Fq.nil (.bool n1) (.slice A1 l1 m1) (.bool n2) (.slice A2 l2 m2)
  obtain ⟨v0, v1, v2, v3, v4, v5, v6, v7, _⟩ := tR
  have EV := Lib.hid eV
  have KP := Lib.hid kp
  have U := Lib.hid u
  clear eV kp u
  go_wp2
  rw [EV.out]
  refine bodyPost_ret (v := .agg #[.bool n1, .slice A1 l1 m1, .bool n2, .slice A2 l2 m2]) (by simp [results, Try.f33, go_sem, U.out.c0, U.out.c1, U.out.c2, U.out.c3]) rfl ?_
  exact ⟨rfl, KP.out.bel _ _ HB.out (by omega)⟩

theorem Two.past {W : World} {g : Nat} {a b : Value} (h : Two W g a b) (o o' : Obj) : Two ((W.alloc o).alloc o') g a b := (h.alloc o).alloc o'

set_option maxRecDepth 100000 in
set_option maxHeartbeats 4000000 in
theorem floor_pos {w : World} {x1 y1 x2 y2 : Value} {p q : Int} (h1 : Zi w x1 y1 p) (h2 : Zi w x2 y2 q) (hq : 0 < q) (sp : Sg p) :
    Calls Try.prog 17 #[.agg #[x1, y1, x2, y2]] w (ZR w (p / q)) := by
  obtain ⟨W0, hW0⟩ : ∃ W0, W0 = (w.alloc (.cells #[x1, y1, x2, y2] 26)).alloc (.cells #[.bool false, .slice none 0 0] 24) := ⟨_, rfl⟩
  have hbw : Below w.heap.size w W0 := by rw [hW0]; exact ((Below.refl _ _).alloc (Nat.le_refl _) _).alloc (by simp) _
  have tA : Four W0 w.heap.size x1 y1 x2 y2 := by rw [hW0]; exact (Four.new w _ _ _ _ _).alloc _
  have tR : Two W0 (w.heap.size + 1) (.bool false) (.slice none 0 0) := by
    have h := Two.new (w.alloc (.cells #[x1, y1, x2, y2] 26)) (.bool false) (.slice none 0 0) 24
    rw [World.size_alloc] at h
    rw [hW0]; exact h
  have HW0 := Lib.hid hW0
  have hA := h1.to hbw
  have hB := h2.to hbw
  have HB := Lib.hid hbw
  have HQ := Lib.hid hq
  have HSP := Lib.hid sp
  have f1 := h1.fs
  have f2 := h2.fs
  clear h1 h2 hW0 hbw hq sp
  obtain ⟨n1, A1, l1, m1, rfl, rfl⟩ := f1
  obtain ⟨n2, A2, l2, m2, rfl, rfl⟩ := f2
  go_enter Try.func17, Try.ntmps17
  go_wp2_with fail
  rw [← HW0.out]
  have k0 := tA.c0
  have k1 := tA.c1
  have k2 := tA.c2
  have k3 := tA.c3
  go_wp2_with fail
  refine (upright_pos hA hB HQ.out).mono ?_
  rintro e V1 ⟨rfl, bb⟩
  replace tR := tR.to bb
  replace hA := hA.to bb
  replace hB := hB.to bb
  replace HB := Lib.hid (HB.out.trans (bb.mono HB.out.size))
  clear k0 k1 k2 k3 bb tA
  have bb := one4_new V1 (.cells #[.bool n1, .slice A1 l1 m1, .bool n2, .slice A2 l2 m2] 26)
  have t3 := Four.new V1 (.bool n1) (.slice A1 l1 m1) (.bool n2) (.slice A2 l2 m2) 26
  replace tR := tR.to bb
  replace hA := hA.to bb
  replace hB := hB.to bb
  replace HB := Lib.hid (HB.out.trans (bb.mono HB.out.size))
  clear bb
  have k0 := t3.c0
  have k1 := t3.c1
  have k2 := t3.c2
  have k3 := t3.c3
  go_wp2_with fail
  clear k0 k1 k2 k3 t3
  refine (dm_z hA hB (by have := HQ.out; omega) HSP.out).mono ?_
  rintro e V2 ⟨A3, c3, A4, c4, rfl, r1, r2, e1, e2, e3, e4, bb⟩
  replace tR := tR.to bb
  replace HB := Lib.hid (HB.out.trans (bb.mono HB.out.size))
  have rz : Zc V2 (.bool (decide (p / q < 0))) (.slice A3 (dig b32 (p / q).natAbs).length c3) (p / q) := ⟨A3, c3, rfl, rfl, r1, e1, e2⟩
  clear bb r1 r2 e1 e2 e3 e4 hA hB
  obtain ⟨z, ez⟩ : ∃ z, Hid (p / q = z) := ⟨_, rfl⟩
  obtain ⟨z2, ez2⟩ : ∃ z, Hid (p % q = z) := ⟨_, rfl⟩
  rw [ez.out] at rz ⊢
  rw [ez2.out]
  have b2 : Below V2.heap.size V2 ((V2.alloc (.cells #[.bool (decide (z < 0)), .slice A3 (dig b32 z.natAbs).length c3] 24)).alloc (.cells #[.bool (decide (z2 < 0)), .slice A4 (dig b32 z2.natAbs).length c4] 24)) := ((Below.refl _ _).alloc (Nat.le_refl _) _).alloc (by simp) _
  replace tR := tR.to b2
  replace rz := rz.to b2
  replace HB := Lib.hid (HB.out.trans (b2.mono HB.out.size))
  obtain ⟨V3, eV, u, kp, _⟩ := pack2 tR Fs.nil (.bool (decide (z < 0))) (.slice A3 (dig b32 z.natAbs).length c3)
  obtain ⟨v0, v1, v2, v3, _⟩ := tR
  have EV := Lib.hid eV
  have KP := Lib.hid kp
  have U := Lib.hid u
  have RZ := Lib.hid rz
  clear eV kp u b2 rz
  go_wp2
  rw [EV.out]
  refine bodyPost_ret (v := .agg #[.bool (decide (z < 0)), .slice A3 (dig b32 z.natAbs).length c3]) (by simp [results, Try.f17, go_sem, U.out.c0, U.out.c1]) rfl ?_
  rw [ez.out]
  exact ⟨_, _, rfl, KP.out.zc _ _ _ RZ.out, KP.out.bel _ _ HB.out (by omega)⟩
end Go.Proofs.Ytbpeekhbmabibaa
