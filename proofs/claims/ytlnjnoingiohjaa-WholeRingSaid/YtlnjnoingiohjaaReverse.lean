/- slices.Reverse over bytes. -/
import Derived.Test.YtlnjnoingiohjaaBuf
import Derived.Test.YtlnjnoingiohjaaDivide
namespace Go.Proofs.Ytlnjnoingiohjaa
open Go.RowKit Go.Shelf

/-- The row when k pairs from its ends have changed places. -/
def revK (xs : List Nat) (k : Nat) : List Nat := (List.range xs.length).map fun i => if i < k ∨ xs.length - 1 - i < k then xs.getD (xs.length - 1 - i) 0 else xs.getD i 0

theorem revK_length (xs : List Nat) (k : Nat) : (revK xs k).length = xs.length := by simp [revK]
theorem revK_at (xs : List Nat) (k i : Nat) (h : i < (revK xs k).length) : (revK xs k)[i] = if i < k ∨ xs.length - 1 - i < k then xs.getD (xs.length - 1 - i) 0 else xs.getD i 0 := by simp [revK]

theorem revK_zero (xs : List Nat) : revK xs 0 = xs := by
  apply List.ext_getElem (revK_length xs 0)
  intro i h1 h2
  rw [revK_at, if_neg (by omega), getD_at h2]

theorem revK_all (xs : List Nat) (k : Nat) (h : xs.length ≤ 2 * k + 1) : revK xs k = xs.reverse := by
  apply List.ext_getElem (by rw [revK_length, List.length_reverse])
  intro i h1 h2
  rw [List.length_reverse] at h2
  rw [revK_at, List.getElem_reverse]
  split
  · exact getD_at (by omega)
  · have e : xs.length - 1 - i = i := by omega
    rw [getD_at h2]
    simp only [e]

theorem revK_step (xs : List Nat) (k : Nat) (h : k < xs.length - 1 - k) : revK xs (k + 1) = ((revK xs k).set k (xs.getD (xs.length - 1 - k) 0)).set (xs.length - 1 - k) (xs.getD k 0) := by
  apply List.ext_getElem (by simp [revK_length])
  intro i h1 h2
  rw [revK_length] at h1
  rw [revK_at, List.getElem_set, List.getElem_set, revK_at]
  by_cases e1 : xs.length - 1 - k = i
  · subst e1
    rw [if_pos rfl, if_pos (by omega)]
    congr 1
    omega
  · rw [if_neg e1]
    by_cases e2 : k = i
    · subst e2
      rw [if_pos rfl, if_pos (by omega)]
    · rw [if_neg e2]
      by_cases e3 : i < k ∨ xs.length - 1 - i < k
      · rw [if_pos e3, if_pos (by omega)]
      · rw [if_neg e3, if_neg (by omega)]

set_option maxRecDepth 100000 in
set_option maxHeartbeats 4000000 in
theorem reverse_any (g sz c : Nat) (xs : List Nat) (w : World) (hb : Buf .u8 5 g sz xs w) (hxc : xs.length ≤ c) (hc : c ≤ 9223372036854775807) :
    Calls Try.prog 65 #[.slice (some ⟨g, 0, none⟩) xs.length c] w fun e w' => (∃ v, e = .returned v) ∧ Buf .u8 5 g sz xs.reverse w' ∧ w.grownBy w' (some g) := by
  go_enter Try.func65, Try.ntmps65
  go_wp2
  go_loopw [2, 3] (fun i j wr => ∃ (k : Nat) (j' : Int), i = .int .i64 (k : Nat) ∧ j = .int .i64 j' ∧ j' = (xs.length : Int) - 1 - k ∧ 2 * k ≤ xs.length + 1 ∧ Buf .u8 5 g sz (revK xs k) wr ∧ w.grownBy wr (some g)) (fun i j _ => (intOf j + 1).toNat)
  case atStart => exact ⟨0, _, rfl, rfl, by simp, by omega, by rw [revK_zero]; exact hb, World.grownBy.refl _ _⟩
  case round =>
    obtain ⟨k, j', rfl, rfl, hj, hk, hbf, hgr⟩ := hrel
    by_cases hlt : (k : Int) < j'
    · obtain ⟨m, hm⟩ : ∃ m, xs.length - 1 - k = m := ⟨_, rfl⟩
      obtain rfl : j' = (m : Int) := by omega
      have hkm : k < m := by omega
      have HST := Lib.hid (revK_step xs k (by omega))
      rw [hm] at HST
      have c1 := hbf.cell (j := k) (by rw [revK_length]; omega)
      have c2 := hbf.cell (j := m) (by rw [revK_length]; omega)
      rw [revK_at, if_neg (by omega)] at c1
      rw [revK_at, if_neg (by omega)] at c2
      have f1 := hbf.frozen k
      have f2 := hbf.frozen m
      obtain ⟨p, HP⟩ : ∃ p, Hid (xs.getD k 0 = p) := ⟨_, rfl⟩
      obtain ⟨q, HQ⟩ : ∃ q, Hid (xs.getD m 0 = q) := ⟨_, rfl⟩
      rw [HP.out] at HST c1
      rw [HQ.out] at HST c2
      have hb2 := (hbf.kept (w' := wr.drew) (Grown.drew (World.grownBy.refl wr none)) (by simp)).set k q
      have c3 := hb2.cell (j := m) (by rw [List.length_set, revK_length]; omega)
      have f3 := hb2.frozen m
      obtain ⟨o, HO⟩ : ∃ o, ((revK xs k).set k q)[m]'(by rw [List.length_set, revK_length]; omega) = o := ⟨_, rfl⟩
      rw [HO] at c3
      have FIN : Buf .u8 5 g sz (revK xs (k + 1)) ((wr.drew.setCell ⟨g, k, none⟩ (.int .u8 (q : Nat))).setCell ⟨g, m, none⟩ (.int .u8 (p : Nat))) ∧ w.grownBy ((wr.drew.setCell ⟨g, k, none⟩ (.int .u8 (q : Nat))).setCell ⟨g, m, none⟩ (.int .u8 (p : Nat))) (some g) := by
        rw [HST.out]
        exact ⟨hb2.set m p, Grown.trans (Grown.trans (Grown.drew hgr) (grownBy_at _ _ _ _)) (grownBy_at _ _ _ _)⟩
      have FINH := Lib.hid FIN
      have hk0 : (0 : Int) ≤ (k : Int) := by omega
      have hk1 : (k : Int) < (xs.length : Int) := by omega
      have hm0 : (0 : Int) ≤ (m : Int) := by omega
      have hm1 : (m : Int) < (xs.length : Int) := by omega
      have HJ := Lib.hid hj
      have HM := Lib.hid hm
      clear FIN HO hb2 hbf hgr HST HP HQ hb hj hm
      go_wp2_with fail
      refine wp_region_any (by kernel_rfl) ?_
      refine (show wpAny _ _ _ _ _ _ _ (World.drew _) from ?_)
      refine wpAny_take (i := 0) (v := .slice (some ⟨g, 0, none⟩) xs.length c) rfl (by kernel_rfl) (by kernel_rfl) (by kernel_rfl) (fun _ _ _ h => h) (Or.inl ⟨by rfl, fun _ => by go_simp⟩) ?_
      refine wpAny_take (i := 1) (v := .int .i64 (k : Nat)) rfl (by kernel_rfl) (by kernel_rfl) (by kernel_rfl) (fun _ _ _ h => h) (Or.inl ⟨by rfl, fun _ => by go_simp⟩) ?_
      refine wpAny_take (i := 4) (v := .slice (some ⟨g, 0, none⟩) xs.length c) rfl (by kernel_rfl) (by kernel_rfl) (by kernel_rfl) (fun _ _ _ h => h) (Or.inl ⟨by rfl, fun _ => by go_simp⟩) ?_
      refine wpAny_take (i := 5) (v := .int .i64 (m : Nat)) rfl (by kernel_rfl) (by kernel_rfl) (by kernel_rfl) (fun _ _ _ h => h) (Or.inl ⟨by rfl, fun _ => by go_simp⟩) ?_
      refine wpAny_take (i := 8) (v := .slice (some ⟨g, 0, none⟩) xs.length c) rfl (by kernel_rfl) (by kernel_rfl) (by kernel_rfl) (fun _ _ _ h => h) (Or.inl ⟨by rfl, fun _ => by go_simp⟩) ?_
      refine wpAny_take (i := 9) (v := .int .i64 (k : Nat)) rfl (by kernel_rfl) (by kernel_rfl) (by kernel_rfl) (fun _ _ _ h => h) (Or.inl ⟨by rfl, fun _ => by go_simp⟩) ?_
      refine wpAny_take (i := 2) (v := .slice (some ⟨g, 0, none⟩) xs.length c) rfl (by kernel_rfl) (by kernel_rfl) (by kernel_rfl) (fun _ _ _ h => h) (Or.inl ⟨by rfl, fun _ => by go_simp⟩) ?_
      refine wpAny_take (i := 3) (v := .int .i64 (m : Nat)) rfl (by kernel_rfl) (by kernel_rfl) (by kernel_rfl) (fun _ _ _ h => h) (Or.inl ⟨by rfl, fun _ => by go_simp⟩) ?_
      refine wpAny_take (i := 6) (v := .pointer (some ⟨g, m, none⟩)) rfl (by kernel_rfl) (by kernel_rfl) (by kernel_rfl) (fun _ _ _ h => h) (Or.inl ⟨by rfl, fun _ => by go_simp⟩) ?_
      refine wpAny_take (i := 10) (v := .pointer (some ⟨g, k, none⟩)) rfl (by kernel_rfl) (by kernel_rfl) (by kernel_rfl) (fun _ _ _ h => h) (Or.inl ⟨by rfl, fun _ => by go_simp⟩) ?_
      refine wpAny_ready (rs := [7, 11]) (by kernel_rfl) (by simp) (AllReady.cons rfl (fun K hK => ?_) (AllReady.cons rfl (fun K hK => ?_) AllReady.nil))
      · go_simp; refine hK _ _ ?_; clear hK K
        refine wpAny_ready (rs := [11]) (by kernel_rfl) (by simp) (AllReady.cons rfl (fun K hK => ?_) AllReady.nil)
        go_simp; refine hK _ _ ?_; clear hK K
        refine wpAny_ready (rs := [12]) (by kernel_rfl) (by simp) (AllReady.cons rfl (fun K hK => ?_) AllReady.nil)
        go_simp; refine hK _ _ ?_; clear hK K
        refine wpAny_ready (rs := [13]) (by kernel_rfl) (by simp) (AllReady.cons rfl (fun K hK => ?_) AllReady.nil)
        go_simp; refine hK _ _ ?_; clear hK K
        refine wpAny_ready (rs := [14]) (by kernel_rfl) (by simp) (AllReady.cons rfl (fun K hK => ?_) AllReady.nil)
        go_simp; refine hK _ _ ?_; clear hK K
        refine wpAny_ready (rs := [15]) (by kernel_rfl) (by simp) (AllReady.cons rfl (fun K hK => ?_) AllReady.nil)
        go_simp; refine hK _ _ ?_; clear hK K
        refine wpAny_done (by kernel_rfl) ?_ _
        go_wp2
        go_roundw
        case rel => exact ⟨k + 1, _, by simp, rfl, by have := HJ.out; omega, by have := HM.out; omega, FINH.out.1, FINH.out.2⟩
        case measure => simp [intOf]
      · go_simp; refine hK _ _ ?_; clear hK K
        refine wpAny_ready (rs := [7]) (by kernel_rfl) (by simp) (AllReady.cons rfl (fun K hK => ?_) AllReady.nil)
        go_simp; refine hK _ _ ?_; clear hK K
        refine wpAny_ready (rs := [12]) (by kernel_rfl) (by simp) (AllReady.cons rfl (fun K hK => ?_) AllReady.nil)
        go_simp; refine hK _ _ ?_; clear hK K
        refine wpAny_ready (rs := [13]) (by kernel_rfl) (by simp) (AllReady.cons rfl (fun K hK => ?_) AllReady.nil)
        go_simp; refine hK _ _ ?_; clear hK K
        refine wpAny_ready (rs := [14]) (by kernel_rfl) (by simp) (AllReady.cons rfl (fun K hK => ?_) AllReady.nil)
        go_simp; refine hK _ _ ?_; clear hK K
        refine wpAny_ready (rs := [15]) (by kernel_rfl) (by simp) (AllReady.cons rfl (fun K hK => ?_) AllReady.nil)
        go_simp; refine hK _ _ ?_; clear hK K
        refine wpAny_done (by kernel_rfl) ?_ _
        go_wp2
        go_roundw
        case rel => exact ⟨k + 1, _, by simp, rfl, by have := HJ.out; omega, by have := HM.out; omega, FINH.out.1, FINH.out.2⟩
        case measure => simp [intOf]
    · have HR := Lib.hid (revK_all xs k (by omega))
      rw [HR.out] at hbf
      have HB := Lib.hid hbf
      have HG := Lib.hid hgr
      clear hbf hgr hb
      go_wp2
      go_end0
      exact ⟨⟨_, rfl⟩, HB.out, HG.out⟩
end Go.Proofs.Ytlnjnoingiohjaa
