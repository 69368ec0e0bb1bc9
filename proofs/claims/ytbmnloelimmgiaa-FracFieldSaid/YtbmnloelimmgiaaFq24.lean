/- Parts: Args, ArgsQ. -/
import Derived.Test.YtbmnloelimmgiaaFq6
import Derived.Test.YtbmnloelimmgiaaFq16
import Derived.Below
import Derived.ChangeOld
import Derived.Lib.SmallJoins
import Derived.OpenShut
import Derived.ProofKit
import Derived.ShutString
import Derived.WalkKit
set_option linter.unusedVariables false
set_option linter.unusedSimpArgs false

namespace Go.Proofs.Ytbmnloelimmgiaa
set_option maxRecDepth 100000
open Go.ChangeShapes Go.WideShapes Go.ChangeAt Go.RowKit Go.Joins

theorem cellsZ : Try.prog.cellsOf 24 = 2 := by kernel_rfl
theorem cellsU : Try.prog.cellsOf 73 = 1 := by kernel_rfl
theorem laidOut : laidOutB Try.prog = true := by kernel_rfl
theorem own : ownKnob Try.prog.godebug = none := by kernel_rfl

theorem nats_of {zs : List Int} (h : ∀ n ∈ zs, (Lit.int .u32 n).wf = true) : ∃ xs : List Nat, zs = xs.map (fun n : Nat => (n : Int)) ∧ Dg b32 xs := by
  induction zs with
  | nil => exact ⟨[], rfl, fun d hd => by cases hd⟩
  | cons z zs ih =>
    obtain ⟨xs, rfl, hx⟩ := ih (fun n hn => h n (List.mem_cons_of_mem _ hn))
    have hz := h z List.mem_cons_self
    have hz' := bounds_u32 hz
    exact ⟨z.toNat :: xs, by simp; omega, Dg.cons (by unfold b32; omega) hx⟩

/-- What an argument that is an integer holds: a flag, and words, all read from the world; whatever its form. -/
theorem open_z {H : Type} {enc : TypeId × Value → H} {W : World} {base : Nat} {spare : Nat → Bool} {held : Bool} {r : Reach} {b0 : Nat} {v : Value} {d : DataW H} {p : List MemPlace}
    (hs : ∀ b, spare b = true) (hv : Value.okWide Try.prog W r b0 24 v) (h : DataW.Trod enc Try.prog W base spare held 24 v d p) :
    ∃ n A c xs, v = .agg #[.bool n, .slice A xs.length c] ∧ Rd .u32 W W.heap.size A xs ∧ Dg b32 xs ∧ xs.length ≤ c ∧ c ≤ 9223372036854775807 := by
  obtain ⟨c0, c1, y0, y1, m, rfl, _, _, hy0, hy1⟩ := open_agg2 Try.underlying24 (by kernel_rfl) cellsZ hv h
  obtain ⟨n, hc0, _⟩ := DataW.trod_bool Try.underlying4 hy0
  obtain rfl : c0 = .bool n := by simpa using hc0
  rcases open_ints Try.underlying22 Try.underlying73 cellsU hy1 with ⟨hcs, _⟩ | ⟨x, l, c, zs, hcs, _, hl, hm, hz, _, hcell, hwz⟩
  · obtain rfl : c1 = .slice none 0 0 := by simpa using hcs
    exact ⟨n, none, 0, [], rfl, Rd.nil, Dg.nil, Nat.le_refl _, by decide⟩
  · obtain rfl : c1 = .slice (some x) l c := by simpa using hcs
    rw [hs, if_pos rfl] at hz
    obtain ⟨xs, rfl, hx⟩ := nats_of hwz
    rw [List.length_map] at hz
    have hlen : (xs.take l).length = l := by rw [List.length_take]; omega
    refine ⟨n, some x, c, xs.take l, by rw [hlen], ?_, hx.take l, by rw [hlen]; exact hl, Nat.le_trans hm (by decide)⟩
    intro k hk
    rw [hlen] at hk
    obtain ⟨b, off, rfl, hc⟩ := Go.ints_at hcell (by rw [List.length_map]; omega)
    have hck := hc k (by rw [List.length_map]; omega)
    refine ⟨b, off, rfl, World.block_lt_of_cell? W _ hck, ?_⟩
    rw [hck]
    have hk' : k < xs.length := by omega
    simp [hk']
end Go.Proofs.Ytbmnloelimmgiaa

namespace Go.Proofs.Ytbmnloelimmgiaa
set_option maxRecDepth 100000
open Go.ChangeShapes Go.WideShapes Go.ChangeAt Go.RowKit Go.Joins

theorem cellsB : Try.prog.cellsOf 4 = 1 := by kernel_rfl
theorem cellsS : Try.prog.cellsOf 22 = 1 := by kernel_rfl
theorem cellsQ : Try.prog.cellsOf 26 = 4 := by kernel_rfl

/-- Cells that read as an integer. -/
def Zx2 (W : World) (x y : Value) : Prop := ∃ n A c xs, x = .bool n ∧ y = .slice A xs.length c ∧ Rd .u32 W W.heap.size A xs ∧ Dg b32 xs ∧ xs.length ≤ c ∧ c ≤ 9223372036854775807

theorem trod_z {H : Type} {enc : TypeId × Value → H} {W : World} {base : Nat} {spare : Nat → Bool} {held : Bool} {fuel : Nat} {c0 c1 : Value} {x : DataW H × List MemPlace}
    (hs : ∀ b, spare b = true) (h : DataW.trod enc Try.prog W base spare held fuel 24 [c0, c1] = some x) : Zx2 W c0 c1 := by
  obtain ⟨y0, y1, m, hx, _, h0, h1⟩ := trod_struct2 (f0 := _) (f1 := _) (show Try.prog.underlying 24 = _ from Try.underlying24) h
  replace h0 : DataW.trod enc Try.prog W base spare held m 4 [c0] = some y0 := by
    rw [show Try.prog.cellsOf _ = 1 from cellsB] at h0
    simpa using h0
  replace h1 : DataW.trod enc Try.prog W base spare held m 22 [c1] = some y1 := by
    rw [show Try.prog.cellsOf _ = 1 from cellsS] at h1
    simpa using h1
  obtain ⟨n, hc0, _⟩ := DataW.trod_bool Try.underlying4 h0
  obtain rfl : c0 = .bool n := by simpa using hc0
  rcases open_ints Try.underlying22 Try.underlying73 cellsU h1 with ⟨hcs, _⟩ | ⟨x, l, c, zs, hcs, _, hl, hm, hz, _, hcell, hwz⟩
  · obtain rfl : c1 = .slice none 0 0 := by simpa using hcs
    exact ⟨n, none, 0, [], rfl, rfl, Rd.nil, Dg.nil, Nat.le_refl _, by decide⟩
  · obtain rfl : c1 = .slice (some x) l c := by simpa using hcs
    rw [hs, if_pos rfl] at hz
    obtain ⟨xs, rfl, hx⟩ := nats_of hwz
    rw [List.length_map] at hz
    have hlen : (xs.take l).length = l := by rw [List.length_take]; omega
    refine ⟨n, some x, c, xs.take l, rfl, by rw [hlen], ?_, hx.take l, by rw [hlen]; exact hl, Nat.le_trans hm (by decide)⟩
    intro k hk
    rw [hlen] at hk
    obtain ⟨b, off, rfl, hc⟩ := Go.ints_at hcell (by rw [List.length_map]; omega)
    have hck := hc k (by rw [List.length_map]; omega)
    refine ⟨b, off, rfl, World.block_lt_of_cell? W _ hck, ?_⟩
    rw [hck]
    have hk' : k < xs.length := by omega
    simp [hk']

theorem array4 {α : Type} {cs : Array α} (h : cs.size = 4) : ∃ c0 c1 c2 c3, cs = #[c0, c1, c2, c3] := by
  obtain ⟨l⟩ := cs
  match l, h with
  | [c0, c1, c2, c3], _ => exact ⟨c0, c1, c2, c3, rfl⟩

/-- Four cells that read as a rational. -/
theorem trod_q {H : Type} {enc : TypeId × Value → H} {W : World} {base : Nat} {spare : Nat → Bool} {held : Bool} {fuel : Nat} {c0 c1 c2 c3 : Value} {x : DataW H × List MemPlace}
    (hs : ∀ b, spare b = true) (h : DataW.trod enc Try.prog W base spare held fuel 26 [c0, c1, c2, c3] = some x) : Zx2 W c0 c1 ∧ Zx2 W c2 c3 := by
  obtain ⟨y0, y1, m, hx, _, h0, h1⟩ := trod_struct2 (f0 := _) (f1 := _) (show Try.prog.underlying 26 = _ from Try.underlying26) h
  replace h0 : DataW.trod enc Try.prog W base spare held m 24 [c0, c1] = some y0 := by
    rw [show Try.prog.cellsOf _ = 2 from cellsZ] at h0
    simpa using h0
  replace h1 : DataW.trod enc Try.prog W base spare held m 24 [c2, c3] = some y1 := by
    rw [show Try.prog.cellsOf _ = 2 from cellsZ] at h1
    simpa using h1
  exact ⟨trod_z hs h0, trod_z hs h1⟩

/-- What an argument that is a rational holds. -/
theorem open_q {H : Type} {enc : TypeId × Value → H} {W : World} {base : Nat} {spare : Nat → Bool} {held : Bool} {r : Reach} {b0 : Nat} {v : Value} {d : DataW H} {p : List MemPlace}
    (hs : ∀ b, spare b = true) (hv : Value.okWide Try.prog W r b0 26 v) (h : DataW.Trod enc Try.prog W base spare held 26 v d p) :
    ∃ c0 c1 c2 c3, v = .agg #[c0, c1, c2, c3] ∧ Zx2 W c0 c1 ∧ Zx2 W c2 c3 := by
  obtain ⟨cs, rfl, hsz⟩ := okWide_struct Try.underlying26 hv
  obtain ⟨c0, c1, c2, c3, rfl⟩ := array4 (hsz.trans cellsQ)
  obtain ⟨fuel, hf⟩ := h
  exact ⟨c0, c1, c2, c3, rfl, trod_q hs hf⟩
end Go.Proofs.Ytbmnloelimmgiaa
