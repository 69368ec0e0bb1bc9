/- Parts: Args. -/
import Derived.Test.YtoaghihhobggoaaDv10
import Derived.Below
import Derived.ChangeOld
import Derived.Lib.SmallJoins
import Derived.OpenShut
import Derived.ProofKit
import Derived.ShutString
import Derived.WalkKit
set_option linter.unusedVariables false
set_option linter.unusedSimpArgs false

namespace Go.Proofs.Ytoaghihhobggoaa
open Go.ChangeShapes Go.WideShapes Go.ChangeAt Go.RowKit Go.Joins

theorem cellsZ : Try.prog.cellsOf 24 = 2 := by kernel_rfl
theorem cellsU : Try.prog.cellsOf 52 = 1 := by kernel_rfl
theorem laidOut : laidOutB Try.prog = true := by kernel_rfl
theorem own : ownKnob Try.prog.godebug = none := by kernel_rfl

theorem nats_of {zs : List Int} (h : ∀ n ∈ zs, (Lit.int .u32 n).wf = true) : ∃ xs : List Nat, zs = xs.map (fun n : Nat => (n : Int)) ∧ Dg b32 xs := by
  induction zs with
  | nil => exact ⟨[], rfl, fun d hd => by cases hd⟩
  | cons z zs ih =>
    obtain ⟨xs, rfl, hx⟩ := ih (fun n hn => h n (List.mem_cons_of_mem _ hn))
    have hz := h z List.mem_cons_self
    have hz' := bounds_u32 hz
    exact ⟨z.toNat :: xs, by simp; omega, Dg.cons (by unfold b32; omega) hx⟩

set_option maxRecDepth 100000 in
/-- What an argument that is an integer holds: a flag, and words, all read from the world; whatever its form. -/
theorem open_z {H : Type} {enc : TypeId × Value → H} {W : World} {base : Nat} {spare : Nat → Bool} {held : Bool} {r : Reach} {b0 : Nat} {v : Value} {d : DataW H} {p : List MemPlace}
    (hs : ∀ b, spare b = true) (hv : Value.okWide Try.prog W r b0 24 v) (h : DataW.Trod enc Try.prog W base spare held 24 v d p) :
    ∃ n A c xs, v = .agg #[.bool n, .slice A xs.length c] ∧ Rd .u32 W W.heap.size A xs ∧ Dg b32 xs ∧ xs.length ≤ c ∧ c ≤ 9223372036854775807 := by
  obtain ⟨c0, c1, y0, y1, m, rfl, _, _, hy0, hy1⟩ := open_agg2 Try.underlying24 (by kernel_rfl) cellsZ hv h
  obtain ⟨n, hc0, _⟩ := DataW.trod_bool Try.underlying4 hy0
  obtain rfl : c0 = .bool n := by simpa using hc0
  rcases open_ints Try.underlying22 Try.underlying52 cellsU hy1 with ⟨hcs, _⟩ | ⟨x, l, c, zs, hcs, _, hl, hm, hz, _, hcell, hwz⟩
  · obtain rfl : c1 = .slice none 0 0 := by simpa using hcs
    exact ⟨n, none, 0, [], rfl, Rd.nil, Dg.nil, Nat.le_refl _, by decide⟩
  · obtain rfl : c1 = .slice (some x) l c := by simpa using hcs
    rw [hs, if_pos rfl] at hz
    obtain ⟨xs, rfl, hx⟩ := nats_of hwz
    rw [List.length_map] at hz
    have hlen : (xs.take l).length = l := by rw [List.length_take]; omega
    refine ⟨n, some x, c, xs.take l, by rw [hlen], ?_, hx.take l, by rw [hlen]; exact hl, Nat.le_trans hm (by decide)⟩
    intro k hk
    rw [hlen] at hk
    obtain ⟨b, off, rfl, hc⟩ := Go.ints_at hcell (by rw [List.length_map]; omega)
    have hck := hc k (by rw [List.length_map]; omega)
    refine ⟨b, off, rfl, World.block_lt_of_cell? W _ hck, ?_⟩
    rw [hck]
    have hk' : k < xs.length := by omega
    simp [hk']
end Go.Proofs.Ytoaghihhobggoaa
