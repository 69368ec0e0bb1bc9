/- Steps of a walk: a variable that is made, a variable that is written. -/
import Derived.Test.YtlnjnoingiohjaaZ
import Derived.Test.YtlnjnoingiohjaaDivMod
namespace Go.Proofs.Ytlnjnoingiohjaa
open Go.RowKit Go.Shelf

/-- A variable that holds an integer in whatever form. -/
structure Zb (W : World) (g : Nat) (x y : Value) (z : Int) : Prop where
  two : Two W g x y
  zi : Zi W x y z
/-- A variable that holds an integer in canonical form. -/
structure Cb (W : World) (g : Nat) (x y : Value) (z : Int) : Prop where
  two : Two W g x y
  zc : Zc W x y z

theorem Zb.to {W V : World} {g : Nat} {x y : Value} {z : Int} (h : Zb W g x y z) (hb : Below W.heap.size W V) : Zb V g x y z := ⟨h.two.to hb, h.zi.to hb⟩
theorem Cb.to {W V : World} {g : Nat} {x y : Value} {z : Int} (h : Cb W g x y z) (hb : Below W.heap.size W V) : Cb V g x y z := ⟨h.two.to hb, h.zc.to hb⟩

/-- What a store into a variable that holds no number leaves as it was. -/
structure Kept (g : Nat) (w V : World) : Prop where
  two : ∀ g' u v, g' ≠ g → Two w g' u v → Two V g' u v
  zc : ∀ x y z, Zc w x y z → Zc V x y z
  zi : ∀ x y z, Zi w x y z → Zi V x y z
  bel : ∀ B w0, Below B w0 w → B ≤ g → Below B w0 V
  size : V.heap.size = w.heap.size

theorem Rd.set2' {kd : IntKind} {w : World} {B g : Nat} {A : Option Addr} {xs : List Nat} {x y : Value} (t : Two w g x y) (hx : ∀ n : Int, x ≠ .int kd n) (hy : ∀ n : Int, y ≠ .int kd n) (h : Rd kd w B A xs) (a b : Value) : Rd kd ((w.setCell ⟨g, 0, none⟩ a).setCell ⟨g, 1, none⟩ b) B A xs := by
  have h1 : (w.setCell ⟨g, 0, none⟩ a).cell? ⟨g, 1, none⟩ = some y := (World.cell?_setCell_other _ _ _ _ (by simp)).trans t.c1
  exact (h.set t.c0 hx a).set h1 hy b

theorem Kept.of {w : World} {g : Nat} {x y : Value} (t : Two w g x y) (hx : ∀ n : Int, x ≠ .int .u32 n) (hy : ∀ n : Int, y ≠ .int .u32 n) (a b : Value) : Kept g w ((w.setCell ⟨g, 0, none⟩ a).setCell ⟨g, 1, none⟩ b) := by
  have hsz : ((w.setCell ⟨g, 0, none⟩ a).setCell ⟨g, 1, none⟩ b).heap.size = w.heap.size := by simp [World.setCell]
  refine ⟨fun g' u v hne t' => t'.far hne _ _, ?_, ?_, fun B w0 h hg => (h.setCell (p := ⟨g, 0, none⟩) hg _).setCell (p := ⟨g, 1, none⟩) hg _, hsz⟩
  · rintro x y z ⟨A, c, h1, h2, h3, h4, h5⟩
    exact ⟨A, c, h1, h2, (Rd.set2' t hx hy h3 _ _).more (by rw [hsz]; exact Nat.le_refl _), h4, h5⟩
  · rintro x y z ⟨n, A, c, xs, h1, h2, ⟨r1, r2, r3, r4, r5⟩, h4⟩
    exact ⟨n, A, c, xs, h1, h2, ⟨(Rd.set2' t hx hy r1 _ _).more (by rw [hsz]; exact Nat.le_refl _), r2, r3, r4, r5⟩, h4⟩

/-- A flag and a slice. -/
def Fs (x y : Value) : Prop := ∃ n A k c, x = .bool n ∧ y = .slice A k c
theorem Zc.fs {w : World} {x y : Value} {z : Int} (h : Zc w x y z) : Fs x y := by
  obtain ⟨A, c, rfl, rfl, _⟩ := h
  exact ⟨_, _, _, _, rfl, rfl⟩
theorem Zi.fs {w : World} {x y : Value} {z : Int} (h : Zi w x y z) : Fs x y := by
  obtain ⟨n, A, c, xs, rfl, rfl, _⟩ := h
  exact ⟨_, _, _, _, rfl, rfl⟩
theorem Fs.nil : Fs (.bool false) (.slice none 0 0) := ⟨_, _, _, _, rfl, rfl⟩

theorem Zc.nint {w : World} {x y : Value} {z : Int} (h : Zc w x y z) : (∀ n : Int, x ≠ .int .u32 n) ∧ (∀ n : Int, y ≠ .int .u32 n) := by
  obtain ⟨A, c, rfl, rfl, _⟩ := h
  exact ⟨(fun n e => by cases e), (fun n e => by cases e)⟩

variable {ac : Act} {w : World} {K : Act → World → Prop} {Q : Exit → Act → World → Prop} {d : Option Tmp} {ty : TypeId} {pos : String} {after : Array Edge} {guard : Option (Nat × Bool)}

theorem wp_alloc_two (h : ∀ (g : Nat) (V : World), Two V g (.bool false) (.slice none 0 0) → Below w.heap.size w V → w.heap.size ≤ g → K (ac.put d (.pointer (some ⟨g, 0, none⟩))) V) :
    Oper.wp Try.prog ⟨d, .alloc 24, ty, pos, after, guard⟩ ac w K Q := by
  have h1 := h _ _ (Two.new w (.bool false) (.slice none 0 0) 24) ((Below.refl _ _).alloc (Nat.le_refl _) _) (Nat.le_refl _)
  go_simp
  exact h1

theorem wp_store_two {g : Nat} {x y x0 y0 : Value} {p v : Operand} (hp : ac.eval p = .pointer (some ⟨g, 0, none⟩)) (hv : ac.eval v = .agg #[x, y]) (t : Two w g x0 y0) (f0 : Fs x0 y0) (f1 : Fs x y)
    (h : ∀ V : World, Two V g x y → Kept g w V → K (ac.put d undef) V) :
    Oper.wp Try.prog ⟨d, .store 24 p v, ty, pos, after, guard⟩ ac w K Q := by
  obtain ⟨n0, A0, k0, c0, rfl, rfl⟩ := f0
  obtain ⟨n1, A1, k1, c1, rfl, rfl⟩ := f1
  have h1 := h _ (t.set _ _) (Kept.of t (fun n e => by cases e) (fun n e => by cases e) _ _)
  have u0 := t.c0
  have u1 := t.c1
  have v0 := t.f0
  have v1 := t.f1
  clear h t
  simp only [Oper.wp, execOp, hp, hv]
  go_simp
  exact h1
end Go.Proofs.Ytlnjnoingiohjaa
