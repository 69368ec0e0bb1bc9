/-
  The law MatExamples returns true: the worked examples of chapter 4 hold. No condition.
-/
import Derived.Test.YtcpblpdhedbboaaGreatRows
import Derived.Test.YtcpblpdhedbboaaGreatMs18
import Derived.WalkKit
import Derived.ProofKit
import Derived.OpenShut
import Derived.ShutString
namespace Go.Proofs.YtcpblpdhedbboaaGreat.matExamples
set_option maxRecDepth 100000
open Go.ChangeShapes Go.WideShapes Go.ChangeAt Go.RowKit
open Go.ChangeMaps (open_string shut_string)
theorem own : ownKnob Tryz.prog.godebug = none := by kernel_rfl
theorem walk (w : World) : Calls Tryz.prog 9 #[] w fun e w' => e = .returned (.bool true) ∧ Below w.heap.size w w' := by
 go_enter Tryz.func9, Tryz.ntmps9
 go_wp2_with fail
 refine (malive_any w).mono ?_
 rintro e w' ⟨rfl, hb⟩
 have HB := Hd hb
 clear hb
 go_wp2
 go_ret
 exact ⟨rfl, HB.out⟩
theorem lifted (os : Os) (started : os.Started) (H : Type) (enc : TypeId × Value → H) :
  ReturnsInHanded {} Tryz.checked os 9 .any (Rows.matExamplesSpec.pre6 enc Tryz.prog Tryz.f9 Rows.matExamplesRow.domain false) (Rows.matExamplesSpec.post enc Tryz.prog Tryz.f9 false true false false) := by
 refine returnsInHanded_of_change (C := Tryz.checked) own started (by kernel_rfl) Tryz.func9
  (ChangeSpec.witness6 (enc := enc) (C := Tryz.checked) false ⟨#[], #[], []⟩ 8 (by kernel_rfl) (by kernel_rfl) (by kernel_rfl) (by kernel_rfl)) ?_
 intro W base args ds gs before hval0 hW hcnd _
 have hval : ∀ (j : Nat) t v, Tryz.f9.params[j]? = some t → args[j]? = some v → Value.okWide Tryz.prog W .any base t v := hval0
 have hW' := hW
 obtain ⟨p, q, hA0, hV, rfl, hfz, hnd⟩ := hW
 have hA : DataW.TrodAll enc Tryz.prog W 0 (fun _ => true) true Tryz.f9.params.toList args.toList ds p := hA0
 rw [Tryz.params9] at hA hval
 obtain ⟨rfl, rfl, rfl⟩ := trodAll_none hA
 obtain ⟨rfl, rfl⟩ := trodVars_none hV
 clear hA0 hval0
 simp only [List.append_nil] at hW'
 refine (walk  W).mono fun e W' ⟨he, hg⟩ => ?_
 subst he
 have R : ∀ (b : Nat) (sp : Nat → Bool) (hd : Bool), DataW.TrodAll enc Tryz.prog W' b sp hd Tryz.f9.resultTypes.toList ((Value.bool true).resultList Tryz.f9.resultTypes.size) [.lit (.bool true)] [] :=
  fun _ _ _ => trodAll_cons_mk (shut_bool Tryz.underlying4 _) trodAll_mk0
 refine ⟨_, rfl, [], [], [], [], [], [], hW', R _ _ _, rfl, rfl, hg.frame _, fun _ => ⟨ok_one (by kernel_rfl) rfl (okWide_bool_mk Tryz.underlying4 _), _, [], [], ⟨[], [], trodAll_append (show DataW.TrodAll enc Tryz.prog W' 0 _ _ [] [] [] [] from rfl) (R _ _ _), rfl, rfl, ?_, ?_⟩, ?_⟩⟩
 ·intro b off hp
  cases hp
 ·intro _
  exact List.nodup_nil
 ·intro q hq _
  exact hq
theorem over : Rows.matExamplesRow.holds Tryz.pinned (OpenSpec.ofChange Rows.matExamplesSpec) :=
 OpenClaim.holds_of_wide 9 Tryz.f9 rfl rfl rfl rfl rfl rfl rfl ⟨rfl, rfl, rfl, rfl, rfl⟩ rfl rfl rfl rfl rfl (by kernel_rfl) Tryz.func9 (by kernel_rfl)
  (of_decide_eq_true (by kernel_rfl)) (by unfold Func.isWrapper; first | (rw [if_pos (by decide +kernel)]; kernel_rfl) | (rw [if_neg (by decide +kernel)]; exact ⟨rfl, rfl⟩))
  (fun os started H enc _ => lifted os started H enc)
theorem proved : Rows.MatExamplesSaid :=
 over
#print axioms proved
end Go.Proofs.YtcpblpdhedbboaaGreat.matExamples
