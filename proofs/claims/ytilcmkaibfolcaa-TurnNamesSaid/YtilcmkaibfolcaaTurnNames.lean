/- freeboardlaw07.TurnNames: for every input the law answers true, and what is handed in reads as it did. Conditions: none. -/
import Derived.Test.YtilcmkaibfolcaaTurnAlive
namespace Go.Proofs.Ytilcmkaibfolcaa
open Go.ChangeShapes Go.WideShapes Go.ChangeAt Go.RowKit ShapeM TurnM
set_option linter.unusedVariables false

set_option maxRecDepth 100000 in
set_option maxHeartbeats 4000000 in
theorem turnNames_walk (w : World) : Calls Try.prog 3 #[] w fun e w' => e = .returned (.bool true) ∧ Below w.heap.size w w' := by
  have hb := Below.refl w.heap.size w
  have ka := fun W => alive7_calls W
  have ks := fun W => small7_calls W
  have d0 := fun W => turnBlock small7 2 1 W
  rw [show eBlk small7 2 1 = 0 from by decide] at d0
  rw [show pickE 0 (vBlk small7 2 1) = 6 from by decide] at d0
  have d1 := fun W => turnMember small7 2 2 W
  rw [show eMem small7 2 2 = 0 from by decide] at d1
  rw [show pickE 0 (vMem small7 2 2) = 1 from by decide] at d1
  have d2 := fun W => turnSlot small7 2 0 W
  rw [show eMem small7 2 0 = 0 from by decide] at d2
  rw [show pickE 0 (vSlot small7 2 0) = 1 from by decide] at d2
  have d3 := fun W => turnBlock small7 0 2 W
  rw [show eBlk small7 0 2 = 2 from by decide] at d3
  rw [show pickE 2 (vBlk small7 0 2) = 0 from by decide] at d3
  have d4 := fun W => turnMember small7 0 3 W
  rw [show eMem small7 0 3 = 2 from by decide] at d4
  rw [show pickE 2 (vMem small7 0 3) = 0 from by decide] at d4
  have d5 := fun W => turnSlot small7 0 3 W
  rw [show eMem small7 0 3 = 2 from by decide] at d5
  rw [show pickE 2 (vSlot small7 0 3) = 0 from by decide] at d5
  have z0 := fun W => turnSpot small7 12 W
  rw [show eSpot small7 12 = 2 from by decide] at z0
  simp only [pickE_2] at z0
  have z1 := fun W => turnSpot ⟨0, 0, 0, 0, 0, 0⟩ 0 W
  rw [show eSpot ⟨0, 0, 0, 0, 0, 0⟩ 0 = 8 from by decide] at z1
  simp only [pickE_8] at z1
  generalize hv : cfgV small7 = v at *
  clear hv
  unfold cfgV spotV at *
  dsimp only at *
  go_enter Try.func3, Try.ntmps3
  go_wp2_with (first
    | (go_at_call 9; refine (ks _).mono ?_; rintro e w2 ⟨rfl, hb2⟩; first | (replace hb := hb.trans (hb2.mono hb.size); clear hb2) | (replace hb := (hb.alloc hb.size _).trans (hb2.mono (by have := hb.size; simp; omega)); clear hb2))
    | (go_at_call 13; refine (ka _).mono ?_; rintro e w2 ⟨rfl, hb2⟩; first | (replace hb := hb.trans (hb2.mono hb.size); clear hb2) | (replace hb := (hb.alloc hb.size _).trans (hb2.mono (by have := hb.size; simp; omega)); clear hb2))
    | (go_at_call 8; (with_reducible refine (d0 _).mono ?_); rintro e w2 ⟨rfl, hb2⟩; first | (replace hb := hb.trans (hb2.mono hb.size); clear hb2) | (replace hb := (hb.alloc hb.size _).trans (hb2.mono (by have := hb.size; simp; omega)); clear hb2))
    | (go_at_call 10; (with_reducible refine (d1 _).mono ?_); rintro e w2 ⟨rfl, hb2⟩; first | (replace hb := hb.trans (hb2.mono hb.size); clear hb2) | (replace hb := (hb.alloc hb.size _).trans (hb2.mono (by have := hb.size; simp; omega)); clear hb2))
    | (go_at_call 11; (with_reducible refine (d2 _).mono ?_); rintro e w2 ⟨rfl, hb2⟩; first | (replace hb := hb.trans (hb2.mono hb.size); clear hb2) | (replace hb := (hb.alloc hb.size _).trans (hb2.mono (by have := hb.size; simp; omega)); clear hb2))
    | (go_at_call 8; (with_reducible refine (d3 _).mono ?_); rintro e w2 ⟨rfl, hb2⟩; first | (replace hb := hb.trans (hb2.mono hb.size); clear hb2) | (replace hb := (hb.alloc hb.size _).trans (hb2.mono (by have := hb.size; simp; omega)); clear hb2))
    | (go_at_call 10; (with_reducible refine (d4 _).mono ?_); rintro e w2 ⟨rfl, hb2⟩; first | (replace hb := hb.trans (hb2.mono hb.size); clear hb2) | (replace hb := (hb.alloc hb.size _).trans (hb2.mono (by have := hb.size; simp; omega)); clear hb2))
    | (go_at_call 11; (with_reducible refine (d5 _).mono ?_); rintro e w2 ⟨rfl, hb2⟩; first | (replace hb := hb.trans (hb2.mono hb.size); clear hb2) | (replace hb := (hb.alloc hb.size _).trans (hb2.mono (by have := hb.size; simp; omega)); clear hb2))
    | (go_at_call 12; (with_reducible refine (z0 _).mono ?_); rintro e w2 ⟨rfl, hb2⟩; first | (replace hb := hb.trans (hb2.mono hb.size); clear hb2) | (replace hb := (hb.alloc hb.size _).trans (hb2.mono (by have := hb.size; simp; omega)); clear hb2))
    | (go_at_call 12; (with_reducible refine (z1 _).mono ?_); rintro e w2 ⟨rfl, hb2⟩; first | (replace hb := hb.trans (hb2.mono hb.size); clear hb2) | (replace hb := (hb.alloc hb.size _).trans (hb2.mono (by have := hb.size; simp; omega)); clear hb2)))
  go_ret
  exact ⟨rfl, hb⟩

namespace turnNames
set_option linter.unusedVariables false
set_option maxRecDepth 100000 in
theorem lifted (os : Os) (started : os.Started) (H : Type) (enc : TypeId × Value → H) :
    ReturnsInHanded {} Try.checked os 3 .any (Rows.turnNamesSpec.pre6 enc Try.prog Try.f3 Rows.turnNamesRow.domain false) (Rows.turnNamesSpec.post enc Try.prog Try.f3 false true false false) := by
  refine returnsInHanded_of_change (C := Try.checked) Try.own started (by kernel_rfl) Try.func3
    (ChangeSpec.witness6 (enc := enc) (C := Try.checked) false ⟨#[], #[], []⟩ 8 (by kernel_rfl) (by kernel_rfl) (by kernel_rfl) (by kernel_rfl)) ?_
  intro W base args ds gs before hval0 hW hcnd _
  have hval : ∀ (j : Nat) t v, Try.f3.params[j]? = some t → args[j]? = some v → Value.okWide Try.prog W .any base t v := hval0
  have hW' := hW
  obtain ⟨p, q, hA0, hV, rfl, hfz, hnd⟩ := hW
  have hA : DataW.TrodAll enc Try.prog W 0 (fun _ => true) true Try.f3.params.toList args.toList ds p := hA0
  rw [Try.params3] at hA hval
  obtain ⟨hargs, rfl, rfl⟩ := trodAll_nil hA
  obtain rfl : args = #[] := by cases args; simp_all
  obtain ⟨rfl, rfl⟩ := trodVars_none hV
  clear hA0 hval0
  refine (turnNames_walk W).mono fun e W' ⟨he, bel⟩ => ?_
  subst he
  exact ⟨_, rfl, _, _, _, [], _, [], hW', trodAll_mk1 (shut_bool Try.underlying4 _), trodAll_mk0, rfl, bel.frame _, fun h => by cases h⟩

theorem holds : Rows.TurnNamesSaid :=
  OpenClaim.holds_of_wide 3 Try.f3 rfl rfl rfl rfl rfl rfl rfl ⟨rfl, rfl, rfl, rfl, rfl⟩ rfl rfl rfl rfl rfl (by kernel_rfl) Try.func3 (by kernel_rfl)
    (of_decide_eq_true (by kernel_rfl)) (by unfold Func.isWrapper; first | (rw [if_pos (by decide +kernel)]; kernel_rfl) | (rw [if_neg (by decide +kernel)]; exact ⟨rfl, rfl⟩))
    (fun os started H enc _ => lifted os started H enc)
end turnNames
end Go.Proofs.Ytilcmkaibfolcaa
