/- freeboardlaw06.ShapeNames: for every input the law answers true, and what is handed in reads as it did. Conditions: none. -/
import Derived.Test.YtpejbcgnekllkaaShapeAlive
namespace Go.Proofs.Ytpejbcgnekllkaa
open Go.ChangeShapes Go.WideShapes Go.ChangeAt Go.RowKit ShapeM

set_option maxRecDepth 100000 in
set_option maxHeartbeats 4000000 in
theorem shapeNames_walk (w : World) : Calls Try.prog 3 #[] w fun e w' => e = .returned (.bool true) ∧ Below w.heap.size w w' := by
  have ka := fun W => alive_calls W
  have ks := fun W => small_calls W
  have d1 := fun W => check_calls ⟨0, 3, 2, 3, 11, 2⟩ W
  have d2 := fun W => check_calls ⟨0, 17, 2, 3, 255, 2⟩ W
  have d3 := fun W => check_calls ⟨0, 0, 0, 0, 0, 0⟩ W
  rw [show chkC ⟨0, 3, 2, 3, 11, 2⟩ = 8 from by decide] at d1
  rw [show chkC ⟨0, 17, 2, 3, 255, 2⟩ = 8 from by decide] at d2
  rw [show chkC ⟨0, 0, 0, 0, 0, 0⟩ = 8 from by decide] at d3
  unfold cfgV smallC at *
  dsimp only at *
  go_enter Try.func3, Try.ntmps3
  go_wp2_with fail
  refine (ks _).mono ?_
  rintro e w1 ⟨rfl, hb⟩
  have B1 := Box6.new w1 (.int .u32 0) (.int .i64 3) (.int .i64 2) (.int .i64 3) (.int .i64 11) (.int .i64 2) 24
  replace hb := hb.alloc hb.size (.cells #[.int .u32 0, .int .i64 3, .int .i64 2, .int .i64 3, .int .i64 11, .int .i64 2] 24)
  go_wp2_with fail
  refine (ks _).mono ?_
  rintro e w2 ⟨rfl, hb2⟩
  have B2 := Box6.new w2 (.int .u32 0) (.int .i64 17) (.int .i64 2) (.int .i64 3) (.int .i64 255) (.int .i64 2) 24
  replace hb := hb.trans (hb2.mono hb.size)
  replace B1 := B1.below hb2 (Nat.le_refl _)
  replace B1 := B1.below ((Below.refl _ _).alloc (Nat.le_refl _) (.cells #[.int .u32 0, .int .i64 17, .int .i64 2, .int .i64 3, .int .i64 255, .int .i64 2] 24)) (Nat.le_refl _)
  replace hb := hb.alloc hb.size (.cells #[.int .u32 0, .int .i64 17, .int .i64 2, .int .i64 3, .int .i64 255, .int .i64 2] 24)
  clear hb2
  go_wp2_with fail
  refine (ka _).mono ?_
  rintro e w3 ⟨rfl, hb3⟩
  replace hb := hb.trans (hb3.mono hb.size)
  replace B1 := B1.below hb3 (Nat.le_refl _)
  replace B2 := B2.below hb3 (Nat.le_refl _)
  clear hb3
  obtain ⟨c0, c1, c2, c3, c4, c5⟩ := B1.all
  go_wp2_with fail
  refine (d1 _).mono ?_
  rintro e w4 ⟨rfl, hb4⟩
  replace hb := hb.trans (hb4.mono hb.size)
  replace B2 := B2.below hb4 (Nat.le_refl _)
  clear hb4 c0 c1 c2 c3 c4 c5
  obtain ⟨c0, c1, c2, c3, c4, c5⟩ := B2.all
  go_wp2_with fail
  refine (d2 _).mono ?_
  rintro e w5 ⟨rfl, hb5⟩
  replace hb := hb.trans (hb5.mono hb.size)
  go_wp2_with fail
  refine (d3 _).mono ?_
  rintro e w6 ⟨rfl, hb6⟩
  go_wp2
  go_ret
  exact ⟨rfl, hb.trans (hb6.mono hb.size)⟩


namespace shapeNames
set_option linter.unusedVariables false
set_option maxRecDepth 100000 in
theorem lifted (os : Os) (started : os.Started) (H : Type) (enc : TypeId × Value → H) :
    ReturnsInHanded {} Try.checked os 3 .any (Rows.shapeNamesSpec.pre6 enc Try.prog Try.f3 Rows.shapeNamesRow.domain false) (Rows.shapeNamesSpec.post enc Try.prog Try.f3 false true false false) := by
  refine returnsInHanded_of_change (C := Try.checked) Try.own started (by kernel_rfl) Try.func3
    (ChangeSpec.witness6 (enc := enc) (C := Try.checked) false ⟨#[], #[], []⟩ 8 (by kernel_rfl) (by kernel_rfl) (by kernel_rfl) (by kernel_rfl)) ?_
  intro W base args ds gs before hval0 hW hcnd _
  have hval : ∀ (j : Nat) t v, Try.f3.params[j]? = some t → args[j]? = some v → Value.okWide Try.prog W .any base t v := hval0
  have hW' := hW
  obtain ⟨p, q, hA0, hV, rfl, hfz, hnd⟩ := hW
  have hA : DataW.TrodAll enc Try.prog W 0 (fun _ => true) true Try.f3.params.toList args.toList ds p := hA0
  rw [Try.params3] at hA hval
  obtain ⟨hargs, rfl, rfl⟩ := trodAll_nil hA
  obtain rfl : args = #[] := by cases args; simp_all
  obtain ⟨rfl, rfl⟩ := trodVars_none hV
  clear hA0 hval0
  refine (shapeNames_walk W).mono fun e W' ⟨he, bel⟩ => ?_
  subst he
  exact ⟨_, rfl, _, _, _, [], _, [], hW', trodAll_mk1 (shut_bool Try.underlying4 _), trodAll_mk0, rfl, bel.frame _, fun h => by cases h⟩

theorem holds : Rows.ShapeNamesSaid :=
  OpenClaim.holds_of_wide 3 Try.f3 rfl rfl rfl rfl rfl rfl rfl ⟨rfl, rfl, rfl, rfl, rfl⟩ rfl rfl rfl rfl rfl (by kernel_rfl) Try.func3 (by kernel_rfl)
    (of_decide_eq_true (by kernel_rfl)) (by unfold Func.isWrapper; first | (rw [if_pos (by decide +kernel)]; kernel_rfl) | (rw [if_neg (by decide +kernel)]; exact ⟨rfl, rfl⟩))
    (fun os started H enc _ => lifted os started H enc)
end shapeNames
end Go.Proofs.Ytpejbcgnekllkaa
