/- freeboardlaw07.TurnTells: for every input the law answers true, and what is handed in reads as it did. Conditions: none. -/
import Derived.Test.YtilcmkaibfolcaaTurnAlive
import Derived.Test.YtilcmkaibfolcaaTurnRefC
namespace Go.Proofs.Ytilcmkaibfolcaa
open Go.ChangeShapes Go.WideShapes Go.ChangeAt Go.RowKit ShapeM TurnM
set_option linter.unusedVariables false

set_option maxRecDepth 100000 in
set_option maxHeartbeats 4000000 in
theorem turnTells_walk (w : World) (c : Cfg) (_hw : Wide c) (b : Int) (_wb : (Lit.int .i64 b).wf = true) (s : Int) (_ws : (Lit.int .i64 s).wf = true) (k : Int) (_wk : (Lit.int .i64 k).wf = true) (n : Int) (_wn : (Lit.int .i64 n).wf = true) : Calls Try.prog 4 #[cfgV c, .int .i64 b, .int .i64 s, .int .i64 k, .int .i64 n] w fun e w' => e = .returned (.bool true) ∧ Below w.heap.size w w' := by
  have q0 := fun W => turnSpot c b W
  have r0 := fun W => refSpot c b W
  have q1 := fun W => turnBlock c s k W
  have r1 := fun W => refBlock c s k W
  have q2 := fun W => turnParity c s W
  have r2 := fun W => refParity c s W
  have q3 := fun W => turnMember c s k W
  have r3 := fun W => refMember c s k W
  have q4 := fun W => turnSlot c s n W
  have r4 := fun W => refSlot c s n W
  generalize pickE (eSpot c b) (vSpS c b) = x0 at *
  generalize pickE (eSpot c b) (vSpK c b) = x1 at *
  generalize pickE (eSpot c b) (vSpM c b) = x2 at *
  generalize eSpot c b = e0 at *
  generalize pickE (eBlk c s k) (vBlk c s k) = x3 at *
  generalize eBlk c s k = e1 at *
  generalize pickE (ePar c s) (vPar c s) = x4 at *
  generalize ePar c s = e2 at *
  generalize pickE (eMem c s k) (vMem c s k) = x5 at *
  generalize eMem c s k = e3 at *
  generalize pickE (eMem c s n) (vSlot c s n) = x6 at *
  generalize eMem c s n = e4 at *
  have eq := fun W => spot_eql W x0 x1 x2 x0 x1 x2
  simp only [and_self, decide_true] at eq
  unfold spotV at *
  clear _hw
  obtain ⟨id, m, ch, ro, lo, he⟩ := c
  unfold cfgV at *
  dsimp only at *
  have B := Box6.new w (.int .u32 id) (.int .i64 m) (.int .i64 ch) (.int .i64 ro) (.int .i64 lo) (.int .i64 he) 27
  have hb : Below w.heap.size w (w.alloc (.cells #[.int .u32 id, .int .i64 m, .int .i64 ch, .int .i64 ro, .int .i64 lo, .int .i64 he] 27 (0, 0))) := (Below.refl _ _).alloc (Nat.le_refl _) _
  obtain ⟨c0, c1, c2, c3, c4, c5⟩ := B.all
  go_enter Try.func4, Try.ntmps4
  go_wp2_with fail
  refine (q0 _).mono ?_
  rintro e w2 ⟨rfl, hb2⟩
  replace hb := hb.trans (hb2.mono hb.size)
  clear c0 c1 c2 c3 c4 c5
  replace B := B.below hb2 (Nat.le_refl _)
  obtain ⟨c0, c1, c2, c3, c4, c5⟩ := B.all
  clear hb2
  have hlt := B.lt
  have D := CellsAt.new w2 [.int .i64 x0, .int .i64 x1, .int .i64 x2] 30
  replace hb := hb.alloc hb.size (.cells #[.int .i64 x0, .int .i64 x1, .int .i64 x2] 30 (0, 0))
  replace B := B.below ((Below.refl _ _).alloc (Nat.le_refl _) (.cells #[.int .i64 x0, .int .i64 x1, .int .i64 x2] 30 (0, 0))) (Nat.le_refl _)
  go_wp2_with fail
  refine (r0 _).mono ?_
  rintro e w3 ⟨rfl, hb2⟩
  replace hb := hb.trans (hb2.mono hb.size)
  clear c0 c1 c2 c3 c4 c5 hlt
  replace B := B.below hb2 (Nat.le_refl _)
  replace D := D.below hb2 (Nat.le_refl _)
  clear hb2
  obtain ⟨c0, c1, c2, c3, c4, c5⟩ := B.all
  have hlt := B.lt
  have hlt2 := D.lt
  have E := CellsAt.new w3 [.int .i64 x0, .int .i64 x1, .int .i64 x2] 30
  replace hb := hb.alloc hb.size (.cells #[.int .i64 x0, .int .i64 x1, .int .i64 x2] 30 (0, 0))
  replace B := B.below ((Below.refl _ _).alloc (Nat.le_refl _) (.cells #[.int .i64 x0, .int .i64 x1, .int .i64 x2] 30 (0, 0))) (Nat.le_refl _)
  replace D := D.below ((Below.refl _ _).alloc (Nat.le_refl _) (.cells #[.int .i64 x0, .int .i64 x1, .int .i64 x2] 30 (0, 0))) (Nat.le_refl _)
  go_wp2_with (first
    | (go_at_call 8; refine (q1 _).mono ?_; rintro e w2 ⟨rfl, hb2⟩; replace hb := hb.trans (hb2.mono hb.size); clear c0 c1 c2 c3 c4 c5 hlt hlt2; replace B := B.below hb2 (Nat.le_refl _); replace D := D.below hb2 (Nat.le_refl _); replace E := E.below hb2 (Nat.le_refl _); obtain ⟨c0, c1, c2, c3, c4, c5⟩ := B.all; have hlt := B.lt; have hlt2 := D.lt; clear hb2)
    | (go_at_call 15; refine (r1 _).mono ?_; rintro e w2 ⟨rfl, hb2⟩; replace hb := hb.trans (hb2.mono hb.size); clear c0 c1 c2 c3 c4 c5 hlt hlt2; replace B := B.below hb2 (Nat.le_refl _); replace D := D.below hb2 (Nat.le_refl _); replace E := E.below hb2 (Nat.le_refl _); obtain ⟨c0, c1, c2, c3, c4, c5⟩ := B.all; have hlt := B.lt; have hlt2 := D.lt; clear hb2)
    | (go_at_call 16; refine (q2 _).mono ?_; rintro e w2 ⟨rfl, hb2⟩; replace hb := hb.trans (hb2.mono hb.size); clear c0 c1 c2 c3 c4 c5 hlt hlt2; replace B := B.below hb2 (Nat.le_refl _); replace D := D.below hb2 (Nat.le_refl _); replace E := E.below hb2 (Nat.le_refl _); obtain ⟨c0, c1, c2, c3, c4, c5⟩ := B.all; have hlt := B.lt; have hlt2 := D.lt; clear hb2)
    | (go_at_call 17; refine (r2 _).mono ?_; rintro e w2 ⟨rfl, hb2⟩; replace hb := hb.trans (hb2.mono hb.size); clear c0 c1 c2 c3 c4 c5 hlt hlt2; replace B := B.below hb2 (Nat.le_refl _); replace D := D.below hb2 (Nat.le_refl _); replace E := E.below hb2 (Nat.le_refl _); obtain ⟨c0, c1, c2, c3, c4, c5⟩ := B.all; have hlt := B.lt; have hlt2 := D.lt; clear hb2)
    | (go_at_call 10; refine (q3 _).mono ?_; rintro e w2 ⟨rfl, hb2⟩; replace hb := hb.trans (hb2.mono hb.size); clear c0 c1 c2 c3 c4 c5 hlt hlt2; replace B := B.below hb2 (Nat.le_refl _); replace D := D.below hb2 (Nat.le_refl _); replace E := E.below hb2 (Nat.le_refl _); obtain ⟨c0, c1, c2, c3, c4, c5⟩ := B.all; have hlt := B.lt; have hlt2 := D.lt; clear hb2)
    | (go_at_call 18; refine (r3 _).mono ?_; rintro e w2 ⟨rfl, hb2⟩; replace hb := hb.trans (hb2.mono hb.size); clear c0 c1 c2 c3 c4 c5 hlt hlt2; replace B := B.below hb2 (Nat.le_refl _); replace D := D.below hb2 (Nat.le_refl _); replace E := E.below hb2 (Nat.le_refl _); obtain ⟨c0, c1, c2, c3, c4, c5⟩ := B.all; have hlt := B.lt; have hlt2 := D.lt; clear hb2)
    | (go_at_call 11; refine (q4 _).mono ?_; rintro e w2 ⟨rfl, hb2⟩; replace hb := hb.trans (hb2.mono hb.size); clear c0 c1 c2 c3 c4 c5 hlt hlt2; replace B := B.below hb2 (Nat.le_refl _); replace D := D.below hb2 (Nat.le_refl _); replace E := E.below hb2 (Nat.le_refl _); obtain ⟨c0, c1, c2, c3, c4, c5⟩ := B.all; have hlt := B.lt; have hlt2 := D.lt; clear hb2)
    | (go_at_call 19; refine (r4 _).mono ?_; rintro e w2 ⟨rfl, hb2⟩; replace hb := hb.trans (hb2.mono hb.size); clear c0 c1 c2 c3 c4 c5 hlt hlt2; replace B := B.below hb2 (Nat.le_refl _); replace D := D.below hb2 (Nat.le_refl _); replace E := E.below hb2 (Nat.le_refl _); obtain ⟨c0, c1, c2, c3, c4, c5⟩ := B.all; have hlt := B.lt; have hlt2 := D.lt; clear hb2; obtain ⟨d0, d1, d2⟩ := D.all3; obtain ⟨f0, f1, f2⟩ := E.all3))
  go_ret
  exact ⟨rfl, hb⟩

namespace turnTells
set_option linter.unusedVariables false
set_option maxRecDepth 100000 in
theorem lifted (os : Os) (started : os.Started) (H : Type) (enc : TypeId × Value → H) :
    ReturnsInHanded {} Try.checked os 4 .any (Rows.turnTellsSpec.pre6 enc Try.prog Try.f4 Rows.turnTellsRow.domain false) (Rows.turnTellsSpec.post enc Try.prog Try.f4 false true false false) := by
  refine returnsInHanded_of_change (C := Try.checked) Try.own started (by kernel_rfl) Try.func4
    (ChangeSpec.witness6 (enc := enc) (C := Try.checked) false ⟨#[], #[.agg #[.int .u32 0, .int .i64 0, .int .i64 0, .int .i64 0, .int .i64 0, .int .i64 0], .int .i64 0, .int .i64 0, .int .i64 0, .int .i64 0], []⟩ 8 (by kernel_rfl) (by kernel_rfl) (by kernel_rfl) (by kernel_rfl)) ?_
  intro W base args ds gs before hval0 hW hcnd _
  have hval : ∀ (j : Nat) t v, Try.f4.params[j]? = some t → args[j]? = some v → Value.okWide Try.prog W .any base t v := hval0
  have hW' := hW
  obtain ⟨p, q, hA0, hV, rfl, hfz, hnd⟩ := hW
  have hA : DataW.TrodAll enc Try.prog W 0 (fun _ => true) true Try.f4.params.toList args.toList ds p := hA0
  rw [Try.params4] at hA hval
  obtain ⟨v0, vs0, d0, ds0, p0, q0, hargs, rfl, rfl, h0, r0⟩ := trodAll_cons hA
  obtain ⟨v1, vs1, d1, ds1, p1, q1, rfl, rfl, rfl, h1, r1⟩ := trodAll_cons r0
  obtain ⟨v2, vs2, d2, ds2, p2, q2, rfl, rfl, rfl, h2, r2⟩ := trodAll_cons r1
  obtain ⟨v3, vs3, d3, ds3, p3, q3, rfl, rfl, rfl, h3, r3⟩ := trodAll_cons r2
  obtain ⟨v4, vs4, d4, ds4, p4, q4, rfl, rfl, rfl, h4, r4⟩ := trodAll_cons r3
  obtain ⟨rfl, rfl, rfl⟩ := trodAll_nil r4
  obtain rfl : args = #[v0, v1, v2, v3, v4] := by cases args; simp_all
  obtain ⟨rfl, rfl⟩ := trodVars_none hV
  have k0 := h0
  have lt0 : ∀ x ∈ p0, x.block < W.heap.size := by obtain ⟨m, hm⟩ := k0; exact DataW.trod_lt m _ _ _ hm
  obtain ⟨z0, rfl, w0⟩ := cfg_in (hval 0 27 v0 rfl rfl) h0
  obtain ⟨a1, rfl, rfl, rfl, w1⟩ := open_int Try.underlying3 (hval 1 3 v1 rfl rfl) h1
  obtain ⟨a2, rfl, rfl, rfl, w2⟩ := open_int Try.underlying3 (hval 2 3 v2 rfl rfl) h2
  obtain ⟨a3, rfl, rfl, rfl, w3⟩ := open_int Try.underlying3 (hval 3 3 v3 rfl rfl) h3
  obtain ⟨a4, rfl, rfl, rfl, w4⟩ := open_int Try.underlying3 (hval 4 3 v4 rfl rfl) h4
  clear hA0 hval0
  refine (turnTells_walk W z0 w0 a1 w1 a2 w2 a3 w3 a4 w4).mono fun e W' ⟨he, bel⟩ => ?_
  subst he
  exact ⟨_, rfl, _, _, _, [], _, [], hW', trodAll_mk1 (shut_bool Try.underlying4 _), (trodAll_cons_mk (Below.trod Try.laidOut (by kernel_rfl) (of_decide_eq_true (by kernel_rfl)) k0 bel lt0) (trodAll_cons_mk (shut_int Try.underlying3 w1) (trodAll_cons_mk (shut_int Try.underlying3 w2) (trodAll_cons_mk (shut_int Try.underlying3 w3) (trodAll_cons_mk (shut_int Try.underlying3 w4) trodAll_mk0))))), rfl, bel.frame _, fun h => by cases h⟩

theorem holds : Rows.TurnTellsSaid :=
  OpenClaim.holds_of_wide 4 Try.f4 rfl rfl rfl rfl rfl rfl rfl ⟨rfl, rfl, rfl, rfl, rfl⟩ rfl rfl rfl rfl rfl (by kernel_rfl) Try.func4 (by kernel_rfl)
    (of_decide_eq_true (by kernel_rfl)) (by unfold Func.isWrapper; first | (rw [if_pos (by decide +kernel)]; kernel_rfl) | (rw [if_neg (by decide +kernel)]; exact ⟨rfl, rfl⟩))
    (fun os started H enc _ => lifted os started H enc)
end turnTells
end Go.Proofs.Ytilcmkaibfolcaa
