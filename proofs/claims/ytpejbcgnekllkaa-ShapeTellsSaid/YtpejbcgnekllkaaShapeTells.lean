/- freeboardlaw06.ShapeTells: for every input the law answers true, and what is handed in reads as it did. Conditions: none. -/
import Derived.Test.YtpejbcgnekllkaaShapeAlive
import Derived.Test.YtpejbcgnekllkaaShapeRef
namespace Go.Proofs.Ytpejbcgnekllkaa
open Go.ChangeShapes Go.WideShapes Go.ChangeAt Go.RowKit ShapeM

set_option maxRecDepth 100000 in
set_option maxHeartbeats 4000000 in
theorem shapeTells_walk (w : World) (c : Cfg) (_hw : Wide c) : Calls Try.prog 4 #[cfgV c] w fun e w' => e = .returned (.bool true) ∧ Below w.heap.size w w' := by
  have kc := fun W => check_calls c W
  have k0 := fun W => stripes_told c W
  have k1 := fun W => blocks_told c W
  have k2 := fun W => need_told c W
  have k3 := fun W => member_told c W
  have k4 := fun W => journal_told c W
  have rc := fun W => check_ref c W
  have r0 := fun W => stripes_ref c W
  have r1 := fun W => blocks_ref c W
  have r2 := fun W => need_ref c W
  have r3 := fun W => member_ref c W
  have r4 := fun W => journal_ref c W
  by_cases h : MayC c
  · have q0 := strC_box h
    have q1 := blkC_box h
    have q2 := log_box h
    have q3 := h.1
    have q4 := h.2.1
    have e0 : wrap64 (c.chunk * c.rows) = strC c := by unfold strC at *; exact wrap64_in (by omega) (by omega)
    have e1 : wrap64 (strC c * wrap64 (c.mem - 1)) = blkC c := by rw [wrap64_in (n := c.mem - 1) (by omega) (by omega), Int.mul_comm]; unfold blkC at *; exact wrap64_in (by omega) (by omega)
    have e2 : wrap64 (c.mem + 1) = c.mem + 1 := wrap64_in (by omega) (by omega)
    have e3 : wrap64 (1 + strC c) = strC c + 1 := by rw [Int.add_comm]; exact wrap64_in (by omega) (by omega)
    have e4 : wrap64 (1 + c.log) = c.log + 1 := by rw [Int.add_comm]; exact wrap64_in (by omega) (by omega)
    simp only [e0, e1, e2, e3, e4] at r0 r1 r2 r3 r4
    simp only [numC_may h, chkC_may h] at kc k0 k1 k2 k3 k4 rc
    generalize c.mem + 1 = n2 at *
    generalize strC c + 1 = n3 at *
    generalize c.log + 1 = n4 at *
    generalize strC c = n0 at *
    generalize blkC c = n1 at *
    clear e0 e1 e2 e3 e4 q0 q1 q2 q3 q4 h
    obtain ⟨id, m, ch, ro, lo, he⟩ := c
    unfold cfgV at *
    dsimp only at *
    have B := Box6.new w (.int .u32 id) (.int .i64 m) (.int .i64 ch) (.int .i64 ro) (.int .i64 lo) (.int .i64 he) 24
    have hb : Below w.heap.size w (w.alloc (.cells #[.int .u32 id, .int .i64 m, .int .i64 ch, .int .i64 ro, .int .i64 lo, .int .i64 he] 24 (0, 0))) := (Below.refl _ _).alloc (Nat.le_refl _) _
    obtain ⟨c0, c1, c2, c3, c4, c5⟩ := B.all
    go_enter Try.func4, Try.ntmps4
    go_wp2_with (first
      | (go_at_call 10; refine (kc _).mono ?_; rintro e w2 ⟨rfl, hb2⟩; replace hb := hb.trans (hb2.mono hb.size); clear c0 c1 c2 c3 c4 c5; replace B := B.below hb2 (Nat.le_refl _); obtain ⟨c0, c1, c2, c3, c4, c5⟩ := B.all; clear hb2)
      | (go_at_call 11; refine (k0 _).mono ?_; rintro e w2 ⟨rfl, hb2⟩; replace hb := hb.trans (hb2.mono hb.size); clear c0 c1 c2 c3 c4 c5; replace B := B.below hb2 (Nat.le_refl _); obtain ⟨c0, c1, c2, c3, c4, c5⟩ := B.all; clear hb2)
      | (go_at_call 12; refine (k1 _).mono ?_; rintro e w2 ⟨rfl, hb2⟩; replace hb := hb.trans (hb2.mono hb.size); clear c0 c1 c2 c3 c4 c5; replace B := B.below hb2 (Nat.le_refl _); obtain ⟨c0, c1, c2, c3, c4, c5⟩ := B.all; clear hb2)
      | (go_at_call 13; refine (k2 _).mono ?_; rintro e w2 ⟨rfl, hb2⟩; replace hb := hb.trans (hb2.mono hb.size); clear c0 c1 c2 c3 c4 c5; replace B := B.below hb2 (Nat.le_refl _); obtain ⟨c0, c1, c2, c3, c4, c5⟩ := B.all; clear hb2)
      | (go_at_call 14; refine (k3 _).mono ?_; rintro e w2 ⟨rfl, hb2⟩; replace hb := hb.trans (hb2.mono hb.size); clear c0 c1 c2 c3 c4 c5; replace B := B.below hb2 (Nat.le_refl _); obtain ⟨c0, c1, c2, c3, c4, c5⟩ := B.all; clear hb2)
      | (go_at_call 15; refine (k4 _).mono ?_; rintro e w2 ⟨rfl, hb2⟩; replace hb := hb.trans (hb2.mono hb.size); clear c0 c1 c2 c3 c4 c5; replace B := B.below hb2 (Nat.le_refl _); obtain ⟨c0, c1, c2, c3, c4, c5⟩ := B.all; clear hb2)
      | (go_at_call 16; refine (rc _).mono ?_; rintro e w2 ⟨rfl, hb2⟩; replace hb := hb.trans (hb2.mono hb.size); clear c0 c1 c2 c3 c4 c5; replace B := B.below hb2 (Nat.le_refl _); obtain ⟨c0, c1, c2, c3, c4, c5⟩ := B.all; clear hb2)
      | (go_at_call 17; refine (r0 _).mono ?_; rintro e w2 ⟨rfl, hb2⟩; replace hb := hb.trans (hb2.mono hb.size); clear c0 c1 c2 c3 c4 c5; replace B := B.below hb2 (Nat.le_refl _); obtain ⟨c0, c1, c2, c3, c4, c5⟩ := B.all; clear hb2)
      | (go_at_call 18; refine (r1 _).mono ?_; rintro e w2 ⟨rfl, hb2⟩; replace hb := hb.trans (hb2.mono hb.size); clear c0 c1 c2 c3 c4 c5; replace B := B.below hb2 (Nat.le_refl _); obtain ⟨c0, c1, c2, c3, c4, c5⟩ := B.all; clear hb2)
      | (go_at_call 19; refine (r2 _).mono ?_; rintro e w2 ⟨rfl, hb2⟩; replace hb := hb.trans (hb2.mono hb.size); clear c0 c1 c2 c3 c4 c5; replace B := B.below hb2 (Nat.le_refl _); obtain ⟨c0, c1, c2, c3, c4, c5⟩ := B.all; clear hb2)
      | (go_at_call 20; refine (r3 _).mono ?_; rintro e w2 ⟨rfl, hb2⟩; replace hb := hb.trans (hb2.mono hb.size); clear c0 c1 c2 c3 c4 c5; replace B := B.below hb2 (Nat.le_refl _); obtain ⟨c0, c1, c2, c3, c4, c5⟩ := B.all; clear hb2)
      | (go_at_call 21; refine (r4 _).mono ?_; rintro e w2 ⟨rfl, hb2⟩; replace hb := hb.trans (hb2.mono hb.size); clear c0 c1 c2 c3 c4 c5; replace B := B.below hb2 (Nat.le_refl _); obtain ⟨c0, c1, c2, c3, c4, c5⟩ := B.all; clear hb2))
    go_ret
    exact ⟨rfl, hb⟩
  · clear r0 r1 r2 r3 r4
    simp only [numC_not h, chkC_not h] at kc k0 k1 k2 k3 k4 rc
    clear h
    obtain ⟨id, m, ch, ro, lo, he⟩ := c
    unfold cfgV at *
    dsimp only at *
    have B := Box6.new w (.int .u32 id) (.int .i64 m) (.int .i64 ch) (.int .i64 ro) (.int .i64 lo) (.int .i64 he) 24
    have hb : Below w.heap.size w (w.alloc (.cells #[.int .u32 id, .int .i64 m, .int .i64 ch, .int .i64 ro, .int .i64 lo, .int .i64 he] 24 (0, 0))) := (Below.refl _ _).alloc (Nat.le_refl _) _
    obtain ⟨c0, c1, c2, c3, c4, c5⟩ := B.all
    go_enter Try.func4, Try.ntmps4
    go_wp2_with (first
      | (go_at_call 10; refine (kc _).mono ?_; rintro e w2 ⟨rfl, hb2⟩; replace hb := hb.trans (hb2.mono hb.size); clear c0 c1 c2 c3 c4 c5; replace B := B.below hb2 (Nat.le_refl _); obtain ⟨c0, c1, c2, c3, c4, c5⟩ := B.all; clear hb2)
      | (go_at_call 11; refine (k0 _).mono ?_; rintro e w2 ⟨rfl, hb2⟩; replace hb := hb.trans (hb2.mono hb.size); clear c0 c1 c2 c3 c4 c5; replace B := B.below hb2 (Nat.le_refl _); obtain ⟨c0, c1, c2, c3, c4, c5⟩ := B.all; clear hb2)
      | (go_at_call 12; refine (k1 _).mono ?_; rintro e w2 ⟨rfl, hb2⟩; replace hb := hb.trans (hb2.mono hb.size); clear c0 c1 c2 c3 c4 c5; replace B := B.below hb2 (Nat.le_refl _); obtain ⟨c0, c1, c2, c3, c4, c5⟩ := B.all; clear hb2)
      | (go_at_call 13; refine (k2 _).mono ?_; rintro e w2 ⟨rfl, hb2⟩; replace hb := hb.trans (hb2.mono hb.size); clear c0 c1 c2 c3 c4 c5; replace B := B.below hb2 (Nat.le_refl _); obtain ⟨c0, c1, c2, c3, c4, c5⟩ := B.all; clear hb2)
      | (go_at_call 14; refine (k3 _).mono ?_; rintro e w2 ⟨rfl, hb2⟩; replace hb := hb.trans (hb2.mono hb.size); clear c0 c1 c2 c3 c4 c5; replace B := B.below hb2 (Nat.le_refl _); obtain ⟨c0, c1, c2, c3, c4, c5⟩ := B.all; clear hb2)
      | (go_at_call 15; refine (k4 _).mono ?_; rintro e w2 ⟨rfl, hb2⟩; replace hb := hb.trans (hb2.mono hb.size); clear c0 c1 c2 c3 c4 c5; replace B := B.below hb2 (Nat.le_refl _); obtain ⟨c0, c1, c2, c3, c4, c5⟩ := B.all; clear hb2)
      | (go_at_call 16; refine (rc _).mono ?_; rintro e w2 ⟨rfl, hb2⟩; replace hb := hb.trans (hb2.mono hb.size); clear c0 c1 c2 c3 c4 c5; replace B := B.below hb2 (Nat.le_refl _); obtain ⟨c0, c1, c2, c3, c4, c5⟩ := B.all; clear hb2))
    go_ret
    exact ⟨rfl, hb⟩


namespace shapeTells
set_option linter.unusedVariables false
set_option maxRecDepth 100000 in
theorem lifted (os : Os) (started : os.Started) (H : Type) (enc : TypeId × Value → H) :
    ReturnsInHanded {} Try.checked os 4 .any (Rows.shapeTellsSpec.pre6 enc Try.prog Try.f4 Rows.shapeTellsRow.domain false) (Rows.shapeTellsSpec.post enc Try.prog Try.f4 false true false false) := by
  refine returnsInHanded_of_change (C := Try.checked) Try.own started (by kernel_rfl) Try.func4
    (ChangeSpec.witness6 (enc := enc) (C := Try.checked) false ⟨#[], #[.agg #[.int .u32 0, .int .i64 0, .int .i64 0, .int .i64 0, .int .i64 0, .int .i64 0]], []⟩ 8 (by kernel_rfl) (by kernel_rfl) (by kernel_rfl) (by kernel_rfl)) ?_
  intro W base args ds gs before hval0 hW hcnd _
  have hval : ∀ (j : Nat) t v, Try.f4.params[j]? = some t → args[j]? = some v → Value.okWide Try.prog W .any base t v := hval0
  have hW' := hW
  obtain ⟨p, q, hA0, hV, rfl, hfz, hnd⟩ := hW
  have hA : DataW.TrodAll enc Try.prog W 0 (fun _ => true) true Try.f4.params.toList args.toList ds p := hA0
  rw [Try.params4] at hA hval
  obtain ⟨v0, vs0, d0, ds0, p0, q0, hargs, rfl, rfl, h0, r0⟩ := trodAll_cons hA
  obtain ⟨rfl, rfl, rfl⟩ := trodAll_nil r0
  obtain rfl : args = #[v0] := by cases args; simp_all
  obtain ⟨rfl, rfl⟩ := trodVars_none hV
  have k0 := h0
  have lt0 : ∀ x ∈ p0, x.block < W.heap.size := by obtain ⟨m, hm⟩ := k0; exact DataW.trod_lt m _ _ _ hm
  obtain ⟨z0, rfl, w0⟩ := cfg_in (hval 0 24 v0 rfl rfl) h0
  clear hA0 hval0
  refine (shapeTells_walk W z0 w0).mono fun e W' ⟨he, bel⟩ => ?_
  subst he
  exact ⟨_, rfl, _, _, _, [], _, [], hW', trodAll_mk1 (shut_bool Try.underlying4 _), (trodAll_cons_mk (Below.trod Try.laidOut (by kernel_rfl) (of_decide_eq_true (by kernel_rfl)) k0 bel lt0) trodAll_mk0), rfl, bel.frame _, fun h => by cases h⟩

theorem holds : Rows.ShapeTellsSaid :=
  OpenClaim.holds_of_wide 4 Try.f4 rfl rfl rfl rfl rfl rfl rfl ⟨rfl, rfl, rfl, rfl, rfl⟩ rfl rfl rfl rfl rfl (by kernel_rfl) Try.func4 (by kernel_rfl)
    (of_decide_eq_true (by kernel_rfl)) (by unfold Func.isWrapper; first | (rw [if_pos (by decide +kernel)]; kernel_rfl) | (rw [if_neg (by decide +kernel)]; exact ⟨rfl, rfl⟩))
    (fun os started H enc _ => lifted os started H enc)
end shapeTells
end Go.Proofs.Ytpejbcgnekllkaa
