/- freeboardlaw09.LabelWrites: for every input the law answers true, and what is handed in reads as it did. Conditions: none. -/
import Derived.Test.YtdljondmlooeaaaLabelSays
import Derived.Test.YtdljondmlooeaaaLabelRefB
namespace Go.Proofs.Ytdljondmlooeaaa
open Go.ChangeShapes Go.WideShapes Go.ChangeAt Go.RowKit PolyM PackM ShapeM SealM LabelM
set_option linter.unusedVariables false
theorem labWriteR_any {l : Lab} (hw : WideL l) (w : World) : Calls Try.prog 15 #[labV l] w fun e w' => ∃ A c, e = .returned (.tuple #[.slice A (outN l) c, .int .i64 (chkL l)]) ∧ outN l ≤ c ∧ Ints .u8 w' A (outN l) (outL l) ∧ Below w.heap.size w w' := by
  unfold outN outL
  by_cases h : MayL l
  · rw [if_pos h, if_pos h, chkL_may h]
    refine (labWriteR_ok hw h w).mono ?_
    rintro e w' ⟨g, hg, rfl, hc, hb⟩
    exact ⟨_, _, rfl, by omega, block_ints hc, hb⟩
  · rw [if_neg h, if_neg h, chkL_not h]
    refine (labWriteR_no h w).mono ?_
    rintro e w' ⟨rfl, hb⟩
    exact ⟨_, _, rfl, by omega, nil_ints9 _ _, hb⟩

set_option maxRecDepth 100000 in
set_option maxHeartbeats 4000000 in
theorem writes_gen (id ev m ch ro lo me lst dn : Int) (op : Bool) (L : List Int) (n : Nat) (E : Int) (kw : ∀ W, Calls Try.prog 10 #[.agg #[.int .u32 id, .int .u32 ev, .int .i64 m, .int .i64 ch, .int .i64 ro, .int .i64 lo, .int .i64 me, .int .i64 lst, .int .i64 dn, .bool op]] W fun e w' => ∃ A c, e = .returned (.tuple #[.slice A n c, .int .i64 E]) ∧ n ≤ c ∧ Ints .u8 w' A n L ∧ Below W.heap.size W w') (kr : ∀ W, Calls Try.prog 15 #[.agg #[.int .u32 id, .int .u32 ev, .int .i64 m, .int .i64 ch, .int .i64 ro, .int .i64 lo, .int .i64 me, .int .i64 lst, .int .i64 dn, .bool op]] W fun e w' => ∃ A c, e = .returned (.tuple #[.slice A n c, .int .i64 E]) ∧ n ≤ c ∧ Ints .u8 w' A n L ∧ Below W.heap.size W w') (kc : ∀ W, Calls Try.prog 14 #[.agg #[.int .u32 id, .int .u32 ev, .int .i64 m, .int .i64 ch, .int .i64 ro, .int .i64 lo, .int .i64 me, .int .i64 lst, .int .i64 dn, .bool op]] W fun e w' => e = .returned (.int .i64 E) ∧ Below W.heap.size W w') (kd : ∀ W, Calls Try.prog 16 #[.agg #[.int .u32 id, .int .u32 ev, .int .i64 m, .int .i64 ch, .int .i64 ro, .int .i64 lo, .int .i64 me, .int .i64 lst, .int .i64 dn, .bool op]] W fun e w' => e = .returned (.int .i64 E) ∧ Below W.heap.size W w') (w : World) : Calls Try.prog 4 #[.agg #[.int .u32 id, .int .u32 ev, .int .i64 m, .int .i64 ch, .int .i64 ro, .int .i64 lo, .int .i64 me, .int .i64 lst, .int .i64 dn, .bool op]] w fun e w' => e = .returned (.bool true) ∧ Below w.heap.size w w' := by
  have B := BlkAt.new w #[.int .u32 id, .int .u32 ev, .int .i64 m, .int .i64 ch, .int .i64 ro, .int .i64 lo, .int .i64 me, .int .i64 lst, .int .i64 dn, .bool op] 28
  have hb : Below w.heap.size w (w.alloc (.cells #[.int .u32 id, .int .u32 ev, .int .i64 m, .int .i64 ch, .int .i64 ro, .int .i64 lo, .int .i64 me, .int .i64 lst, .int .i64 dn, .bool op] 28 (0, 0))) := (Below.refl _ _).alloc (Nat.le_refl _) _
  have hi10 := (zero_of_info label_size).2
  go_enter Try.func4, Try.ntmps4
  go_upto_region 3 with (first
    | refine wpList_load_row rfl 28 _ rfl w.heap.size rfl _ _ _ _ B Try.underlying28 rfl (by rw [hi10]; rfl) ?_
    | (go_at_call 10; (with_reducible refine (kw _).mono ?_); rintro e w2 ⟨A, c, rfl, hc1, I1, hb2⟩; replace hb := hb.trans (hb2.mono hb.size); replace B := B.below hb2 (Nat.le_refl _); clear hb2)
    | (go_at_call 15; (with_reducible refine (kr _).mono ?_); rintro e w3 ⟨A2, c2, rfl, hc2, I2, hb3⟩; replace I1 := I1.below hb3 (Nat.le_refl _); replace hb := hb.trans (hb3.mono hb.size); replace B := B.below hb3 (Nat.le_refl _); clear hb3))
  replace B := B.drew
  replace I1 := I1.below (Below.refl _ _).drew (Nat.le_refl _)
  replace I2 := I2.below (Below.refl _ _).drew (Nat.le_refl _)
  replace hb := hb.drew
  refine wp_region_held_drew (S := (fun W => (W.cell? ⟨w.heap.size, 0, none⟩ = some (.int .u32 id) ∧ W.cell? ⟨w.heap.size, 1, none⟩ = some (.int .u32 ev) ∧ W.cell? ⟨w.heap.size, 2, none⟩ = some (.int .i64 m) ∧ W.cell? ⟨w.heap.size, 3, none⟩ = some (.int .i64 ch) ∧ W.cell? ⟨w.heap.size, 4, none⟩ = some (.int .i64 ro) ∧ W.cell? ⟨w.heap.size, 5, none⟩ = some (.int .i64 lo) ∧ W.cell? ⟨w.heap.size, 6, none⟩ = some (.int .i64 me) ∧ W.cell? ⟨w.heap.size, 7, none⟩ = some (.int .i64 lst) ∧ W.cell? ⟨w.heap.size, 8, none⟩ = some (.int .i64 dn) ∧ W.cell? ⟨w.heap.size, 9, none⟩ = some (.bool op)) ∧ (convert 22 9 (.slice A n c)).run Try.prog W = .ok (.string (strOfNums L)) W ∧ (convert 22 9 (.slice A2 n c2)).run Try.prog W = .ok (.string (strOfNums L)) W)) (by kernel_rfl) ?_ (fun hHeld => ?_)
  · exact ⟨⟨B.cell 0, B.cell 1, B.cell 2, B.cell 3, B.cell 4, B.cell 5, B.cell 6, B.cell 7, B.cell 8, B.cell 9⟩, I1.text (P := Try.prog) (c := c) Try.underlying22 Try.underlying5 Try.underlying9, I2.text (P := Try.prog) (c := c2) Try.underlying22 Try.underlying5 Try.underlying9⟩
  refine wpAnyH_take (i := 0) (v := ?_) rfl (by kernel_rfl) (by kernel_rfl) (by kernel_rfl) (fun _ _ _ h => h) (Or.inl ⟨by rfl, ?_⟩) hHeld ?_
  rotate_left
  · (intro w hSw; (try dsimp only at hSw); go_simp; try with_reducible rfl)
  try simp only [Act.put, List.getElem_toArray, List.getElem_cons_zero, List.setIfInBounds_toArray, List.set_cons_zero, List.set_cons_succ]
  refine wpAnyH_take (i := 1) (v := ?_) rfl (by kernel_rfl) (by kernel_rfl) (by kernel_rfl) (fun _ _ _ h => h) (Or.inl ⟨by rfl, ?_⟩) hHeld ?_
  rotate_left
  · (intro w hSw; (try dsimp only at hSw); go_simp; try with_reducible rfl)
  try simp only [Act.put, List.getElem_toArray, List.getElem_cons_zero, List.getElem_cons_succ, List.setIfInBounds_toArray, List.set_cons_zero, List.set_cons_succ]
  refine wpAnyH_take (i := 2) (v := ?_) rfl (by kernel_rfl) (by kernel_rfl) (by kernel_rfl) (fun _ _ _ h => h) (Or.inl ⟨by rfl, ?_⟩) hHeld ?_
  rotate_left
  · (intro w hSw; (try dsimp only at hSw); go_simp; try with_reducible rfl)
  try simp only [Act.put, List.getElem_toArray, List.getElem_cons_zero, List.getElem_cons_succ, List.setIfInBounds_toArray, List.set_cons_zero, List.set_cons_succ]
  refine wpAnyH_take (i := 3) (v := ?_) rfl (by kernel_rfl) (by kernel_rfl) (by kernel_rfl) (fun _ _ _ h => h) (Or.inl ⟨by rfl, ?_⟩) hHeld ?_
  rotate_left
  · (intro w hSw; (try dsimp only at hSw); go_simp; try with_reducible rfl)
  try simp only [Act.put, List.getElem_toArray, List.getElem_cons_zero, List.getElem_cons_succ, List.setIfInBounds_toArray, List.set_cons_zero, List.set_cons_succ]
  refine wpAnyH_take (i := 4) (v := ?_) rfl (by kernel_rfl) (by kernel_rfl) (by kernel_rfl) (fun _ _ _ h => h) (Or.inl ⟨by rfl, ?_⟩) hHeld ?_
  rotate_left
  · (intro w hSw; (try dsimp only at hSw); go_simp; try with_reducible rfl)
  try simp only [Act.put, List.getElem_toArray, List.getElem_cons_zero, List.getElem_cons_succ, List.setIfInBounds_toArray, List.set_cons_zero, List.set_cons_succ]
  refine wpAnyH_take (i := 5) (v := ?_) rfl (by kernel_rfl) (by kernel_rfl) (by kernel_rfl) (fun _ _ _ h => h) (Or.inl ⟨by rfl, ?_⟩) hHeld ?_
  rotate_left
  · (intro w hSw; (try dsimp only at hSw); go_simp; try with_reducible rfl)
  try simp only [Act.put, List.getElem_toArray, List.getElem_cons_zero, List.getElem_cons_succ, List.setIfInBounds_toArray, List.set_cons_zero, List.set_cons_succ]
  refine wpAnyH_take (i := 6) (v := ?_) rfl (by kernel_rfl) (by kernel_rfl) (by kernel_rfl) (fun _ _ _ h => h) (Or.inl ⟨by rfl, ?_⟩) hHeld ?_
  rotate_left
  · (intro w hSw; (try dsimp only at hSw); go_simp; try with_reducible rfl)
  try simp only [Act.put, List.getElem_toArray, List.getElem_cons_zero, List.getElem_cons_succ, List.setIfInBounds_toArray, List.set_cons_zero, List.set_cons_succ]
  refine wpAnyH_take (i := 7) (v := ?_) rfl (by kernel_rfl) (by kernel_rfl) (by kernel_rfl) (fun _ _ _ h => h) (Or.inl ⟨by rfl, ?_⟩) hHeld ?_
  rotate_left
  · (intro w hSw; (try dsimp only at hSw); go_simp; try with_reducible rfl)
  try simp only [Act.put, List.getElem_toArray, List.getElem_cons_zero, List.getElem_cons_succ, List.setIfInBounds_toArray, List.set_cons_zero, List.set_cons_succ]
  refine wpAnyH_take (i := 8) (v := ?_) rfl (by kernel_rfl) (by kernel_rfl) (by kernel_rfl) (fun _ _ _ h => h) (Or.inl ⟨by rfl, ?_⟩) hHeld ?_
  rotate_left
  · (intro w hSw; (try dsimp only at hSw); go_simp; try with_reducible rfl)
  try simp only [Act.put, List.getElem_toArray, List.getElem_cons_zero, List.getElem_cons_succ, List.setIfInBounds_toArray, List.set_cons_zero, List.set_cons_succ]
  refine wpAnyH_take (i := 9) (v := ?_) rfl (by kernel_rfl) (by kernel_rfl) (by kernel_rfl) (fun _ _ _ h => h) (Or.inl ⟨by rfl, ?_⟩) hHeld ?_
  rotate_left
  · (intro w hSw; (try dsimp only at hSw); go_simp; try with_reducible rfl)
  try simp only [Act.put, List.getElem_toArray, List.getElem_cons_zero, List.getElem_cons_succ, List.setIfInBounds_toArray, List.set_cons_zero, List.set_cons_succ]
  refine wpAnyH_take (i := 10) (v := ?_) rfl (by kernel_rfl) (by kernel_rfl) (by kernel_rfl) (fun _ _ _ h => h) (Or.inl ⟨by rfl, ?_⟩) hHeld ?_
  rotate_left
  · (intro w hSw; (try dsimp only at hSw); go_simp; try with_reducible rfl)
  try simp only [Act.put, List.getElem_toArray, List.getElem_cons_zero, List.getElem_cons_succ, List.setIfInBounds_toArray, List.set_cons_zero, List.set_cons_succ]
  refine wpAnyH_take (i := 11) (v := ?_) rfl (by kernel_rfl) (by kernel_rfl) (by kernel_rfl) (fun _ _ _ h => h) (Or.inl ⟨by rfl, ?_⟩) hHeld ?_
  rotate_left
  · (intro w hSw; (try dsimp only at hSw); go_simp; try with_reducible rfl)
  try simp only [Act.put, List.getElem_toArray, List.getElem_cons_zero, List.getElem_cons_succ, List.setIfInBounds_toArray, List.set_cons_zero, List.set_cons_succ]
  refine wpAnyH_take (i := 13) (v := ?_) rfl (by kernel_rfl) (by kernel_rfl) (by kernel_rfl) (fun _ _ _ h => h) (Or.inl ⟨by rfl, ?_⟩) hHeld ?_
  rotate_left
  · (intro w hSw; (try dsimp only at hSw); go_simp; try with_reducible rfl)
  try simp only [Act.put, List.getElem_toArray, List.getElem_cons_zero, List.getElem_cons_succ, List.setIfInBounds_toArray, List.set_cons_zero, List.set_cons_succ]
  refine wpAnyH_ready (rs := [12]) (by kernel_rfl) (by simp) ?_
  refine AllReadyH.cons rfl (fun K hK => ?_) AllReadyH.nil
  go_simp
  (with_reducible refine (kc _).mono ?_)
  rintro e w5 ⟨rfl, hq⟩
  replace B := B.below hq (Nat.le_refl _)
  replace I1 := I1.below hq (Nat.le_refl _)
  replace I2 := I2.below hq (Nat.le_refl _)
  replace hb := hb.trans (hq.mono hb.size)
  clear hq
  go_wp2_with fail
  refine hK.out _ _ ?_ (fun hHeld2 => ?_)
  · exact ⟨⟨B.cell 0, B.cell 1, B.cell 2, B.cell 3, B.cell 4, B.cell 5, B.cell 6, B.cell 7, B.cell 8, B.cell 9⟩, I1.text (P := Try.prog) (c := c) Try.underlying22 Try.underlying5 Try.underlying9, I2.text (P := Try.prog) (c := c2) Try.underlying22 Try.underlying5 Try.underlying9⟩
  clear hK K hHeld
  have hHeld := hHeld2
  clear hHeld2
  try simp only [Act.put, List.setIfInBounds_toArray, List.set_cons_zero, List.set_cons_succ]
  refine wpAnyH_ready (rs := [14]) (by kernel_rfl) (by simp) ?_
  refine AllReadyH.cons rfl (fun K hK => ?_) AllReadyH.nil
  go_simp
  (with_reducible refine (kd _).mono ?_)
  rintro e w6 ⟨rfl, hq⟩
  replace B := B.below hq (Nat.le_refl _)
  replace I1 := I1.below hq (Nat.le_refl _)
  replace I2 := I2.below hq (Nat.le_refl _)
  replace hb := hb.trans (hq.mono hb.size)
  clear hq
  go_wp2_with fail
  refine hK.out _ _ ?_ (fun hHeld2 => ?_)
  · exact ⟨⟨B.cell 0, B.cell 1, B.cell 2, B.cell 3, B.cell 4, B.cell 5, B.cell 6, B.cell 7, B.cell 8, B.cell 9⟩, I1.text (P := Try.prog) (c := c) Try.underlying22 Try.underlying5 Try.underlying9, I2.text (P := Try.prog) (c := c2) Try.underlying22 Try.underlying5 Try.underlying9⟩
  clear hK K hHeld
  have hHeld := hHeld2
  clear hHeld2
  try simp only [Act.put, List.setIfInBounds_toArray, List.set_cons_zero, List.set_cons_succ]
  refine wpAnyH_take (i := 15) (v := ?_) rfl (by kernel_rfl) (by kernel_rfl) (by kernel_rfl) (fun _ _ _ h => h) (Or.inl ⟨by rfl, ?_⟩) hHeld ?_
  rotate_left
  · (intro w hSw; (try dsimp only at hSw); go_simp; try with_reducible rfl)
  try simp only [Act.put, List.getElem_toArray, List.getElem_cons_zero, List.getElem_cons_succ, List.setIfInBounds_toArray, List.set_cons_zero, List.set_cons_succ]
  refine wpAnyH_take (i := 16) (v := ?_) rfl (by kernel_rfl) (by kernel_rfl) (by kernel_rfl) (fun _ _ _ h => h) (Or.inl ⟨by rfl, ?_⟩) hHeld ?_
  rotate_left
  · (intro w hSw; (try dsimp only at hSw); go_simp; try with_reducible rfl)
  try simp only [Act.put, List.getElem_toArray, List.getElem_cons_zero, List.getElem_cons_succ, List.setIfInBounds_toArray, List.set_cons_zero, List.set_cons_succ]
  refine wpAnyH_take (i := 17) (v := ?_) rfl (by kernel_rfl) (by kernel_rfl) (by kernel_rfl) (fun _ _ _ h => h) (Or.inl ⟨by rfl, ?_⟩) hHeld ?_
  rotate_left
  · (intro w hSw; (try dsimp only at hSw); go_simp; try with_reducible rfl)
  try simp only [Act.put, List.getElem_toArray, List.getElem_cons_zero, List.getElem_cons_succ, List.setIfInBounds_toArray, List.set_cons_zero, List.set_cons_succ]
  refine wpAnyH_done (by kernel_rfl) ?_ _
  go_wp2
  go_ret
  exact ⟨rfl, hb⟩
theorem labelWrites_walk (w : World) (l : Lab) (hw : WideL l) : Calls Try.prog 4 #[labV l] w fun e w' => e = .returned (.bool true) ∧ Below w.heap.size w w' :=
  writes_gen l.id l.ev l.mem l.chunk l.rows l.log l.me l.lost l.done l.op (outL l) (outN l) (chkL l) (fun W => labWrite_any hw W) (fun W => labWriteR_any hw W) (fun W => labCheck l W) (fun W => labCheckR l W) w


namespace labelWrites
set_option linter.unusedVariables false
set_option maxRecDepth 100000 in
theorem lifted (os : Os) (started : os.Started) (H : Type) (enc : TypeId × Value → H) :
    ReturnsInHanded {} Try.checked os 4 .any (Rows.labelWritesSpec.pre6 enc Try.prog Try.f4 Rows.labelWritesRow.domain false) (Rows.labelWritesSpec.post enc Try.prog Try.f4 false true false false) := by
  refine returnsInHanded_of_change (C := Try.checked) Try.own started (by kernel_rfl) Try.func4
    (ChangeSpec.witness6 (enc := enc) (C := Try.checked) false ⟨#[], #[.agg #[.int .u32 0, .int .u32 0, .int .i64 0, .int .i64 0, .int .i64 0, .int .i64 0, .int .i64 0, .int .i64 0, .int .i64 0, .bool false]], []⟩ 8 (by kernel_rfl) (by kernel_rfl) (by kernel_rfl) (by kernel_rfl)) ?_
  intro W base args ds gs before hval0 hW hcnd _
  have hval : ∀ (j : Nat) t v, Try.f4.params[j]? = some t → args[j]? = some v → Value.okWide Try.prog W .any base t v := hval0
  have hW' := hW
  obtain ⟨p, q, hA0, hV, rfl, hfz, hnd⟩ := hW
  have hA : DataW.TrodAll enc Try.prog W 0 (fun _ => true) true Try.f4.params.toList args.toList ds p := hA0
  rw [Try.params4] at hA hval
  obtain ⟨v0, vs0, d0, ds0, p0, q0, hargs, rfl, rfl, h0, r0⟩ := trodAll_cons hA
  obtain ⟨rfl, rfl, rfl⟩ := trodAll_nil r0
  obtain rfl : args = #[v0] := by cases args; simp_all
  obtain ⟨rfl, rfl⟩ := trodVars_none hV
  have k0 := h0
  have lt0 : ∀ x ∈ p0, x.block < W.heap.size := by obtain ⟨m, hm⟩ := k0; exact DataW.trod_lt m _ _ _ hm
  obtain ⟨z0, rfl, w0⟩ := label_in (hval 0 28 v0 rfl rfl) h0
  clear hA0 hval0
  refine (labelWrites_walk W z0 w0).mono fun e W' ⟨he, bel⟩ => ?_
  subst he
  exact ⟨_, rfl, _, _, _, [], _, [], hW', trodAll_mk1 (shut_bool Try.underlying4 _), (trodAll_cons_mk (Below.trod Try.laidOut (by kernel_rfl) (of_decide_eq_true (by kernel_rfl)) k0 bel lt0) trodAll_mk0), rfl, bel.frame _, fun h => by cases h⟩

theorem holds : Rows.LabelWritesSaid :=
  OpenClaim.holds_of_wide 4 Try.f4 rfl rfl rfl rfl rfl rfl rfl ⟨rfl, rfl, rfl, rfl, rfl⟩ rfl rfl rfl rfl rfl (by kernel_rfl) Try.func4 (by kernel_rfl)
    (of_decide_eq_true (by kernel_rfl)) (by unfold Func.isWrapper; first | (rw [if_pos (by decide +kernel)]; kernel_rfl) | (rw [if_neg (by decide +kernel)]; exact ⟨rfl, rfl⟩))
    (fun os started H enc _ => lifted os started H enc)
end labelWrites
end Go.Proofs.Ytdljondmlooeaaa
