/- What Write of package super answers for every super; Read. -/
import Derived.Test.YtcngonedcnddlaaSuperOut
import Derived.Test.YtcngonedcnddlaaPtrMap
import Derived.Test.YtcngonedcnddlaaBytesEq
import Derived.Deep.LoopGhost
import Derived.Deep.DeepCutAuto
namespace Go.Proofs.Ytcngonedcnddlaa
open Go.RowKit Go.ChangeMaps PolyM PackM SealM LabelM SuperM
set_option linter.unusedVariables false

set_option maxRecDepth 100000 in
set_option maxHeartbeats 4000000 in
theorem supWrite_bad (cs : Array Value) (hcs : cs.size = 4) (E : Int) (hE : (E != 0) = true) (kc : ∀ W, Calls Try.prog 13 #[.agg cs] W fun e w' => e = .returned (.int .i64 E) ∧ Below W.heap.size W w') (w : World) : Calls Try.prog 9 #[.agg cs] w fun e w' => e = .returned (.tuple #[.slice none 0 0, .int .i64 E]) ∧ Below w.heap.size w w' := by
  have B := BlkAt.new w cs 28
  have hb : Below w.heap.size w (w.alloc (.cells cs 28 (0, 0))) := (Below.refl _ _).alloc (Nat.le_refl _) _
  have hi4 := (zero_of_info super_size).2
  go_enter Try.func9, Try.ntmps9
  go_wp2_with (first
    | refine wpList_load_row rfl 28 _ rfl w.heap.size rfl _ _ _ _ B Try.underlying28 rfl (by rw [hi4]; rw [hcs]) ?_
    | (go_at_call 13; refine (kc _).mono ?_; rintro e w2 ⟨rfl, hb2⟩; replace hb := hb.trans (hb2.mono hb.size); replace B := B.below hb2 (Nat.le_refl _); clear hb2))
  go_ret2
  exact ⟨rfl, hb⟩
theorem supWrite_no {s : Sup} (h : ¬ MayS s) (w : World) : Calls Try.prog 9 #[supV s] w fun e w' => e = .returned (.tuple #[.slice none 0 0, .int .i64 8]) ∧ Below w.heap.size w w' :=
  supWrite_bad (supA s) rfl 8 (by decide) (fun W => by have := supCheck s W; rw [chkS_not h] at this; exact this) w
theorem supWrite_ok {s : Sup} (hw : WideS s) (h : MayS s) (w : World) : Calls Try.prog 9 #[supV s] w (PutIs w (blockS s)) := by
  have f := vals_fitS hw h
  exact supWrite_gen s.id s.age s.seq s.tail (f 1 (by omega)) (f 2 (by omega)) (f 3 (by omega)) (f 4 (by omega)) (fun W => by have := supCheck s W; rw [chkS_may h] at this; exact this) w

theorem upto4 {k : Nat} (h : k < 4) : k = 0 ∨ k = 1 ∨ k = 2 ∨ k = 3 := by omega
theorem four_boxes (w : World) (t : TypeId) : ∀ i, i < 4 → BlkAt ((((w.alloc (.cells #[.int .i64 0] t)).alloc (.cells #[.int .i64 0] t)).alloc (.cells #[.int .i64 0] t)).alloc (.cells #[.int .i64 0] t)) (w.heap.size + i) #[.int .i64 0] t := by
  intro i hi
  have e : ∀ x : World, BlkAt (x.alloc (.cells #[.int .i64 0] t)) x.heap.size #[.int .i64 0] t := fun x => BlkAt.new _ _ _
  rcases upto4 hi with rfl | rfl | rfl | rfl
  · exact (((e w).alloc _).alloc _).alloc _
  · have := ((e (w.alloc (.cells #[.int .i64 0] t))).alloc (.cells #[.int .i64 0] t)).alloc (.cells #[.int .i64 0] t)
    rwa [World.size_alloc] at this
  · have := (e ((w.alloc (.cells #[.int .i64 0] t)).alloc (.cells #[.int .i64 0] t))).alloc (.cells #[.int .i64 0] t)
    rwa [World.size_alloc, World.size_alloc] at this
  · have := e (((w.alloc (.cells #[.int .i64 0] t)).alloc (.cells #[.int .i64 0] t)).alloc (.cells #[.int .i64 0] t))
    rwa [World.size_alloc, World.size_alloc, World.size_alloc] at this
theorem int_info : ∃ i, Try.prog.info? 3 = some i ∧ i.size ≠ 0 := by
  have h : (Try.prog.info? 3).map (fun i => decide (i.size ≠ 0)) = some true := by kernel_rfl
  cases e : Try.prog.info? 3 with
  | none => rw [e] at h; cases h
  | some i => rw [e] at h; exact ⟨i, rfl, by simpa using h⟩

set_option maxRecDepth 100000 in
set_option maxHeartbeats 4000000 in
theorem sread_gen (a0 : Option Addr) (n0 c0 : Nat) (zs : List Int) (w : World) (hI : Ints .u8 w a0 n0 zs) (R : Array Value) (E : Int) (tk : Nat → Int) (htk : ∀ i, i < 3 → 0 ≤ tk i ∧ tk i ≤ 4294967295) (hx : ((∀ i W, i < 4 → Calls Try.prog 21 #[.slice a0 n0 c0, .int .i64 ((rowsS.getD (i + 1) (0, 0)).1 : Nat), .int .i64 ((rowsS.getD (i + 1) (0, 0)).2 : Nat)] W fun e w' => e = .returned (.tuple #[.int .i64 0, .int .i64 3]) ∧ W = w') ∧ Hid (R = #[.int .u32 0, .int .u32 0, .int .u32 0, .int .i64 0] ∧ E = 3)) ∨
    ((∀ i W, i < 4 → Ints .u8 W a0 n0 zs → Calls Try.prog 21 #[.slice a0 n0 c0, .int .i64 ((rowsS.getD (i + 1) (0, 0)).1 : Nat), .int .i64 ((rowsS.getD (i + 1) (0, 0)).2 : Nat)] W fun e w' => e = .returned (.tuple #[.int .i64 (tk i), .int .i64 0]) ∧ Below W.heap.size W w') ∧
      ((Hid (R = #[.int .u32 0, .int .u32 0, .int .u32 0, .int .i64 0] ∧ E = 90) ∧ ∀ W, Calls Try.prog 9 #[.agg #[.int .u32 (tk 0), .int .u32 (tk 1), .int .u32 (tk 2), .int .i64 (tk 3)]] W fun e w' => e = .returned (.tuple #[.slice none 0 0, .int .i64 8]) ∧ Below W.heap.size W w') ∨ (∃ L : List Int, L.length = 128 ∧ Bytes L ∧ (∀ W, Calls Try.prog 9 #[.agg #[.int .u32 (tk 0), .int .u32 (tk 1), .int .u32 (tk 2), .int .i64 (tk 3)]] W (PutIs W L)) ∧ ((decide (L = zs) = false ∧ Hid (R = #[.int .u32 0, .int .u32 0, .int .u32 0, .int .i64 0] ∧ E = 90)) ∨ (decide (L = zs) = true ∧ Hid (R = #[.int .u32 (tk 0), .int .u32 (tk 1), .int .u32 (tk 2), .int .i64 (tk 3)] ∧ E = 0))))))) : Calls Try.prog 11 #[.slice a0 n0 c0] w fun e w' => e = .returned (.tuple #[.agg R, .int .i64 E]) ∧ Below w.heap.size w w' := by
  have Z := BlkAt.new w #[.int .u32 0, .int .u32 0, .int .u32 0, .int .i64 0] 28
  have hb : Below w.heap.size w (w.alloc (.cells #[.int .u32 0, .int .u32 0, .int .u32 0, .int .i64 0] 28 (0, 0))) := (Below.refl _ _).alloc (Nat.le_refl _) _
  have hi4 := (zero_of_info super_size).2
  obtain ⟨ii, int_info⟩ := int_info
  go_enter Try.func11, Try.ntmps11
  go_upto_region 2 with fail
  have hQ := four_boxes (w.alloc (.cells #[.int .u32 0, .int .u32 0, .int .u32 0, .int .i64 0] 28)) 3
  replace Z := (((Z.alloc (.cells #[.int .i64 0] 3)).alloc (.cells #[.int .i64 0] 3)).alloc (.cells #[.int .i64 0] 3)).alloc (.cells #[.int .i64 0] 3)
  replace hb := (((hb.alloc hb.size (.cells #[.int .i64 0] 3)).alloc (by simp; omega) (.cells #[.int .i64 0] 3)).alloc (by simp; omega) (.cells #[.int .i64 0] 3)).alloc (by simp; omega) (.cells #[.int .i64 0] 3)
  rw [World.size_alloc] at hQ
  generalize World.alloc _ _ = v1 at *
  obtain ⟨b, hbb⟩ : ∃ b, b = w.heap.size + 1 := ⟨_, rfl⟩
  have hbw : w.heap.size < b := by omega
  rw [← hbb] at hQ ⊢
  clear hbb
  obtain ⟨m, hm⟩ : ∃ m, m = v1.heap.size := ⟨_, rfl⟩
  have hm2 : v1.drew.heap.size = m := hm.symm
  have hqm : ∀ i, i < 4 → some (b + i) ≠ some m := fun i hi e => by have := (hQ i hi).lt; injection e with e; omega
  have hzm : some w.heap.size ≠ some m := fun e => by have := Z.lt; injection e with e; omega
  have hmw : w.heap.size ≤ m := by rw [hm]; exact hb.size
  go_cut [21] (fun s21 wx => ∃ r m cnt : Nat, s21 = .pointer (some ⟨r, 0, none⟩) ∧ PIter wx m r 4 (fun i => b + i) (fun i => .agg #[.int .i64 ((rowsS.getD (i + 1) (0, 0)).1 : Nat), .int .i64 ((rowsS.getD (i + 1) (0, 0)).2 : Nat)]) (fun _ => false) cnt ∧ (∀ i, i < 4 → BlkAt wx (b + i) #[.int .i64 0] 3) ∧ BlkAt wx w.heap.size #[.int .u32 0, .int .u32 0, .int .u32 0, .int .i64 0] 28 ∧ Below w.heap.size w wx ∧ (∀ i, i < 4 → b + i ≠ m ∧ b + i ≠ r) ∧ w.heap.size < m ∧ w.heap.size < r)
  case first =>
    clear hx hI
    refine wp_region_held_drew (S := (fun _ => True)) (by kernel_rfl) ?_ (fun hHeld => ?_)
    · trivial
    refine wpAnyH_take (i := 1) (v := ?_) rfl (by kernel_rfl) (by kernel_rfl) (by kernel_rfl) (fun _ _ _ h => h) (Or.inl ⟨by rfl, ?_⟩) hHeld ?_
    rotate_left
    · (intro w hSw; (try dsimp only at hSw); go_simp; try with_reducible rfl)
    try simp only [Act.put, List.getElem_toArray, List.getElem_cons_zero, List.getElem_cons_succ, List.setIfInBounds_toArray, List.set_cons_zero, List.set_cons_succ]
    refine wpAnyH_take (i := 3) (v := ?_) rfl (by kernel_rfl) (by kernel_rfl) (by kernel_rfl) (fun _ _ _ h => h) (Or.inl ⟨by rfl, ?_⟩) hHeld ?_
    rotate_left
    · (intro w hSw; (try dsimp only at hSw); go_simp; try with_reducible rfl)
    try simp only [Act.put, List.getElem_toArray, List.getElem_cons_zero, List.getElem_cons_succ, List.setIfInBounds_toArray, List.set_cons_zero, List.set_cons_succ]
    refine wpAnyH_take (i := 5) (v := ?_) rfl (by kernel_rfl) (by kernel_rfl) (by kernel_rfl) (fun _ _ _ h => h) (Or.inl ⟨by rfl, ?_⟩) hHeld ?_
    rotate_left
    · (intro w hSw; (try dsimp only at hSw); go_simp; try with_reducible rfl)
    try simp only [Act.put, List.getElem_toArray, List.getElem_cons_zero, List.getElem_cons_succ, List.setIfInBounds_toArray, List.set_cons_zero, List.set_cons_succ]
    refine wpAnyH_take (i := 7) (v := ?_) rfl (by kernel_rfl) (by kernel_rfl) (by kernel_rfl) (fun _ _ _ h => h) (Or.inl ⟨by rfl, ?_⟩) hHeld ?_
    rotate_left
    · (intro w hSw; (try dsimp only at hSw); go_simp; try with_reducible rfl)
    try simp only [Act.put, List.getElem_toArray, List.getElem_cons_zero, List.getElem_cons_succ, List.setIfInBounds_toArray, List.set_cons_zero, List.set_cons_succ]
    replace hQ := fun i hi => (hQ i hi).drew
    replace Z := Z.drew
    replace hb := hb.drew
    generalize World.drew _ = v2 at *
    refine wpAnyH_ready (rs := [0]) (by kernel_rfl) (by simp) ?_
    refine AllReadyH.cons rfl (fun K hK => ?_) AllReadyH.nil
    go_simp
    simp only [run_makeMap, Result.andThen, Oper.upon_value]
    have M := PMap.made v2 4 (fun i => b + i) (fun i => .agg #[.int .i64 ((rowsS.getD (i + 1) (0, 0)).1 : Nat), .int .i64 ((rowsS.getD (i + 1) (0, 0)).2 : Nat)])
    rw [hm2] at M ⊢
    clear hm2 hm
    replace hQ := fun i hi => (hQ i hi).alloc (.map #[] 0)
    replace Z := Z.alloc (.map #[] 0)
    replace hb := hb.alloc hb.size (.map #[] 0)
    generalize World.alloc _ _ = v3 at *
    refine hK.out _ _ ?_ (fun hHeld2 => ?_)
    · trivial
    clear hK K hHeld
    have hHeld := hHeld2
    clear hHeld2
    try simp only [Act.put, List.setIfInBounds_toArray, List.set_cons_zero, List.set_cons_succ]
    refine wpAnyH_ready (rs := [2, 4, 6, 8]) (by kernel_rfl) (by simp) ?_
    refine AllReadyH.cons rfl (fun K hK => ?_) (AllReadyH.cons rfl (fun K hK => ?_) (AllReadyH.cons rfl (fun K hK => ?_) (AllReadyH.cons rfl (fun K hK => ?_) AllReadyH.nil)))
    · rw [if_pos (by rfl)]
      obtain ⟨y1, hrun, M2, hg, hs⟩ := PMap.put Try.underlying57 Try.underlying54 int_info.1 int_info.2 M (j := 0) (by omega) (by rfl) (fun i _ hne => by show b + i ≠ b + 0; omega) (fun i hi => ⟨_, _, hQ i hi⟩)
      refine wp_insert_run _ _ _ _ _ rfl rfl rfl rfl hrun ?_
      clear M hrun
      have M := M2
      replace hQ := fun i hi => (hQ i hi).turned hg (hqm i hi)
      replace Z := Z.turned hg hzm
      replace hb := hb.grown hg hb.size (fun k hk => by cases hk; exact hmw)
      clear M2 hg hs
      refine hK.out _ _ ?_ (fun hHeld2 => ?_)
      · trivial
      clear hK K hHeld
      have hHeld := hHeld2
      clear hHeld2
      try simp only [Act.put, List.setIfInBounds_toArray]
      try simp only [List.getElem_toArray, List.getElem_cons_zero, List.getElem_cons_succ]
      refine wpAnyH_ready (rs := [4, 6, 8]) (by kernel_rfl) (by simp) ?_
      refine AllReadyH.cons rfl (fun K hK => ?_) (AllReadyH.cons rfl (fun K hK => ?_) (AllReadyH.cons rfl (fun K hK => ?_) AllReadyH.nil))
      · rw [if_pos (by rfl)]
        obtain ⟨y2, hrun, M2, hg, hs⟩ := PMap.put Try.underlying57 Try.underlying54 int_info.1 int_info.2 M (j := 1) (by omega) (by rfl) (fun i _ hne => by show b + i ≠ b + 1; omega) (fun i hi => ⟨_, _, hQ i hi⟩)
        refine wp_insert_run _ _ _ _ _ rfl rfl rfl rfl hrun ?_
        clear M hrun
        have M := M2
        replace hQ := fun i hi => (hQ i hi).turned hg (hqm i hi)
        replace Z := Z.turned hg hzm
        replace hb := hb.grown hg hb.size (fun k hk => by cases hk; exact hmw)
        clear M2 hg hs
        refine hK.out _ _ ?_ (fun hHeld2 => ?_)
        · trivial
        clear hK K hHeld
        have hHeld := hHeld2
        clear hHeld2
        try simp only [Act.put, List.setIfInBounds_toArray]
        try simp only [List.getElem_toArray, List.getElem_cons_zero, List.getElem_cons_succ]
        refine wpAnyH_ready (rs := [6, 8]) (by kernel_rfl) (by simp) ?_
        refine AllReadyH.cons rfl (fun K hK => ?_) (AllReadyH.cons rfl (fun K hK => ?_) AllReadyH.nil)
        · rw [if_pos (by rfl)]
          obtain ⟨y3, hrun, M2, hg, hs⟩ := PMap.put Try.underlying57 Try.underlying54 int_info.1 int_info.2 M (j := 2) (by omega) (by rfl) (fun i _ hne => by show b + i ≠ b + 2; omega) (fun i hi => ⟨_, _, hQ i hi⟩)
          refine wp_insert_run _ _ _ _ _ rfl rfl rfl rfl hrun ?_
          clear M hrun
          have M := M2
          replace hQ := fun i hi => (hQ i hi).turned hg (hqm i hi)
          replace Z := Z.turned hg hzm
          replace hb := hb.grown hg hb.size (fun k hk => by cases hk; exact hmw)
          clear M2 hg hs
          refine hK.out _ _ ?_ (fun hHeld2 => ?_)
          · trivial
          clear hK K hHeld
          have hHeld := hHeld2
          clear hHeld2
          try simp only [Act.put, List.setIfInBounds_toArray]
          try simp only [List.getElem_toArray, List.getElem_cons_zero, List.getElem_cons_succ]
          refine wpAnyH_ready (rs := [8]) (by kernel_rfl) (by simp) ?_
          refine AllReadyH.cons rfl (fun K hK => ?_) AllReadyH.nil
          rw [if_pos (by rfl)]
          obtain ⟨y4, hrun, M2, hg, hs⟩ := PMap.put Try.underlying57 Try.underlying54 int_info.1 int_info.2 M (j := 3) (by omega) (by rfl) (fun i _ hne => by show b + i ≠ b + 3; omega) (fun i hi => ⟨_, _, hQ i hi⟩)
          refine wp_insert_run _ _ _ _ _ rfl rfl rfl rfl hrun ?_
          clear M hrun
          have M := M2
          replace hQ := fun i hi => (hQ i hi).turned hg (hqm i hi)
          replace Z := Z.turned hg hzm
          replace hb := hb.grown hg hb.size (fun k hk => by cases hk; exact hmw)
          clear M2 hg hs
          refine hK.out _ _ ?_ (fun hHeld2 => ?_)
          · trivial
          clear hK K hHeld
          have hHeld := hHeld2
          clear hHeld2
          try simp only [Act.put, List.setIfInBounds_toArray]
          try simp only [List.getElem_toArray, List.getElem_cons_zero, List.getElem_cons_succ]
          have M4 := M.full (fun i hi => by rcases upto4 hi with rfl | rfl | rfl | rfl <;> rfl)
          refine wpAnyH_take (i := 9) (v := ?_) rfl (by kernel_rfl) (by kernel_rfl) (by kernel_rfl) (fun _ _ _ h => h) (Or.inl ⟨by rfl, ?_⟩) hHeld ?_
          rotate_left
          · (intro w hSw; (try dsimp only at hSw); go_simp; try with_reducible rfl)
          try simp only [Act.put, List.getElem_toArray, List.getElem_cons_zero, List.getElem_cons_succ, List.setIfInBounds_toArray, List.set_cons_zero, List.set_cons_succ]
          refine wpAnyH_ready (rs := [10]) (by kernel_rfl) (by simp) ?_
          refine AllReadyH.cons rfl (fun K hK => ?_) AllReadyH.nil
          rw [if_pos (by rfl)]
          obtain ⟨wr, cnt, hrun, hP, hg, hs⟩ := PMap.range Try.underlying57 M4
          refine wp_range_run _ _ _ rfl rfl hrun ?_
          have hnr := fun i hi => Nat.ne_of_lt (hQ i hi).lt
          have hzr := Z.lt
          replace hQ := fun i hi => (hQ i hi).turned hg (by simp)
          replace Z := Z.turned hg (by simp)
          replace hb := hb.grown hg hb.size (fun k hk => by cases hk)
          simp only [List.getElem_toArray, List.getElem_cons_zero, List.getElem_cons_succ, Act.put, List.setIfInBounds_toArray, List.set_cons_zero, List.set_cons_succ]
          refine hK.out _ _ ?_ (fun hHeld2 => ?_)
          · trivial
          clear hK K hHeld
          have hHeld := hHeld2
          clear hHeld2
          try simp only [Act.put, List.setIfInBounds_toArray, List.set_cons_zero, List.set_cons_succ]
          refine wpAnyH_done (by kernel_rfl) ?_ _
          go_wp2
          go_meet
          exact ⟨_, _, _, rfl, hP, hQ, Z, hb, fun i hi => ⟨fun e => hqm i hi (by rw [e]), hnr i hi⟩, by have := hzm; simp only [ne_eq, Option.some.injEq] at this; omega, hzr⟩
        · rw [if_pos (by rfl)]
          obtain ⟨y5, hrun, M2, hg, hs⟩ := PMap.put Try.underlying57 Try.underlying54 int_info.1 int_info.2 M (j := 3) (by omega) (by rfl) (fun i _ hne => by show b + i ≠ b + 3; omega) (fun i hi => ⟨_, _, hQ i hi⟩)
          refine wp_insert_run _ _ _ _ _ rfl rfl rfl rfl hrun ?_
          clear M hrun
          have M := M2
          replace hQ := fun i hi => (hQ i hi).turned hg (hqm i hi)
          replace Z := Z.turned hg hzm
          replace hb := hb.grown hg hb.size (fun k hk => by cases hk; exact hmw)
          clear M2 hg hs
          refine hK.out _ _ ?_ (fun hHeld2 => ?_)
          · trivial
          clear hK K hHeld
          have hHeld := hHeld2
          clear hHeld2
          try simp only [Act.put, List.setIfInBounds_toArray]
          try simp only [List.getElem_toArray, List.getElem_cons_zero, List.getElem_cons_succ]
          refine wpAnyH_ready (rs := [6]) (by kernel_rfl) (by simp) ?_
          refine AllReadyH.cons rfl (fun K hK => ?_) AllReadyH.nil
          rw [if_pos (by rfl)]
          obtain ⟨y6, hrun, M2, hg, hs⟩ := PMap.put Try.underlying57 Try.underlying54 int_info.1 int_info.2 M (j := 2) (by omega) (by rfl) (fun i _ hne => by show b + i ≠ b + 2; omega) (fun i hi => ⟨_, _, hQ i hi⟩)
          refine wp_insert_run _ _ _ _ _ rfl rfl rfl rfl hrun ?_
          clear M hrun
          have M := M2
          replace hQ := fun i hi => (hQ i hi).turned hg (hqm i hi)
          replace Z := Z.turned hg hzm
          replace hb := hb.grown hg hb.size (fun k hk => by cases hk; exact hmw)
          clear M2 hg hs
          refine hK.out _ _ ?_ (fun hHeld2 => ?_)
          · trivial
          clear hK K hHeld
          have hHeld := hHeld2
          clear hHeld2
          try simp only [Act.put, List.setIfInBounds_toArray]
          try simp only [List.getElem_toArray, List.getElem_cons_zero, List.getElem_cons_succ]
          have M4 := M.full (fun i hi => by rcases upto4 hi with rfl | rfl | rfl | rfl <;> rfl)
          refine wpAnyH_take (i := 9) (v := ?_) rfl (by kernel_rfl) (by kernel_rfl) (by kernel_rfl) (fun _ _ _ h => h) (Or.inl ⟨by rfl, ?_⟩) hHeld ?_
          rotate_left
          · (intro w hSw; (try dsimp only at hSw); go_simp; try with_reducible rfl)
          try simp only [Act.put, List.getElem_toArray, List.getElem_cons_zero, List.getElem_cons_succ, List.setIfInBounds_toArray, List.set_cons_zero, List.set_cons_succ]
          refine wpAnyH_ready (rs := [10]) (by kernel_rfl) (by simp) ?_
          refine AllReadyH.cons rfl (fun K hK => ?_) AllReadyH.nil
          rw [if_pos (by rfl)]
          obtain ⟨wr, cnt, hrun, hP, hg, hs⟩ := PMap.range Try.underlying57 M4
          refine wp_range_run _ _ _ rfl rfl hrun ?_
          have hnr := fun i hi => Nat.ne_of_lt (hQ i hi).lt
          have hzr := Z.lt
          replace hQ := fun i hi => (hQ i hi).turned hg (by simp)
          replace Z := Z.turned hg (by simp)
          replace hb := hb.grown hg hb.size (fun k hk => by cases hk)
          simp only [List.getElem_toArray, List.getElem_cons_zero, List.getElem_cons_succ, Act.put, List.setIfInBounds_toArray, List.set_cons_zero, List.set_cons_succ]
          refine hK.out _ _ ?_ (fun hHeld2 => ?_)
          · trivial
          clear hK K hHeld
          have hHeld := hHeld2
          clear hHeld2
          try simp only [Act.put, List.setIfInBounds_toArray, List.set_cons_zero, List.set_cons_succ]
          refine wpAnyH_done (by kernel_rfl) ?_ _
          go_wp2
          go_meet
          exact ⟨_, _, _, rfl, hP, hQ, Z, hb, fun i hi => ⟨fun e => hqm i hi (by rw [e]), hnr i hi⟩, by have := hzm; simp only [ne_eq, Option.some.injEq] at this; omega, hzr⟩
      · rw [if_pos (by rfl)]
        obtain ⟨y7, hrun, M2, hg, hs⟩ := PMap.put Try.underlying57 Try.underlying54 int_info.1 int_info.2 M (j := 2) (by omega) (by rfl) (fun i _ hne => by show b + i ≠ b + 2; omega) (fun i hi => ⟨_, _, hQ i hi⟩)
        refine wp_insert_run _ _ _ _ _ rfl rfl rfl rfl hrun ?_
        clear M hrun
        have M := M2
        replace hQ := fun i hi => (hQ i hi).turned hg (hqm i hi)
        replace Z := Z.turned hg hzm
        replace hb := hb.grown hg hb.size (fun k hk => by cases hk; exact hmw)
        clear M2 hg hs
        refine hK.out _ _ ?_ (fun hHeld2 => ?_)
        · trivial
        clear hK K hHeld
        have hHeld := hHeld2
        clear hHeld2
        try simp only [Act.put, List.setIfInBounds_toArray]
        try simp only [List.getElem_toArray, List.getElem_cons_zero, List.getElem_cons_succ]
        refine wpAnyH_ready (rs := [4, 8]) (by kernel_rfl) (by simp) ?_
        refine AllReadyH.cons rfl (fun K hK => ?_) (AllReadyH.cons rfl (fun K hK => ?_) AllReadyH.nil)
        · rw [if_pos (by rfl)]
          obtain ⟨y8, hrun, M2, hg, hs⟩ := PMap.put Try.underlying57 Try.underlying54 int_info.1 int_info.2 M (j := 1) (by omega) (by rfl) (fun i _ hne => by show b + i ≠ b + 1; omega) (fun i hi => ⟨_, _, hQ i hi⟩)
          refine wp_insert_run _ _ _ _ _ rfl rfl rfl rfl hrun ?_
          clear M hrun
          have M := M2
          replace hQ := fun i hi => (hQ i hi).turned hg (hqm i hi)
          replace Z := Z.turned hg hzm
          replace hb := hb.grown hg hb.size (fun k hk => by cases hk; exact hmw)
          clear M2 hg hs
          refine hK.out _ _ ?_ (fun hHeld2 => ?_)
          · trivial
          clear hK K hHeld
          have hHeld := hHeld2
          clear hHeld2
          try simp only [Act.put, List.setIfInBounds_toArray]
          try simp only [List.getElem_toArray, List.getElem_cons_zero, List.getElem_cons_succ]
          refine wpAnyH_ready (rs := [8]) (by kernel_rfl) (by simp) ?_
          refine AllReadyH.cons rfl (fun K hK => ?_) AllReadyH.nil
          rw [if_pos (by rfl)]
          obtain ⟨y9, hrun, M2, hg, hs⟩ := PMap.put Try.underlying57 Try.underlying54 int_info.1 int_info.2 M (j := 3) (by omega) (by rfl) (fun i _ hne => by show b + i ≠ b + 3; omega) (fun i hi => ⟨_, _, hQ i hi⟩)
          refine wp_insert_run _ _ _ _ _ rfl rfl rfl rfl hrun ?_
          clear M hrun
          have M := M2
          replace hQ := fun i hi => (hQ i hi).turned hg (hqm i hi)
          replace Z := Z.turned hg hzm
          replace hb := hb.grown hg hb.size (fun k hk => by cases hk; exact hmw)
          clear M2 hg hs
          refine hK.out _ _ ?_ (fun hHeld2 => ?_)
          · trivial
          clear hK K hHeld
          have hHeld := hHeld2
          clear hHeld2
          try simp only [Act.put, List.setIfInBounds_toArray]
          try simp only [List.getElem_toArray, List.getElem_cons_zero, List.getElem_cons_succ]
          have M4 := M.full (fun i hi => by rcases upto4 hi with rfl | rfl | rfl | rfl <;> rfl)
          refine wpAnyH_take (i := 9) (v := ?_) rfl (by kernel_rfl) (by kernel_rfl) (by kernel_rfl) (fun _ _ _ h => h) (Or.inl ⟨by rfl, ?_⟩) hHeld ?_
          rotate_left
          · (intro w hSw; (try dsimp only at hSw); go_simp; try with_reducible rfl)
          try simp only [Act.put, List.getElem_toArray, List.getElem_cons_zero, List.getElem_cons_succ, List.setIfInBounds_toArray, List.set_cons_zero, List.set_cons_succ]
          refine wpAnyH_ready (rs := [10]) (by kernel_rfl) (by simp) ?_
          refine AllReadyH.cons rfl (fun K hK => ?_) AllReadyH.nil
          rw [if_pos (by rfl)]
          obtain ⟨wr, cnt, hrun, hP, hg, hs⟩ := PMap.range Try.underlying57 M4
          refine wp_range_run _ _ _ rfl rfl hrun ?_
          have hnr := fun i hi => Nat.ne_of_lt (hQ i hi).lt
          have hzr := Z.lt
          replace hQ := fun i hi => (hQ i hi).turned hg (by simp)
          replace Z := Z.turned hg (by simp)
          replace hb := hb.grown hg hb.size (fun k hk => by cases hk)
          simp only [List.getElem_toArray, List.getElem_cons_zero, List.getElem_cons_succ, Act.put, List.setIfInBounds_toArray, List.set_cons_zero, List.set_cons_succ]
          refine hK.out _ _ ?_ (fun hHeld2 => ?_)
          · trivial
          clear hK K hHeld
          have hHeld := hHeld2
          clear hHeld2
          try simp only [Act.put, List.setIfInBounds_toArray, List.set_cons_zero, List.set_cons_succ]
          refine wpAnyH_done (by kernel_rfl) ?_ _
          go_wp2
          go_meet
          exact ⟨_, _, _, rfl, hP, hQ, Z, hb, fun i hi => ⟨fun e => hqm i hi (by rw [e]), hnr i hi⟩, by have := hzm; simp only [ne_eq, Option.some.injEq] at this; omega, hzr⟩
        · rw [if_pos (by rfl)]
          obtain ⟨y10, hrun, M2, hg, hs⟩ := PMap.put Try.underlying57 Try.underlying54 int_info.1 int_info.2 M (j := 3) (by omega) (by rfl) (fun i _ hne => by show b + i ≠ b + 3; omega) (fun i hi => ⟨_, _, hQ i hi⟩)
          refine wp_insert_run _ _ _ _ _ rfl rfl rfl rfl hrun ?_
          clear M hrun
          have M := M2
          replace hQ := fun i hi => (hQ i hi).turned hg (hqm i hi)
          replace Z := Z.turned hg hzm
          replace hb := hb.grown hg hb.size (fun k hk => by cases hk; exact hmw)
          clear M2 hg hs
          refine hK.out _ _ ?_ (fun hHeld2 => ?_)
          · trivial
          clear hK K hHeld
          have hHeld := hHeld2
          clear hHeld2
          try simp only [Act.put, List.setIfInBounds_toArray]
          try simp only [List.getElem_toArray, List.getElem_cons_zero, List.getElem_cons_succ]
          refine wpAnyH_ready (rs := [4]) (by kernel_rfl) (by simp) ?_
          refine AllReadyH.cons rfl (fun K hK => ?_) AllReadyH.nil
          rw [if_pos (by rfl)]
          obtain ⟨y11, hrun, M2, hg, hs⟩ := PMap.put Try.underlying57 Try.underlying54 int_info.1 int_info.2 M (j := 1) (by omega) (by rfl) (fun i _ hne => by show b + i ≠ b + 1; omega) (fun i hi => ⟨_, _, hQ i hi⟩)
          refine wp_insert_run _ _ _ _ _ rfl rfl rfl rfl hrun ?_
          clear M hrun
          have M := M2
          replace hQ := fun i hi => (hQ i hi).turned hg (hqm i hi)
          replace Z := Z.turned hg hzm
          replace hb := hb.grown hg hb.size (fun k hk => by cases hk; exact hmw)
          clear M2 hg hs
          refine hK.out _ _ ?_ (fun hHeld2 => ?_)
          · trivial
          clear hK K hHeld
          have hHeld := hHeld2
          clear hHeld2
          try simp only [Act.put, List.setIfInBounds_toArray]
          try simp only [List.getElem_toArray, List.getElem_cons_zero, List.getElem_cons_succ]
          have M4 := M.full (fun i hi => by rcases upto4 hi with rfl | rfl | rfl | rfl <;> rfl)
          refine wpAnyH_take (i := 9) (v := ?_) rfl (by kernel_rfl) (by kernel_rfl) (by kernel_rfl) (fun _ _ _ h => h) (Or.inl ⟨by rfl, ?_⟩) hHeld ?_
          rotate_left
          · (intro w hSw; (try dsimp only at hSw); go_simp; try with_reducible rfl)
          try simp only [Act.put, List.getElem_toArray, List.getElem_cons_zero, List.getElem_cons_succ, List.setIfInBounds_toArray, List.set_cons_zero, List.set_cons_succ]
          refine wpAnyH_ready (rs := [10]) (by kernel_rfl) (by simp) ?_
          refine AllReadyH.cons rfl (fun K hK => ?_) AllReadyH.nil
          rw [if_pos (by rfl)]
          obtain ⟨wr, cnt, hrun, hP, hg, hs⟩ := PMap.range Try.underlying57 M4
          refine wp_range_run _ _ _ rfl rfl hrun ?_
          have hnr := fun i hi => Nat.ne_of_lt (hQ i hi).lt
          have hzr := Z.lt
          replace hQ := fun i hi => (hQ i hi).turned hg (by simp)
          replace Z := Z.turned hg (by simp)
          replace hb := hb.grown hg hb.size (fun k hk => by cases hk)
          simp only [List.getElem_toArray, List.getElem_cons_zero, List.getElem_cons_succ, Act.put, List.setIfInBounds_toArray, List.set_cons_zero, List.set_cons_succ]
          refine hK.out _ _ ?_ (fun hHeld2 => ?_)
          · trivial
          clear hK K hHeld
          have hHeld := hHeld2
          clear hHeld2
          try simp only [Act.put, List.setIfInBounds_toArray, List.set_cons_zero, List.set_cons_succ]
          refine wpAnyH_done (by kernel_rfl) ?_ _
          go_wp2
          go_meet
          exact ⟨_, _, _, rfl, hP, hQ, Z, hb, fun i hi => ⟨fun e => hqm i hi (by rw [e]), hnr i hi⟩, by have := hzm; simp only [ne_eq, Option.some.injEq] at this; omega, hzr⟩
      · rw [if_pos (by rfl)]
        obtain ⟨y12, hrun, M2, hg, hs⟩ := PMap.put Try.underlying57 Try.underlying54 int_info.1 int_info.2 M (j := 3) (by omega) (by rfl) (fun i _ hne => by show b + i ≠ b + 3; omega) (fun i hi => ⟨_, _, hQ i hi⟩)
        refine wp_insert_run _ _ _ _ _ rfl rfl rfl rfl hrun ?_
        clear M hrun
        have M := M2
        replace hQ := fun i hi => (hQ i hi).turned hg (hqm i hi)
        replace Z := Z.turned hg hzm
        replace hb := hb.grown hg hb.size (fun k hk => by cases hk; exact hmw)
        clear M2 hg hs
        refine hK.out _ _ ?_ (fun hHeld2 => ?_)
        · trivial
        clear hK K hHeld
        have hHeld := hHeld2
        clear hHeld2
        try simp only [Act.put, List.setIfInBounds_toArray]
        try simp only [List.getElem_toArray, List.getElem_cons_zero, List.getElem_cons_succ]
        refine wpAnyH_ready (rs := [4, 6]) (by kernel_rfl) (by simp) ?_
        refine AllReadyH.cons rfl (fun K hK => ?_) (AllReadyH.cons rfl (fun K hK => ?_) AllReadyH.nil)
        · rw [if_pos (by rfl)]
          obtain ⟨y13, hrun, M2, hg, hs⟩ := PMap.put Try.underlying57 Try.underlying54 int_info.1 int_info.2 M (j := 1) (by omega) (by rfl) (fun i _ hne => by show b + i ≠ b + 1; omega) (fun i hi => ⟨_, _, hQ i hi⟩)
          refine wp_insert_run _ _ _ _ _ rfl rfl rfl rfl hrun ?_
          clear M hrun
          have M := M2
          replace hQ := fun i hi => (hQ i hi).turned hg (hqm i hi)
          replace Z := Z.turned hg hzm
          replace hb := hb.grown hg hb.size (fun k hk => by cases hk; exact hmw)
          clear M2 hg hs
          refine hK.out _ _ ?_ (fun hHeld2 => ?_)
          · trivial
          clear hK K hHeld
          have hHeld := hHeld2
          clear hHeld2
          try simp only [Act.put, List.setIfInBounds_toArray]
          try simp only [List.getElem_toArray, List.getElem_cons_zero, List.getElem_cons_succ]
          refine wpAnyH_ready (rs := [6]) (by kernel_rfl) (by simp) ?_
          refine AllReadyH.cons rfl (fun K hK => ?_) AllReadyH.nil
          rw [if_pos (by rfl)]
          obtain ⟨y14, hrun, M2, hg, hs⟩ := PMap.put Try.underlying57 Try.underlying54 int_info.1 int_info.2 M (j := 2) (by omega) (by rfl) (fun i _ hne => by show b + i ≠ b + 2; omega) (fun i hi => ⟨_, _, hQ i hi⟩)
          refine wp_insert_run _ _ _ _ _ rfl rfl rfl rfl hrun ?_
          clear M hrun
          have M := M2
          replace hQ := fun i hi => (hQ i hi).turned hg (hqm i hi)
          replace Z := Z.turned hg hzm
          replace hb := hb.grown hg hb.size (fun k hk => by cases hk; exact hmw)
          clear M2 hg hs
          refine hK.out _ _ ?_ (fun hHeld2 => ?_)
          · trivial
          clear hK K hHeld
          have hHeld := hHeld2
          clear hHeld2
          try simp only [Act.put, List.setIfInBounds_toArray]
          try simp only [List.getElem_toArray, List.getElem_cons_zero, List.getElem_cons_succ]
          have M4 := M.full (fun i hi => by rcases upto4 hi with rfl | rfl | rfl | rfl <;> rfl)
          refine wpAnyH_take (i := 9) (v := ?_) rfl (by kernel_rfl) (by kernel_rfl) (by kernel_rfl) (fun _ _ _ h => h) (Or.inl ⟨by rfl, ?_⟩) hHeld ?_
          rotate_left
          · (intro w hSw; (try dsimp only at hSw); go_simp; try with_reducible rfl)
          try simp only [Act.put, List.getElem_toArray, List.getElem_cons_zero, List.getElem_cons_succ, List.setIfInBounds_toArray, List.set_cons_zero, List.set_cons_succ]
          refine wpAnyH_ready (rs := [10]) (by kernel_rfl) (by simp) ?_
          refine AllReadyH.cons rfl (fun K hK => ?_) AllReadyH.nil
          rw [if_pos (by rfl)]
          obtain ⟨wr, cnt, hrun, hP, hg, hs⟩ := PMap.range Try.underlying57 M4
          refine wp_range_run _ _ _ rfl rfl hrun ?_
          have hnr := fun i hi => Nat.ne_of_lt (hQ i hi).lt
          have hzr := Z.lt
          replace hQ := fun i hi => (hQ i hi).turned hg (by simp)
          replace Z := Z.turned hg (by simp)
          replace hb := hb.grown hg hb.size (fun k hk => by cases hk)
          simp only [List.getElem_toArray, List.getElem_cons_zero, List.getElem_cons_succ, Act.put, List.setIfInBounds_toArray, List.set_cons_zero, List.set_cons_succ]
          refine hK.out _ _ ?_ (fun hHeld2 => ?_)
          · trivial
          clear hK K hHeld
          have hHeld := hHeld2
          clear hHeld2
          try simp only [Act.put, List.setIfInBounds_toArray, List.set_cons_zero, List.set_cons_succ]
          refine wpAnyH_done (by kernel_rfl) ?_ _
          go_wp2
          go_meet
          exact ⟨_, _, _, rfl, hP, hQ, Z, hb, fun i hi => ⟨fun e => hqm i hi (by rw [e]), hnr i hi⟩, by have := hzm; simp only [ne_eq, Option.some.injEq] at this; omega, hzr⟩
        · rw [if_pos (by rfl)]
          obtain ⟨y15, hrun, M2, hg, hs⟩ := PMap.put Try.underlying57 Try.underlying54 int_info.1 int_info.2 M (j := 2) (by omega) (by rfl) (fun i _ hne => by show b + i ≠ b + 2; omega) (fun i hi => ⟨_, _, hQ i hi⟩)
          refine wp_insert_run _ _ _ _ _ rfl rfl rfl rfl hrun ?_
          clear M hrun
          have M := M2
          replace hQ := fun i hi => (hQ i hi).turned hg (hqm i hi)
          replace Z := Z.turned hg hzm
          replace hb := hb.grown hg hb.size (fun k hk => by cases hk; exact hmw)
          clear M2 hg hs
          refine hK.out _ _ ?_ (fun hHeld2 => ?_)
          · trivial
          clear hK K hHeld
          have hHeld := hHeld2
          clear hHeld2
          try simp only [Act.put, List.setIfInBounds_toArray]
          try simp only [List.getElem_toArray, List.getElem_cons_zero, List.getElem_cons_succ]
          refine wpAnyH_ready (rs := [4]) (by kernel_rfl) (by simp) ?_
          refine AllReadyH.cons rfl (fun K hK => ?_) AllReadyH.nil
          rw [if_pos (by rfl)]
          obtain ⟨y16, hrun, M2, hg, hs⟩ := PMap.put Try.underlying57 Try.underlying54 int_info.1 int_info.2 M (j := 1) (by omega) (by rfl) (fun i _ hne => by show b + i ≠ b + 1; omega) (fun i hi => ⟨_, _, hQ i hi⟩)
          refine wp_insert_run _ _ _ _ _ rfl rfl rfl rfl hrun ?_
          clear M hrun
          have M := M2
          replace hQ := fun i hi => (hQ i hi).turned hg (hqm i hi)
          replace Z := Z.turned hg hzm
          replace hb := hb.grown hg hb.size (fun k hk => by cases hk; exact hmw)
          clear M2 hg hs
          refine hK.out _ _ ?_ (fun hHeld2 => ?_)
          · trivial
          clear hK K hHeld
          have hHeld := hHeld2
          clear hHeld2
          try simp only [Act.put, List.setIfInBounds_toArray]
          try simp only [List.getElem_toArray, List.getElem_cons_zero, List.getElem_cons_succ]
          have M4 := M.full (fun i hi => by rcases upto4 hi with rfl | rfl | rfl | rfl <;> rfl)
          refine wpAnyH_take (i := 9) (v := ?_) rfl (by kernel_rfl) (by kernel_rfl) (by kernel_rfl) (fun _ _ _ h => h) (Or.inl ⟨by rfl, ?_⟩) hHeld ?_
          rotate_left
          · (intro w hSw; (try dsimp only at hSw); go_simp; try with_reducible rfl)
          try simp only [Act.put, List.getElem_toArray, List.getElem_cons_zero, List.getElem_cons_succ, List.setIfInBounds_toArray, List.set_cons_zero, List.set_cons_succ]
          refine wpAnyH_ready (rs := [10]) (by kernel_rfl) (by simp) ?_
          refine AllReadyH.cons rfl (fun K hK => ?_) AllReadyH.nil
          rw [if_pos (by rfl)]
          obtain ⟨wr, cnt, hrun, hP, hg, hs⟩ := PMap.range Try.underlying57 M4
          refine wp_range_run _ _ _ rfl rfl hrun ?_
          have hnr := fun i hi => Nat.ne_of_lt (hQ i hi).lt
          have hzr := Z.lt
          replace hQ := fun i hi => (hQ i hi).turned hg (by simp)
          replace Z := Z.turned hg (by simp)
          replace hb := hb.grown hg hb.size (fun k hk => by cases hk)
          simp only [List.getElem_toArray, List.getElem_cons_zero, List.getElem_cons_succ, Act.put, List.setIfInBounds_toArray, List.set_cons_zero, List.set_cons_succ]
          refine hK.out _ _ ?_ (fun hHeld2 => ?_)
          · trivial
          clear hK K hHeld
          have hHeld := hHeld2
          clear hHeld2
          try simp only [Act.put, List.setIfInBounds_toArray, List.set_cons_zero, List.set_cons_succ]
          refine wpAnyH_done (by kernel_rfl) ?_ _
          go_wp2
          go_meet
          exact ⟨_, _, _, rfl, hP, hQ, Z, hb, fun i hi => ⟨fun e => hqm i hi (by rw [e]), hnr i hi⟩, by have := hzm; simp only [ne_eq, Option.some.injEq] at this; omega, hzr⟩
    · rw [if_pos (by rfl)]
      obtain ⟨y17, hrun, M2, hg, hs⟩ := PMap.put Try.underlying57 Try.underlying54 int_info.1 int_info.2 M (j := 1) (by omega) (by rfl) (fun i _ hne => by show b + i ≠ b + 1; omega) (fun i hi => ⟨_, _, hQ i hi⟩)
      refine wp_insert_run _ _ _ _ _ rfl rfl rfl rfl hrun ?_
      clear M hrun
      have M := M2
      replace hQ := fun i hi => (hQ i hi).turned hg (hqm i hi)
      replace Z := Z.turned hg hzm
      replace hb := hb.grown hg hb.size (fun k hk => by cases hk; exact hmw)
      clear M2 hg hs
      refine hK.out _ _ ?_ (fun hHeld2 => ?_)
      · trivial
      clear hK K hHeld
      have hHeld := hHeld2
      clear hHeld2
      try simp only [Act.put, List.setIfInBounds_toArray]
      try simp only [List.getElem_toArray, List.getElem_cons_zero, List.getElem_cons_succ]
      refine wpAnyH_ready (rs := [2, 6, 8]) (by kernel_rfl) (by simp) ?_
      refine AllReadyH.cons rfl (fun K hK => ?_) (AllReadyH.cons rfl (fun K hK => ?_) (AllReadyH.cons rfl (fun K hK => ?_) AllReadyH.nil))
      · rw [if_pos (by rfl)]
        obtain ⟨y18, hrun, M2, hg, hs⟩ := PMap.put Try.underlying57 Try.underlying54 int_info.1 int_info.2 M (j := 0) (by omega) (by rfl) (fun i _ hne => by show b + i ≠ b + 0; omega) (fun i hi => ⟨_, _, hQ i hi⟩)
        refine wp_insert_run _ _ _ _ _ rfl rfl rfl rfl hrun ?_
        clear M hrun
        have M := M2
        replace hQ := fun i hi => (hQ i hi).turned hg (hqm i hi)
        replace Z := Z.turned hg hzm
        replace hb := hb.grown hg hb.size (fun k hk => by cases hk; exact hmw)
        clear M2 hg hs
        refine hK.out _ _ ?_ (fun hHeld2 => ?_)
        · trivial
        clear hK K hHeld
        have hHeld := hHeld2
        clear hHeld2
        try simp only [Act.put, List.setIfInBounds_toArray]
        try simp only [List.getElem_toArray, List.getElem_cons_zero, List.getElem_cons_succ]
        refine wpAnyH_ready (rs := [6, 8]) (by kernel_rfl) (by simp) ?_
        refine AllReadyH.cons rfl (fun K hK => ?_) (AllReadyH.cons rfl (fun K hK => ?_) AllReadyH.nil)
        · rw [if_pos (by rfl)]
          obtain ⟨y19, hrun, M2, hg, hs⟩ := PMap.put Try.underlying57 Try.underlying54 int_info.1 int_info.2 M (j := 2) (by omega) (by rfl) (fun i _ hne => by show b + i ≠ b + 2; omega) (fun i hi => ⟨_, _, hQ i hi⟩)
          refine wp_insert_run _ _ _ _ _ rfl rfl rfl rfl hrun ?_
          clear M hrun
          have M := M2
          replace hQ := fun i hi => (hQ i hi).turned hg (hqm i hi)
          replace Z := Z.turned hg hzm
          replace hb := hb.grown hg hb.size (fun k hk => by cases hk; exact hmw)
          clear M2 hg hs
          refine hK.out _ _ ?_ (fun hHeld2 => ?_)
          · trivial
          clear hK K hHeld
          have hHeld := hHeld2
          clear hHeld2
          try simp only [Act.put, List.setIfInBounds_toArray]
          try simp only [List.getElem_toArray, List.getElem_cons_zero, List.getElem_cons_succ]
          refine wpAnyH_ready (rs := [8]) (by kernel_rfl) (by simp) ?_
          refine AllReadyH.cons rfl (fun K hK => ?_) AllReadyH.nil
          rw [if_pos (by rfl)]
          obtain ⟨y20, hrun, M2, hg, hs⟩ := PMap.put Try.underlying57 Try.underlying54 int_info.1 int_info.2 M (j := 3) (by omega) (by rfl) (fun i _ hne => by show b + i ≠ b + 3; omega) (fun i hi => ⟨_, _, hQ i hi⟩)
          refine wp_insert_run _ _ _ _ _ rfl rfl rfl rfl hrun ?_
          clear M hrun
          have M := M2
          replace hQ := fun i hi => (hQ i hi).turned hg (hqm i hi)
          replace Z := Z.turned hg hzm
          replace hb := hb.grown hg hb.size (fun k hk => by cases hk; exact hmw)
          clear M2 hg hs
          refine hK.out _ _ ?_ (fun hHeld2 => ?_)
          · trivial
          clear hK K hHeld
          have hHeld := hHeld2
          clear hHeld2
          try simp only [Act.put, List.setIfInBounds_toArray]
          try simp only [List.getElem_toArray, List.getElem_cons_zero, List.getElem_cons_succ]
          have M4 := M.full (fun i hi => by rcases upto4 hi with rfl | rfl | rfl | rfl <;> rfl)
          refine wpAnyH_take (i := 9) (v := ?_) rfl (by kernel_rfl) (by kernel_rfl) (by kernel_rfl) (fun _ _ _ h => h) (Or.inl ⟨by rfl, ?_⟩) hHeld ?_
          rotate_left
          · (intro w hSw; (try dsimp only at hSw); go_simp; try with_reducible rfl)
          try simp only [Act.put, List.getElem_toArray, List.getElem_cons_zero, List.getElem_cons_succ, List.setIfInBounds_toArray, List.set_cons_zero, List.set_cons_succ]
          refine wpAnyH_ready (rs := [10]) (by kernel_rfl) (by simp) ?_
          refine AllReadyH.cons rfl (fun K hK => ?_) AllReadyH.nil
          rw [if_pos (by rfl)]
          obtain ⟨wr, cnt, hrun, hP, hg, hs⟩ := PMap.range Try.underlying57 M4
          refine wp_range_run _ _ _ rfl rfl hrun ?_
          have hnr := fun i hi => Nat.ne_of_lt (hQ i hi).lt
          have hzr := Z.lt
          replace hQ := fun i hi => (hQ i hi).turned hg (by simp)
          replace Z := Z.turned hg (by simp)
          replace hb := hb.grown hg hb.size (fun k hk => by cases hk)
          simp only [List.getElem_toArray, List.getElem_cons_zero, List.getElem_cons_succ, Act.put, List.setIfInBounds_toArray, List.set_cons_zero, List.set_cons_succ]
          refine hK.out _ _ ?_ (fun hHeld2 => ?_)
          · trivial
          clear hK K hHeld
          have hHeld := hHeld2
          clear hHeld2
          try simp only [Act.put, List.setIfInBounds_toArray, List.set_cons_zero, List.set_cons_succ]
          refine wpAnyH_done (by kernel_rfl) ?_ _
          go_wp2
          go_meet
          exact ⟨_, _, _, rfl, hP, hQ, Z, hb, fun i hi => ⟨fun e => hqm i hi (by rw [e]), hnr i hi⟩, by have := hzm; simp only [ne_eq, Option.some.injEq] at this; omega, hzr⟩
        · rw [if_pos (by rfl)]
          obtain ⟨y21, hrun, M2, hg, hs⟩ := PMap.put Try.underlying57 Try.underlying54 int_info.1 int_info.2 M (j := 3) (by omega) (by rfl) (fun i _ hne => by show b + i ≠ b + 3; omega) (fun i hi => ⟨_, _, hQ i hi⟩)
          refine wp_insert_run _ _ _ _ _ rfl rfl rfl rfl hrun ?_
          clear M hrun
          have M := M2
          replace hQ := fun i hi => (hQ i hi).turned hg (hqm i hi)
          replace Z := Z.turned hg hzm
          replace hb := hb.grown hg hb.size (fun k hk => by cases hk; exact hmw)
          clear M2 hg hs
          refine hK.out _ _ ?_ (fun hHeld2 => ?_)
          · trivial
          clear hK K hHeld
          have hHeld := hHeld2
          clear hHeld2
          try simp only [Act.put, List.setIfInBounds_toArray]
          try simp only [List.getElem_toArray, List.getElem_cons_zero, List.getElem_cons_succ]
          refine wpAnyH_ready (rs := [6]) (by kernel_rfl) (by simp) ?_
          refine AllReadyH.cons rfl (fun K hK => ?_) AllReadyH.nil
          rw [if_pos (by rfl)]
          obtain ⟨y22, hrun, M2, hg, hs⟩ := PMap.put Try.underlying57 Try.underlying54 int_info.1 int_info.2 M (j := 2) (by omega) (by rfl) (fun i _ hne => by show b + i ≠ b + 2; omega) (fun i hi => ⟨_, _, hQ i hi⟩)
          refine wp_insert_run _ _ _ _ _ rfl rfl rfl rfl hrun ?_
          clear M hrun
          have M := M2
          replace hQ := fun i hi => (hQ i hi).turned hg (hqm i hi)
          replace Z := Z.turned hg hzm
          replace hb := hb.grown hg hb.size (fun k hk => by cases hk; exact hmw)
          clear M2 hg hs
          refine hK.out _ _ ?_ (fun hHeld2 => ?_)
          · trivial
          clear hK K hHeld
          have hHeld := hHeld2
          clear hHeld2
          try simp only [Act.put, List.setIfInBounds_toArray]
          try simp only [List.getElem_toArray, List.getElem_cons_zero, List.getElem_cons_succ]
          have M4 := M.full (fun i hi => by rcases upto4 hi with rfl | rfl | rfl | rfl <;> rfl)
          refine wpAnyH_take (i := 9) (v := ?_) rfl (by kernel_rfl) (by kernel_rfl) (by kernel_rfl) (fun _ _ _ h => h) (Or.inl ⟨by rfl, ?_⟩) hHeld ?_
          rotate_left
          · (intro w hSw; (try dsimp only at hSw); go_simp; try with_reducible rfl)
          try simp only [Act.put, List.getElem_toArray, List.getElem_cons_zero, List.getElem_cons_succ, List.setIfInBounds_toArray, List.set_cons_zero, List.set_cons_succ]
          refine wpAnyH_ready (rs := [10]) (by kernel_rfl) (by simp) ?_
          refine AllReadyH.cons rfl (fun K hK => ?_) AllReadyH.nil
          rw [if_pos (by rfl)]
          obtain ⟨wr, cnt, hrun, hP, hg, hs⟩ := PMap.range Try.underlying57 M4
          refine wp_range_run _ _ _ rfl rfl hrun ?_
          have hnr := fun i hi => Nat.ne_of_lt (hQ i hi).lt
          have hzr := Z.lt
          replace hQ := fun i hi => (hQ i hi).turned hg (by simp)
          replace Z := Z.turned hg (by simp)
          replace hb := hb.grown hg hb.size (fun k hk => by cases hk)
          simp only [List.getElem_toArray, List.getElem_cons_zero, List.getElem_cons_succ, Act.put, List.setIfInBounds_toArray, List.set_cons_zero, List.set_cons_succ]
          refine hK.out _ _ ?_ (fun hHeld2 => ?_)
          · trivial
          clear hK K hHeld
          have hHeld := hHeld2
          clear hHeld2
          try simp only [Act.put, List.setIfInBounds_toArray, List.set_cons_zero, List.set_cons_succ]
          refine wpAnyH_done (by kernel_rfl) ?_ _
          go_wp2
          go_meet
          exact ⟨_, _, _, rfl, hP, hQ, Z, hb, fun i hi => ⟨fun e => hqm i hi (by rw [e]), hnr i hi⟩, by have := hzm; simp only [ne_eq, Option.some.injEq] at this; omega, hzr⟩
      · rw [if_pos (by rfl)]
        obtain ⟨y23, hrun, M2, hg, hs⟩ := PMap.put Try.underlying57 Try.underlying54 int_info.1 int_info.2 M (j := 2) (by omega) (by rfl) (fun i _ hne => by show b + i ≠ b + 2; omega) (fun i hi => ⟨_, _, hQ i hi⟩)
        refine wp_insert_run _ _ _ _ _ rfl rfl rfl rfl hrun ?_
        clear M hrun
        have M := M2
        replace hQ := fun i hi => (hQ i hi).turned hg (hqm i hi)
        replace Z := Z.turned hg hzm
        replace hb := hb.grown hg hb.size (fun k hk => by cases hk; exact hmw)
        clear M2 hg hs
        refine hK.out _ _ ?_ (fun hHeld2 => ?_)
        · trivial
        clear hK K hHeld
        have hHeld := hHeld2
        clear hHeld2
        try simp only [Act.put, List.setIfInBounds_toArray]
        try simp only [List.getElem_toArray, List.getElem_cons_zero, List.getElem_cons_succ]
        refine wpAnyH_ready (rs := [2, 8]) (by kernel_rfl) (by simp) ?_
        refine AllReadyH.cons rfl (fun K hK => ?_) (AllReadyH.cons rfl (fun K hK => ?_) AllReadyH.nil)
        · rw [if_pos (by rfl)]
          obtain ⟨y24, hrun, M2, hg, hs⟩ := PMap.put Try.underlying57 Try.underlying54 int_info.1 int_info.2 M (j := 0) (by omega) (by rfl) (fun i _ hne => by show b + i ≠ b + 0; omega) (fun i hi => ⟨_, _, hQ i hi⟩)
          refine wp_insert_run _ _ _ _ _ rfl rfl rfl rfl hrun ?_
          clear M hrun
          have M := M2
          replace hQ := fun i hi => (hQ i hi).turned hg (hqm i hi)
          replace Z := Z.turned hg hzm
          replace hb := hb.grown hg hb.size (fun k hk => by cases hk; exact hmw)
          clear M2 hg hs
          refine hK.out _ _ ?_ (fun hHeld2 => ?_)
          · trivial
          clear hK K hHeld
          have hHeld := hHeld2
          clear hHeld2
          try simp only [Act.put, List.setIfInBounds_toArray]
          try simp only [List.getElem_toArray, List.getElem_cons_zero, List.getElem_cons_succ]
          refine wpAnyH_ready (rs := [8]) (by kernel_rfl) (by simp) ?_
          refine AllReadyH.cons rfl (fun K hK => ?_) AllReadyH.nil
          rw [if_pos (by rfl)]
          obtain ⟨y25, hrun, M2, hg, hs⟩ := PMap.put Try.underlying57 Try.underlying54 int_info.1 int_info.2 M (j := 3) (by omega) (by rfl) (fun i _ hne => by show b + i ≠ b + 3; omega) (fun i hi => ⟨_, _, hQ i hi⟩)
          refine wp_insert_run _ _ _ _ _ rfl rfl rfl rfl hrun ?_
          clear M hrun
          have M := M2
          replace hQ := fun i hi => (hQ i hi).turned hg (hqm i hi)
          replace Z := Z.turned hg hzm
          replace hb := hb.grown hg hb.size (fun k hk => by cases hk; exact hmw)
          clear M2 hg hs
          refine hK.out _ _ ?_ (fun hHeld2 => ?_)
          · trivial
          clear hK K hHeld
          have hHeld := hHeld2
          clear hHeld2
          try simp only [Act.put, List.setIfInBounds_toArray]
          try simp only [List.getElem_toArray, List.getElem_cons_zero, List.getElem_cons_succ]
          have M4 := M.full (fun i hi => by rcases upto4 hi with rfl | rfl | rfl | rfl <;> rfl)
          refine wpAnyH_take (i := 9) (v := ?_) rfl (by kernel_rfl) (by kernel_rfl) (by kernel_rfl) (fun _ _ _ h => h) (Or.inl ⟨by rfl, ?_⟩) hHeld ?_
          rotate_left
          · (intro w hSw; (try dsimp only at hSw); go_simp; try with_reducible rfl)
          try simp only [Act.put, List.getElem_toArray, List.getElem_cons_zero, List.getElem_cons_succ, List.setIfInBounds_toArray, List.set_cons_zero, List.set_cons_succ]
          refine wpAnyH_ready (rs := [10]) (by kernel_rfl) (by simp) ?_
          refine AllReadyH.cons rfl (fun K hK => ?_) AllReadyH.nil
          rw [if_pos (by rfl)]
          obtain ⟨wr, cnt, hrun, hP, hg, hs⟩ := PMap.range Try.underlying57 M4
          refine wp_range_run _ _ _ rfl rfl hrun ?_
          have hnr := fun i hi => Nat.ne_of_lt (hQ i hi).lt
          have hzr := Z.lt
          replace hQ := fun i hi => (hQ i hi).turned hg (by simp)
          replace Z := Z.turned hg (by simp)
          replace hb := hb.grown hg hb.size (fun k hk => by cases hk)
          simp only [List.getElem_toArray, List.getElem_cons_zero, List.getElem_cons_succ, Act.put, List.setIfInBounds_toArray, List.set_cons_zero, List.set_cons_succ]
          refine hK.out _ _ ?_ (fun hHeld2 => ?_)
          · trivial
          clear hK K hHeld
          have hHeld := hHeld2
          clear hHeld2
          try simp only [Act.put, List.setIfInBounds_toArray, List.set_cons_zero, List.set_cons_succ]
          refine wpAnyH_done (by kernel_rfl) ?_ _
          go_wp2
          go_meet
          exact ⟨_, _, _, rfl, hP, hQ, Z, hb, fun i hi => ⟨fun e => hqm i hi (by rw [e]), hnr i hi⟩, by have := hzm; simp only [ne_eq, Option.some.injEq] at this; omega, hzr⟩
        · rw [if_pos (by rfl)]
          obtain ⟨y26, hrun, M2, hg, hs⟩ := PMap.put Try.underlying57 Try.underlying54 int_info.1 int_info.2 M (j := 3) (by omega) (by rfl) (fun i _ hne => by show b + i ≠ b + 3; omega) (fun i hi => ⟨_, _, hQ i hi⟩)
          refine wp_insert_run _ _ _ _ _ rfl rfl rfl rfl hrun ?_
          clear M hrun
          have M := M2
          replace hQ := fun i hi => (hQ i hi).turned hg (hqm i hi)
          replace Z := Z.turned hg hzm
          replace hb := hb.grown hg hb.size (fun k hk => by cases hk; exact hmw)
          clear M2 hg hs
          refine hK.out _ _ ?_ (fun hHeld2 => ?_)
          · trivial
          clear hK K hHeld
          have hHeld := hHeld2
          clear hHeld2
          try simp only [Act.put, List.setIfInBounds_toArray]
          try simp only [List.getElem_toArray, List.getElem_cons_zero, List.getElem_cons_succ]
          refine wpAnyH_ready (rs := [2]) (by kernel_rfl) (by simp) ?_
          refine AllReadyH.cons rfl (fun K hK => ?_) AllReadyH.nil
          rw [if_pos (by rfl)]
          obtain ⟨y27, hrun, M2, hg, hs⟩ := PMap.put Try.underlying57 Try.underlying54 int_info.1 int_info.2 M (j := 0) (by omega) (by rfl) (fun i _ hne => by show b + i ≠ b + 0; omega) (fun i hi => ⟨_, _, hQ i hi⟩)
          refine wp_insert_run _ _ _ _ _ rfl rfl rfl rfl hrun ?_
          clear M hrun
          have M := M2
          replace hQ := fun i hi => (hQ i hi).turned hg (hqm i hi)
          replace Z := Z.turned hg hzm
          replace hb := hb.grown hg hb.size (fun k hk => by cases hk; exact hmw)
          clear M2 hg hs
          refine hK.out _ _ ?_ (fun hHeld2 => ?_)
          · trivial
          clear hK K hHeld
          have hHeld := hHeld2
          clear hHeld2
          try simp only [Act.put, List.setIfInBounds_toArray]
          try simp only [List.getElem_toArray, List.getElem_cons_zero, List.getElem_cons_succ]
          have M4 := M.full (fun i hi => by rcases upto4 hi with rfl | rfl | rfl | rfl <;> rfl)
          refine wpAnyH_take (i := 9) (v := ?_) rfl (by kernel_rfl) (by kernel_rfl) (by kernel_rfl) (fun _ _ _ h => h) (Or.inl ⟨by rfl, ?_⟩) hHeld ?_
          rotate_left
          · (intro w hSw; (try dsimp only at hSw); go_simp; try with_reducible rfl)
          try simp only [Act.put, List.getElem_toArray, List.getElem_cons_zero, List.getElem_cons_succ, List.setIfInBounds_toArray, List.set_cons_zero, List.set_cons_succ]
          refine wpAnyH_ready (rs := [10]) (by kernel_rfl) (by simp) ?_
          refine AllReadyH.cons rfl (fun K hK => ?_) AllReadyH.nil
          rw [if_pos (by rfl)]
          obtain ⟨wr, cnt, hrun, hP, hg, hs⟩ := PMap.range Try.underlying57 M4
          refine wp_range_run _ _ _ rfl rfl hrun ?_
          have hnr := fun i hi => Nat.ne_of_lt (hQ i hi).lt
          have hzr := Z.lt
          replace hQ := fun i hi => (hQ i hi).turned hg (by simp)
          replace Z := Z.turned hg (by simp)
          replace hb := hb.grown hg hb.size (fun k hk => by cases hk)
          simp only [List.getElem_toArray, List.getElem_cons_zero, List.getElem_cons_succ, Act.put, List.setIfInBounds_toArray, List.set_cons_zero, List.set_cons_succ]
          refine hK.out _ _ ?_ (fun hHeld2 => ?_)
          · trivial
          clear hK K hHeld
          have hHeld := hHeld2
          clear hHeld2
          try simp only [Act.put, List.setIfInBounds_toArray, List.set_cons_zero, List.set_cons_succ]
          refine wpAnyH_done (by kernel_rfl) ?_ _
          go_wp2
          go_meet
          exact ⟨_, _, _, rfl, hP, hQ, Z, hb, fun i hi => ⟨fun e => hqm i hi (by rw [e]), hnr i hi⟩, by have := hzm; simp only [ne_eq, Option.some.injEq] at this; omega, hzr⟩
      · rw [if_pos (by rfl)]
        obtain ⟨y28, hrun, M2, hg, hs⟩ := PMap.put Try.underlying57 Try.underlying54 int_info.1 int_info.2 M (j := 3) (by omega) (by rfl) (fun i _ hne => by show b + i ≠ b + 3; omega) (fun i hi => ⟨_, _, hQ i hi⟩)
        refine wp_insert_run _ _ _ _ _ rfl rfl rfl rfl hrun ?_
        clear M hrun
        have M := M2
        replace hQ := fun i hi => (hQ i hi).turned hg (hqm i hi)
        replace Z := Z.turned hg hzm
        replace hb := hb.grown hg hb.size (fun k hk => by cases hk; exact hmw)
        clear M2 hg hs
        refine hK.out _ _ ?_ (fun hHeld2 => ?_)
        · trivial
        clear hK K hHeld
        have hHeld := hHeld2
        clear hHeld2
        try simp only [Act.put, List.setIfInBounds_toArray]
        try simp only [List.getElem_toArray, List.getElem_cons_zero, List.getElem_cons_succ]
        refine wpAnyH_ready (rs := [2, 6]) (by kernel_rfl) (by simp) ?_
        refine AllReadyH.cons rfl (fun K hK => ?_) (AllReadyH.cons rfl (fun K hK => ?_) AllReadyH.nil)
        · rw [if_pos (by rfl)]
          obtain ⟨y29, hrun, M2, hg, hs⟩ := PMap.put Try.underlying57 Try.underlying54 int_info.1 int_info.2 M (j := 0) (by omega) (by rfl) (fun i _ hne => by show b + i ≠ b + 0; omega) (fun i hi => ⟨_, _, hQ i hi⟩)
          refine wp_insert_run _ _ _ _ _ rfl rfl rfl rfl hrun ?_
          clear M hrun
          have M := M2
          replace hQ := fun i hi => (hQ i hi).turned hg (hqm i hi)
          replace Z := Z.turned hg hzm
          replace hb := hb.grown hg hb.size (fun k hk => by cases hk; exact hmw)
          clear M2 hg hs
          refine hK.out _ _ ?_ (fun hHeld2 => ?_)
          · trivial
          clear hK K hHeld
          have hHeld := hHeld2
          clear hHeld2
          try simp only [Act.put, List.setIfInBounds_toArray]
          try simp only [List.getElem_toArray, List.getElem_cons_zero, List.getElem_cons_succ]
          refine wpAnyH_ready (rs := [6]) (by kernel_rfl) (by simp) ?_
          refine AllReadyH.cons rfl (fun K hK => ?_) AllReadyH.nil
          rw [if_pos (by rfl)]
          obtain ⟨y30, hrun, M2, hg, hs⟩ := PMap.put Try.underlying57 Try.underlying54 int_info.1 int_info.2 M (j := 2) (by omega) (by rfl) (fun i _ hne => by show b + i ≠ b + 2; omega) (fun i hi => ⟨_, _, hQ i hi⟩)
          refine wp_insert_run _ _ _ _ _ rfl rfl rfl rfl hrun ?_
          clear M hrun
          have M := M2
          replace hQ := fun i hi => (hQ i hi).turned hg (hqm i hi)
          replace Z := Z.turned hg hzm
          replace hb := hb.grown hg hb.size (fun k hk => by cases hk; exact hmw)
          clear M2 hg hs
          refine hK.out _ _ ?_ (fun hHeld2 => ?_)
          · trivial
          clear hK K hHeld
          have hHeld := hHeld2
          clear hHeld2
          try simp only [Act.put, List.setIfInBounds_toArray]
          try simp only [List.getElem_toArray, List.getElem_cons_zero, List.getElem_cons_succ]
          have M4 := M.full (fun i hi => by rcases upto4 hi with rfl | rfl | rfl | rfl <;> rfl)
          refine wpAnyH_take (i := 9) (v := ?_) rfl (by kernel_rfl) (by kernel_rfl) (by kernel_rfl) (fun _ _ _ h => h) (Or.inl ⟨by rfl, ?_⟩) hHeld ?_
          rotate_left
          · (intro w hSw; (try dsimp only at hSw); go_simp; try with_reducible rfl)
          try simp only [Act.put, List.getElem_toArray, List.getElem_cons_zero, List.getElem_cons_succ, List.setIfInBounds_toArray, List.set_cons_zero, List.set_cons_succ]
          refine wpAnyH_ready (rs := [10]) (by kernel_rfl) (by simp) ?_
          refine AllReadyH.cons rfl (fun K hK => ?_) AllReadyH.nil
          rw [if_pos (by rfl)]
          obtain ⟨wr, cnt, hrun, hP, hg, hs⟩ := PMap.range Try.underlying57 M4
          refine wp_range_run _ _ _ rfl rfl hrun ?_
          have hnr := fun i hi => Nat.ne_of_lt (hQ i hi).lt
          have hzr := Z.lt
          replace hQ := fun i hi => (hQ i hi).turned hg (by simp)
          replace Z := Z.turned hg (by simp)
          replace hb := hb.grown hg hb.size (fun k hk => by cases hk)
          simp only [List.getElem_toArray, List.getElem_cons_zero, List.getElem_cons_succ, Act.put, List.setIfInBounds_toArray, List.set_cons_zero, List.set_cons_succ]
          refine hK.out _ _ ?_ (fun hHeld2 => ?_)
          · trivial
          clear hK K hHeld
          have hHeld := hHeld2
          clear hHeld2
          try simp only [Act.put, List.setIfInBounds_toArray, List.set_cons_zero, List.set_cons_succ]
          refine wpAnyH_done (by kernel_rfl) ?_ _
          go_wp2
          go_meet
          exact ⟨_, _, _, rfl, hP, hQ, Z, hb, fun i hi => ⟨fun e => hqm i hi (by rw [e]), hnr i hi⟩, by have := hzm; simp only [ne_eq, Option.some.injEq] at this; omega, hzr⟩
        · rw [if_pos (by rfl)]
          obtain ⟨y31, hrun, M2, hg, hs⟩ := PMap.put Try.underlying57 Try.underlying54 int_info.1 int_info.2 M (j := 2) (by omega) (by rfl) (fun i _ hne => by show b + i ≠ b + 2; omega) (fun i hi => ⟨_, _, hQ i hi⟩)
          refine wp_insert_run _ _ _ _ _ rfl rfl rfl rfl hrun ?_
          clear M hrun
          have M := M2
          replace hQ := fun i hi => (hQ i hi).turned hg (hqm i hi)
          replace Z := Z.turned hg hzm
          replace hb := hb.grown hg hb.size (fun k hk => by cases hk; exact hmw)
          clear M2 hg hs
          refine hK.out _ _ ?_ (fun hHeld2 => ?_)
          · trivial
          clear hK K hHeld
          have hHeld := hHeld2
          clear hHeld2
          try simp only [Act.put, List.setIfInBounds_toArray]
          try simp only [List.getElem_toArray, List.getElem_cons_zero, List.getElem_cons_succ]
          refine wpAnyH_ready (rs := [2]) (by kernel_rfl) (by simp) ?_
          refine AllReadyH.cons rfl (fun K hK => ?_) AllReadyH.nil
          rw [if_pos (by rfl)]
          obtain ⟨y32, hrun, M2, hg, hs⟩ := PMap.put Try.underlying57 Try.underlying54 int_info.1 int_info.2 M (j := 0) (by omega) (by rfl) (fun i _ hne => by show b + i ≠ b + 0; omega) (fun i hi => ⟨_, _, hQ i hi⟩)
          refine wp_insert_run _ _ _ _ _ rfl rfl rfl rfl hrun ?_
          clear M hrun
          have M := M2
          replace hQ := fun i hi => (hQ i hi).turned hg (hqm i hi)
          replace Z := Z.turned hg hzm
          replace hb := hb.grown hg hb.size (fun k hk => by cases hk; exact hmw)
          clear M2 hg hs
          refine hK.out _ _ ?_ (fun hHeld2 => ?_)
          · trivial
          clear hK K hHeld
          have hHeld := hHeld2
          clear hHeld2
          try simp only [Act.put, List.setIfInBounds_toArray]
          try simp only [List.getElem_toArray, List.getElem_cons_zero, List.getElem_cons_succ]
          have M4 := M.full (fun i hi => by rcases upto4 hi with rfl | rfl | rfl | rfl <;> rfl)
          refine wpAnyH_take (i := 9) (v := ?_) rfl (by kernel_rfl) (by kernel_rfl) (by kernel_rfl) (fun _ _ _ h => h) (Or.inl ⟨by rfl, ?_⟩) hHeld ?_
          rotate_left
          · (intro w hSw; (try dsimp only at hSw); go_simp; try with_reducible rfl)
          try simp only [Act.put, List.getElem_toArray, List.getElem_cons_zero, List.getElem_cons_succ, List.setIfInBounds_toArray, List.set_cons_zero, List.set_cons_succ]
          refine wpAnyH_ready (rs := [10]) (by kernel_rfl) (by simp) ?_
          refine AllReadyH.cons rfl (fun K hK => ?_) AllReadyH.nil
          rw [if_pos (by rfl)]
          obtain ⟨wr, cnt, hrun, hP, hg, hs⟩ := PMap.range Try.underlying57 M4
          refine wp_range_run _ _ _ rfl rfl hrun ?_
          have hnr := fun i hi => Nat.ne_of_lt (hQ i hi).lt
          have hzr := Z.lt
          replace hQ := fun i hi => (hQ i hi).turned hg (by simp)
          replace Z := Z.turned hg (by simp)
          replace hb := hb.grown hg hb.size (fun k hk => by cases hk)
          simp only [List.getElem_toArray, List.getElem_cons_zero, List.getElem_cons_succ, Act.put, List.setIfInBounds_toArray, List.set_cons_zero, List.set_cons_succ]
          refine hK.out _ _ ?_ (fun hHeld2 => ?_)
          · trivial
          clear hK K hHeld
          have hHeld := hHeld2
          clear hHeld2
          try simp only [Act.put, List.setIfInBounds_toArray, List.set_cons_zero, List.set_cons_succ]
          refine wpAnyH_done (by kernel_rfl) ?_ _
          go_wp2
          go_meet
          exact ⟨_, _, _, rfl, hP, hQ, Z, hb, fun i hi => ⟨fun e => hqm i hi (by rw [e]), hnr i hi⟩, by have := hzm; simp only [ne_eq, Option.some.injEq] at this; omega, hzr⟩
    · rw [if_pos (by rfl)]
      obtain ⟨y33, hrun, M2, hg, hs⟩ := PMap.put Try.underlying57 Try.underlying54 int_info.1 int_info.2 M (j := 2) (by omega) (by rfl) (fun i _ hne => by show b + i ≠ b + 2; omega) (fun i hi => ⟨_, _, hQ i hi⟩)
      refine wp_insert_run _ _ _ _ _ rfl rfl rfl rfl hrun ?_
      clear M hrun
      have M := M2
      replace hQ := fun i hi => (hQ i hi).turned hg (hqm i hi)
      replace Z := Z.turned hg hzm
      replace hb := hb.grown hg hb.size (fun k hk => by cases hk; exact hmw)
      clear M2 hg hs
      refine hK.out _ _ ?_ (fun hHeld2 => ?_)
      · trivial
      clear hK K hHeld
      have hHeld := hHeld2
      clear hHeld2
      try simp only [Act.put, List.setIfInBounds_toArray]
      try simp only [List.getElem_toArray, List.getElem_cons_zero, List.getElem_cons_succ]
      refine wpAnyH_ready (rs := [2, 4, 8]) (by kernel_rfl) (by simp) ?_
      refine AllReadyH.cons rfl (fun K hK => ?_) (AllReadyH.cons rfl (fun K hK => ?_) (AllReadyH.cons rfl (fun K hK => ?_) AllReadyH.nil))
      · rw [if_pos (by rfl)]
        obtain ⟨y34, hrun, M2, hg, hs⟩ := PMap.put Try.underlying57 Try.underlying54 int_info.1 int_info.2 M (j := 0) (by omega) (by rfl) (fun i _ hne => by show b + i ≠ b + 0; omega) (fun i hi => ⟨_, _, hQ i hi⟩)
        refine wp_insert_run _ _ _ _ _ rfl rfl rfl rfl hrun ?_
        clear M hrun
        have M := M2
        replace hQ := fun i hi => (hQ i hi).turned hg (hqm i hi)
        replace Z := Z.turned hg hzm
        replace hb := hb.grown hg hb.size (fun k hk => by cases hk; exact hmw)
        clear M2 hg hs
        refine hK.out _ _ ?_ (fun hHeld2 => ?_)
        · trivial
        clear hK K hHeld
        have hHeld := hHeld2
        clear hHeld2
        try simp only [Act.put, List.setIfInBounds_toArray]
        try simp only [List.getElem_toArray, List.getElem_cons_zero, List.getElem_cons_succ]
        refine wpAnyH_ready (rs := [4, 8]) (by kernel_rfl) (by simp) ?_
        refine AllReadyH.cons rfl (fun K hK => ?_) (AllReadyH.cons rfl (fun K hK => ?_) AllReadyH.nil)
        · rw [if_pos (by rfl)]
          obtain ⟨y35, hrun, M2, hg, hs⟩ := PMap.put Try.underlying57 Try.underlying54 int_info.1 int_info.2 M (j := 1) (by omega) (by rfl) (fun i _ hne => by show b + i ≠ b + 1; omega) (fun i hi => ⟨_, _, hQ i hi⟩)
          refine wp_insert_run _ _ _ _ _ rfl rfl rfl rfl hrun ?_
          clear M hrun
          have M := M2
          replace hQ := fun i hi => (hQ i hi).turned hg (hqm i hi)
          replace Z := Z.turned hg hzm
          replace hb := hb.grown hg hb.size (fun k hk => by cases hk; exact hmw)
          clear M2 hg hs
          refine hK.out _ _ ?_ (fun hHeld2 => ?_)
          · trivial
          clear hK K hHeld
          have hHeld := hHeld2
          clear hHeld2
          try simp only [Act.put, List.setIfInBounds_toArray]
          try simp only [List.getElem_toArray, List.getElem_cons_zero, List.getElem_cons_succ]
          refine wpAnyH_ready (rs := [8]) (by kernel_rfl) (by simp) ?_
          refine AllReadyH.cons rfl (fun K hK => ?_) AllReadyH.nil
          rw [if_pos (by rfl)]
          obtain ⟨y36, hrun, M2, hg, hs⟩ := PMap.put Try.underlying57 Try.underlying54 int_info.1 int_info.2 M (j := 3) (by omega) (by rfl) (fun i _ hne => by show b + i ≠ b + 3; omega) (fun i hi => ⟨_, _, hQ i hi⟩)
          refine wp_insert_run _ _ _ _ _ rfl rfl rfl rfl hrun ?_
          clear M hrun
          have M := M2
          replace hQ := fun i hi => (hQ i hi).turned hg (hqm i hi)
          replace Z := Z.turned hg hzm
          replace hb := hb.grown hg hb.size (fun k hk => by cases hk; exact hmw)
          clear M2 hg hs
          refine hK.out _ _ ?_ (fun hHeld2 => ?_)
          · trivial
          clear hK K hHeld
          have hHeld := hHeld2
          clear hHeld2
          try simp only [Act.put, List.setIfInBounds_toArray]
          try simp only [List.getElem_toArray, List.getElem_cons_zero, List.getElem_cons_succ]
          have M4 := M.full (fun i hi => by rcases upto4 hi with rfl | rfl | rfl | rfl <;> rfl)
          refine wpAnyH_take (i := 9) (v := ?_) rfl (by kernel_rfl) (by kernel_rfl) (by kernel_rfl) (fun _ _ _ h => h) (Or.inl ⟨by rfl, ?_⟩) hHeld ?_
          rotate_left
          · (intro w hSw; (try dsimp only at hSw); go_simp; try with_reducible rfl)
          try simp only [Act.put, List.getElem_toArray, List.getElem_cons_zero, List.getElem_cons_succ, List.setIfInBounds_toArray, List.set_cons_zero, List.set_cons_succ]
          refine wpAnyH_ready (rs := [10]) (by kernel_rfl) (by simp) ?_
          refine AllReadyH.cons rfl (fun K hK => ?_) AllReadyH.nil
          rw [if_pos (by rfl)]
          obtain ⟨wr, cnt, hrun, hP, hg, hs⟩ := PMap.range Try.underlying57 M4
          refine wp_range_run _ _ _ rfl rfl hrun ?_
          have hnr := fun i hi => Nat.ne_of_lt (hQ i hi).lt
          have hzr := Z.lt
          replace hQ := fun i hi => (hQ i hi).turned hg (by simp)
          replace Z := Z.turned hg (by simp)
          replace hb := hb.grown hg hb.size (fun k hk => by cases hk)
          simp only [List.getElem_toArray, List.getElem_cons_zero, List.getElem_cons_succ, Act.put, List.setIfInBounds_toArray, List.set_cons_zero, List.set_cons_succ]
          refine hK.out _ _ ?_ (fun hHeld2 => ?_)
          · trivial
          clear hK K hHeld
          have hHeld := hHeld2
          clear hHeld2
          try simp only [Act.put, List.setIfInBounds_toArray, List.set_cons_zero, List.set_cons_succ]
          refine wpAnyH_done (by kernel_rfl) ?_ _
          go_wp2
          go_meet
          exact ⟨_, _, _, rfl, hP, hQ, Z, hb, fun i hi => ⟨fun e => hqm i hi (by rw [e]), hnr i hi⟩, by have := hzm; simp only [ne_eq, Option.some.injEq] at this; omega, hzr⟩
        · rw [if_pos (by rfl)]
          obtain ⟨y37, hrun, M2, hg, hs⟩ := PMap.put Try.underlying57 Try.underlying54 int_info.1 int_info.2 M (j := 3) (by omega) (by rfl) (fun i _ hne => by show b + i ≠ b + 3; omega) (fun i hi => ⟨_, _, hQ i hi⟩)
          refine wp_insert_run _ _ _ _ _ rfl rfl rfl rfl hrun ?_
          clear M hrun
          have M := M2
          replace hQ := fun i hi => (hQ i hi).turned hg (hqm i hi)
          replace Z := Z.turned hg hzm
          replace hb := hb.grown hg hb.size (fun k hk => by cases hk; exact hmw)
          clear M2 hg hs
          refine hK.out _ _ ?_ (fun hHeld2 => ?_)
          · trivial
          clear hK K hHeld
          have hHeld := hHeld2
          clear hHeld2
          try simp only [Act.put, List.setIfInBounds_toArray]
          try simp only [List.getElem_toArray, List.getElem_cons_zero, List.getElem_cons_succ]
          refine wpAnyH_ready (rs := [4]) (by kernel_rfl) (by simp) ?_
          refine AllReadyH.cons rfl (fun K hK => ?_) AllReadyH.nil
          rw [if_pos (by rfl)]
          obtain ⟨y38, hrun, M2, hg, hs⟩ := PMap.put Try.underlying57 Try.underlying54 int_info.1 int_info.2 M (j := 1) (by omega) (by rfl) (fun i _ hne => by show b + i ≠ b + 1; omega) (fun i hi => ⟨_, _, hQ i hi⟩)
          refine wp_insert_run _ _ _ _ _ rfl rfl rfl rfl hrun ?_
          clear M hrun
          have M := M2
          replace hQ := fun i hi => (hQ i hi).turned hg (hqm i hi)
          replace Z := Z.turned hg hzm
          replace hb := hb.grown hg hb.size (fun k hk => by cases hk; exact hmw)
          clear M2 hg hs
          refine hK.out _ _ ?_ (fun hHeld2 => ?_)
          · trivial
          clear hK K hHeld
          have hHeld := hHeld2
          clear hHeld2
          try simp only [Act.put, List.setIfInBounds_toArray]
          try simp only [List.getElem_toArray, List.getElem_cons_zero, List.getElem_cons_succ]
          have M4 := M.full (fun i hi => by rcases upto4 hi with rfl | rfl | rfl | rfl <;> rfl)
          refine wpAnyH_take (i := 9) (v := ?_) rfl (by kernel_rfl) (by kernel_rfl) (by kernel_rfl) (fun _ _ _ h => h) (Or.inl ⟨by rfl, ?_⟩) hHeld ?_
          rotate_left
          · (intro w hSw; (try dsimp only at hSw); go_simp; try with_reducible rfl)
          try simp only [Act.put, List.getElem_toArray, List.getElem_cons_zero, List.getElem_cons_succ, List.setIfInBounds_toArray, List.set_cons_zero, List.set_cons_succ]
          refine wpAnyH_ready (rs := [10]) (by kernel_rfl) (by simp) ?_
          refine AllReadyH.cons rfl (fun K hK => ?_) AllReadyH.nil
          rw [if_pos (by rfl)]
          obtain ⟨wr, cnt, hrun, hP, hg, hs⟩ := PMap.range Try.underlying57 M4
          refine wp_range_run _ _ _ rfl rfl hrun ?_
          have hnr := fun i hi => Nat.ne_of_lt (hQ i hi).lt
          have hzr := Z.lt
          replace hQ := fun i hi => (hQ i hi).turned hg (by simp)
          replace Z := Z.turned hg (by simp)
          replace hb := hb.grown hg hb.size (fun k hk => by cases hk)
          simp only [List.getElem_toArray, List.getElem_cons_zero, List.getElem_cons_succ, Act.put, List.setIfInBounds_toArray, List.set_cons_zero, List.set_cons_succ]
          refine hK.out _ _ ?_ (fun hHeld2 => ?_)
          · trivial
          clear hK K hHeld
          have hHeld := hHeld2
          clear hHeld2
          try simp only [Act.put, List.setIfInBounds_toArray, List.set_cons_zero, List.set_cons_succ]
          refine wpAnyH_done (by kernel_rfl) ?_ _
          go_wp2
          go_meet
          exact ⟨_, _, _, rfl, hP, hQ, Z, hb, fun i hi => ⟨fun e => hqm i hi (by rw [e]), hnr i hi⟩, by have := hzm; simp only [ne_eq, Option.some.injEq] at this; omega, hzr⟩
      · rw [if_pos (by rfl)]
        obtain ⟨y39, hrun, M2, hg, hs⟩ := PMap.put Try.underlying57 Try.underlying54 int_info.1 int_info.2 M (j := 1) (by omega) (by rfl) (fun i _ hne => by show b + i ≠ b + 1; omega) (fun i hi => ⟨_, _, hQ i hi⟩)
        refine wp_insert_run _ _ _ _ _ rfl rfl rfl rfl hrun ?_
        clear M hrun
        have M := M2
        replace hQ := fun i hi => (hQ i hi).turned hg (hqm i hi)
        replace Z := Z.turned hg hzm
        replace hb := hb.grown hg hb.size (fun k hk => by cases hk; exact hmw)
        clear M2 hg hs
        refine hK.out _ _ ?_ (fun hHeld2 => ?_)
        · trivial
        clear hK K hHeld
        have hHeld := hHeld2
        clear hHeld2
        try simp only [Act.put, List.setIfInBounds_toArray]
        try simp only [List.getElem_toArray, List.getElem_cons_zero, List.getElem_cons_succ]
        refine wpAnyH_ready (rs := [2, 8]) (by kernel_rfl) (by simp) ?_
        refine AllReadyH.cons rfl (fun K hK => ?_) (AllReadyH.cons rfl (fun K hK => ?_) AllReadyH.nil)
        · rw [if_pos (by rfl)]
          obtain ⟨y40, hrun, M2, hg, hs⟩ := PMap.put Try.underlying57 Try.underlying54 int_info.1 int_info.2 M (j := 0) (by omega) (by rfl) (fun i _ hne => by show b + i ≠ b + 0; omega) (fun i hi => ⟨_, _, hQ i hi⟩)
          refine wp_insert_run _ _ _ _ _ rfl rfl rfl rfl hrun ?_
          clear M hrun
          have M := M2
          replace hQ := fun i hi => (hQ i hi).turned hg (hqm i hi)
          replace Z := Z.turned hg hzm
          replace hb := hb.grown hg hb.size (fun k hk => by cases hk; exact hmw)
          clear M2 hg hs
          refine hK.out _ _ ?_ (fun hHeld2 => ?_)
          · trivial
          clear hK K hHeld
          have hHeld := hHeld2
          clear hHeld2
          try simp only [Act.put, List.setIfInBounds_toArray]
          try simp only [List.getElem_toArray, List.getElem_cons_zero, List.getElem_cons_succ]
          refine wpAnyH_ready (rs := [8]) (by kernel_rfl) (by simp) ?_
          refine AllReadyH.cons rfl (fun K hK => ?_) AllReadyH.nil
          rw [if_pos (by rfl)]
          obtain ⟨y41, hrun, M2, hg, hs⟩ := PMap.put Try.underlying57 Try.underlying54 int_info.1 int_info.2 M (j := 3) (by omega) (by rfl) (fun i _ hne => by show b + i ≠ b + 3; omega) (fun i hi => ⟨_, _, hQ i hi⟩)
          refine wp_insert_run _ _ _ _ _ rfl rfl rfl rfl hrun ?_
          clear M hrun
          have M := M2
          replace hQ := fun i hi => (hQ i hi).turned hg (hqm i hi)
          replace Z := Z.turned hg hzm
          replace hb := hb.grown hg hb.size (fun k hk => by cases hk; exact hmw)
          clear M2 hg hs
          refine hK.out _ _ ?_ (fun hHeld2 => ?_)
          · trivial
          clear hK K hHeld
          have hHeld := hHeld2
          clear hHeld2
          try simp only [Act.put, List.setIfInBounds_toArray]
          try simp only [List.getElem_toArray, List.getElem_cons_zero, List.getElem_cons_succ]
          have M4 := M.full (fun i hi => by rcases upto4 hi with rfl | rfl | rfl | rfl <;> rfl)
          refine wpAnyH_take (i := 9) (v := ?_) rfl (by kernel_rfl) (by kernel_rfl) (by kernel_rfl) (fun _ _ _ h => h) (Or.inl ⟨by rfl, ?_⟩) hHeld ?_
          rotate_left
          · (intro w hSw; (try dsimp only at hSw); go_simp; try with_reducible rfl)
          try simp only [Act.put, List.getElem_toArray, List.getElem_cons_zero, List.getElem_cons_succ, List.setIfInBounds_toArray, List.set_cons_zero, List.set_cons_succ]
          refine wpAnyH_ready (rs := [10]) (by kernel_rfl) (by simp) ?_
          refine AllReadyH.cons rfl (fun K hK => ?_) AllReadyH.nil
          rw [if_pos (by rfl)]
          obtain ⟨wr, cnt, hrun, hP, hg, hs⟩ := PMap.range Try.underlying57 M4
          refine wp_range_run _ _ _ rfl rfl hrun ?_
          have hnr := fun i hi => Nat.ne_of_lt (hQ i hi).lt
          have hzr := Z.lt
          replace hQ := fun i hi => (hQ i hi).turned hg (by simp)
          replace Z := Z.turned hg (by simp)
          replace hb := hb.grown hg hb.size (fun k hk => by cases hk)
          simp only [List.getElem_toArray, List.getElem_cons_zero, List.getElem_cons_succ, Act.put, List.setIfInBounds_toArray, List.set_cons_zero, List.set_cons_succ]
          refine hK.out _ _ ?_ (fun hHeld2 => ?_)
          · trivial
          clear hK K hHeld
          have hHeld := hHeld2
          clear hHeld2
          try simp only [Act.put, List.setIfInBounds_toArray, List.set_cons_zero, List.set_cons_succ]
          refine wpAnyH_done (by kernel_rfl) ?_ _
          go_wp2
          go_meet
          exact ⟨_, _, _, rfl, hP, hQ, Z, hb, fun i hi => ⟨fun e => hqm i hi (by rw [e]), hnr i hi⟩, by have := hzm; simp only [ne_eq, Option.some.injEq] at this; omega, hzr⟩
        · rw [if_pos (by rfl)]
          obtain ⟨y42, hrun, M2, hg, hs⟩ := PMap.put Try.underlying57 Try.underlying54 int_info.1 int_info.2 M (j := 3) (by omega) (by rfl) (fun i _ hne => by show b + i ≠ b + 3; omega) (fun i hi => ⟨_, _, hQ i hi⟩)
          refine wp_insert_run _ _ _ _ _ rfl rfl rfl rfl hrun ?_
          clear M hrun
          have M := M2
          replace hQ := fun i hi => (hQ i hi).turned hg (hqm i hi)
          replace Z := Z.turned hg hzm
          replace hb := hb.grown hg hb.size (fun k hk => by cases hk; exact hmw)
          clear M2 hg hs
          refine hK.out _ _ ?_ (fun hHeld2 => ?_)
          · trivial
          clear hK K hHeld
          have hHeld := hHeld2
          clear hHeld2
          try simp only [Act.put, List.setIfInBounds_toArray]
          try simp only [List.getElem_toArray, List.getElem_cons_zero, List.getElem_cons_succ]
          refine wpAnyH_ready (rs := [2]) (by kernel_rfl) (by simp) ?_
          refine AllReadyH.cons rfl (fun K hK => ?_) AllReadyH.nil
          rw [if_pos (by rfl)]
          obtain ⟨y43, hrun, M2, hg, hs⟩ := PMap.put Try.underlying57 Try.underlying54 int_info.1 int_info.2 M (j := 0) (by omega) (by rfl) (fun i _ hne => by show b + i ≠ b + 0; omega) (fun i hi => ⟨_, _, hQ i hi⟩)
          refine wp_insert_run _ _ _ _ _ rfl rfl rfl rfl hrun ?_
          clear M hrun
          have M := M2
          replace hQ := fun i hi => (hQ i hi).turned hg (hqm i hi)
          replace Z := Z.turned hg hzm
          replace hb := hb.grown hg hb.size (fun k hk => by cases hk; exact hmw)
          clear M2 hg hs
          refine hK.out _ _ ?_ (fun hHeld2 => ?_)
          · trivial
          clear hK K hHeld
          have hHeld := hHeld2
          clear hHeld2
          try simp only [Act.put, List.setIfInBounds_toArray]
          try simp only [List.getElem_toArray, List.getElem_cons_zero, List.getElem_cons_succ]
          have M4 := M.full (fun i hi => by rcases upto4 hi with rfl | rfl | rfl | rfl <;> rfl)
          refine wpAnyH_take (i := 9) (v := ?_) rfl (by kernel_rfl) (by kernel_rfl) (by kernel_rfl) (fun _ _ _ h => h) (Or.inl ⟨by rfl, ?_⟩) hHeld ?_
          rotate_left
          · (intro w hSw; (try dsimp only at hSw); go_simp; try with_reducible rfl)
          try simp only [Act.put, List.getElem_toArray, List.getElem_cons_zero, List.getElem_cons_succ, List.setIfInBounds_toArray, List.set_cons_zero, List.set_cons_succ]
          refine wpAnyH_ready (rs := [10]) (by kernel_rfl) (by simp) ?_
          refine AllReadyH.cons rfl (fun K hK => ?_) AllReadyH.nil
          rw [if_pos (by rfl)]
          obtain ⟨wr, cnt, hrun, hP, hg, hs⟩ := PMap.range Try.underlying57 M4
          refine wp_range_run _ _ _ rfl rfl hrun ?_
          have hnr := fun i hi => Nat.ne_of_lt (hQ i hi).lt
          have hzr := Z.lt
          replace hQ := fun i hi => (hQ i hi).turned hg (by simp)
          replace Z := Z.turned hg (by simp)
          replace hb := hb.grown hg hb.size (fun k hk => by cases hk)
          simp only [List.getElem_toArray, List.getElem_cons_zero, List.getElem_cons_succ, Act.put, List.setIfInBounds_toArray, List.set_cons_zero, List.set_cons_succ]
          refine hK.out _ _ ?_ (fun hHeld2 => ?_)
          · trivial
          clear hK K hHeld
          have hHeld := hHeld2
          clear hHeld2
          try simp only [Act.put, List.setIfInBounds_toArray, List.set_cons_zero, List.set_cons_succ]
          refine wpAnyH_done (by kernel_rfl) ?_ _
          go_wp2
          go_meet
          exact ⟨_, _, _, rfl, hP, hQ, Z, hb, fun i hi => ⟨fun e => hqm i hi (by rw [e]), hnr i hi⟩, by have := hzm; simp only [ne_eq, Option.some.injEq] at this; omega, hzr⟩
      · rw [if_pos (by rfl)]
        obtain ⟨y44, hrun, M2, hg, hs⟩ := PMap.put Try.underlying57 Try.underlying54 int_info.1 int_info.2 M (j := 3) (by omega) (by rfl) (fun i _ hne => by show b + i ≠ b + 3; omega) (fun i hi => ⟨_, _, hQ i hi⟩)
        refine wp_insert_run _ _ _ _ _ rfl rfl rfl rfl hrun ?_
        clear M hrun
        have M := M2
        replace hQ := fun i hi => (hQ i hi).turned hg (hqm i hi)
        replace Z := Z.turned hg hzm
        replace hb := hb.grown hg hb.size (fun k hk => by cases hk; exact hmw)
        clear M2 hg hs
        refine hK.out _ _ ?_ (fun hHeld2 => ?_)
        · trivial
        clear hK K hHeld
        have hHeld := hHeld2
        clear hHeld2
        try simp only [Act.put, List.setIfInBounds_toArray]
        try simp only [List.getElem_toArray, List.getElem_cons_zero, List.getElem_cons_succ]
        refine wpAnyH_ready (rs := [2, 4]) (by kernel_rfl) (by simp) ?_
        refine AllReadyH.cons rfl (fun K hK => ?_) (AllReadyH.cons rfl (fun K hK => ?_) AllReadyH.nil)
        · rw [if_pos (by rfl)]
          obtain ⟨y45, hrun, M2, hg, hs⟩ := PMap.put Try.underlying57 Try.underlying54 int_info.1 int_info.2 M (j := 0) (by omega) (by rfl) (fun i _ hne => by show b + i ≠ b + 0; omega) (fun i hi => ⟨_, _, hQ i hi⟩)
          refine wp_insert_run _ _ _ _ _ rfl rfl rfl rfl hrun ?_
          clear M hrun
          have M := M2
          replace hQ := fun i hi => (hQ i hi).turned hg (hqm i hi)
          replace Z := Z.turned hg hzm
          replace hb := hb.grown hg hb.size (fun k hk => by cases hk; exact hmw)
          clear M2 hg hs
          refine hK.out _ _ ?_ (fun hHeld2 => ?_)
          · trivial
          clear hK K hHeld
          have hHeld := hHeld2
          clear hHeld2
          try simp only [Act.put, List.setIfInBounds_toArray]
          try simp only [List.getElem_toArray, List.getElem_cons_zero, List.getElem_cons_succ]
          refine wpAnyH_ready (rs := [4]) (by kernel_rfl) (by simp) ?_
          refine AllReadyH.cons rfl (fun K hK => ?_) AllReadyH.nil
          rw [if_pos (by rfl)]
          obtain ⟨y46, hrun, M2, hg, hs⟩ := PMap.put Try.underlying57 Try.underlying54 int_info.1 int_info.2 M (j := 1) (by omega) (by rfl) (fun i _ hne => by show b + i ≠ b + 1; omega) (fun i hi => ⟨_, _, hQ i hi⟩)
          refine wp_insert_run _ _ _ _ _ rfl rfl rfl rfl hrun ?_
          clear M hrun
          have M := M2
          replace hQ := fun i hi => (hQ i hi).turned hg (hqm i hi)
          replace Z := Z.turned hg hzm
          replace hb := hb.grown hg hb.size (fun k hk => by cases hk; exact hmw)
          clear M2 hg hs
          refine hK.out _ _ ?_ (fun hHeld2 => ?_)
          · trivial
          clear hK K hHeld
          have hHeld := hHeld2
          clear hHeld2
          try simp only [Act.put, List.setIfInBounds_toArray]
          try simp only [List.getElem_toArray, List.getElem_cons_zero, List.getElem_cons_succ]
          have M4 := M.full (fun i hi => by rcases upto4 hi with rfl | rfl | rfl | rfl <;> rfl)
          refine wpAnyH_take (i := 9) (v := ?_) rfl (by kernel_rfl) (by kernel_rfl) (by kernel_rfl) (fun _ _ _ h => h) (Or.inl ⟨by rfl, ?_⟩) hHeld ?_
          rotate_left
          · (intro w hSw; (try dsimp only at hSw); go_simp; try with_reducible rfl)
          try simp only [Act.put, List.getElem_toArray, List.getElem_cons_zero, List.getElem_cons_succ, List.setIfInBounds_toArray, List.set_cons_zero, List.set_cons_succ]
          refine wpAnyH_ready (rs := [10]) (by kernel_rfl) (by simp) ?_
          refine AllReadyH.cons rfl (fun K hK => ?_) AllReadyH.nil
          rw [if_pos (by rfl)]
          obtain ⟨wr, cnt, hrun, hP, hg, hs⟩ := PMap.range Try.underlying57 M4
          refine wp_range_run _ _ _ rfl rfl hrun ?_
          have hnr := fun i hi => Nat.ne_of_lt (hQ i hi).lt
          have hzr := Z.lt
          replace hQ := fun i hi => (hQ i hi).turned hg (by simp)
          replace Z := Z.turned hg (by simp)
          replace hb := hb.grown hg hb.size (fun k hk => by cases hk)
          simp only [List.getElem_toArray, List.getElem_cons_zero, List.getElem_cons_succ, Act.put, List.setIfInBounds_toArray, List.set_cons_zero, List.set_cons_succ]
          refine hK.out _ _ ?_ (fun hHeld2 => ?_)
          · trivial
          clear hK K hHeld
          have hHeld := hHeld2
          clear hHeld2
          try simp only [Act.put, List.setIfInBounds_toArray, List.set_cons_zero, List.set_cons_succ]
          refine wpAnyH_done (by kernel_rfl) ?_ _
          go_wp2
          go_meet
          exact ⟨_, _, _, rfl, hP, hQ, Z, hb, fun i hi => ⟨fun e => hqm i hi (by rw [e]), hnr i hi⟩, by have := hzm; simp only [ne_eq, Option.some.injEq] at this; omega, hzr⟩
        · rw [if_pos (by rfl)]
          obtain ⟨y47, hrun, M2, hg, hs⟩ := PMap.put Try.underlying57 Try.underlying54 int_info.1 int_info.2 M (j := 1) (by omega) (by rfl) (fun i _ hne => by show b + i ≠ b + 1; omega) (fun i hi => ⟨_, _, hQ i hi⟩)
          refine wp_insert_run _ _ _ _ _ rfl rfl rfl rfl hrun ?_
          clear M hrun
          have M := M2
          replace hQ := fun i hi => (hQ i hi).turned hg (hqm i hi)
          replace Z := Z.turned hg hzm
          replace hb := hb.grown hg hb.size (fun k hk => by cases hk; exact hmw)
          clear M2 hg hs
          refine hK.out _ _ ?_ (fun hHeld2 => ?_)
          · trivial
          clear hK K hHeld
          have hHeld := hHeld2
          clear hHeld2
          try simp only [Act.put, List.setIfInBounds_toArray]
          try simp only [List.getElem_toArray, List.getElem_cons_zero, List.getElem_cons_succ]
          refine wpAnyH_ready (rs := [2]) (by kernel_rfl) (by simp) ?_
          refine AllReadyH.cons rfl (fun K hK => ?_) AllReadyH.nil
          rw [if_pos (by rfl)]
          obtain ⟨y48, hrun, M2, hg, hs⟩ := PMap.put Try.underlying57 Try.underlying54 int_info.1 int_info.2 M (j := 0) (by omega) (by rfl) (fun i _ hne => by show b + i ≠ b + 0; omega) (fun i hi => ⟨_, _, hQ i hi⟩)
          refine wp_insert_run _ _ _ _ _ rfl rfl rfl rfl hrun ?_
          clear M hrun
          have M := M2
          replace hQ := fun i hi => (hQ i hi).turned hg (hqm i hi)
          replace Z := Z.turned hg hzm
          replace hb := hb.grown hg hb.size (fun k hk => by cases hk; exact hmw)
          clear M2 hg hs
          refine hK.out _ _ ?_ (fun hHeld2 => ?_)
          · trivial
          clear hK K hHeld
          have hHeld := hHeld2
          clear hHeld2
          try simp only [Act.put, List.setIfInBounds_toArray]
          try simp only [List.getElem_toArray, List.getElem_cons_zero, List.getElem_cons_succ]
          have M4 := M.full (fun i hi => by rcases upto4 hi with rfl | rfl | rfl | rfl <;> rfl)
          refine wpAnyH_take (i := 9) (v := ?_) rfl (by kernel_rfl) (by kernel_rfl) (by kernel_rfl) (fun _ _ _ h => h) (Or.inl ⟨by rfl, ?_⟩) hHeld ?_
          rotate_left
          · (intro w hSw; (try dsimp only at hSw); go_simp; try with_reducible rfl)
          try simp only [Act.put, List.getElem_toArray, List.getElem_cons_zero, List.getElem_cons_succ, List.setIfInBounds_toArray, List.set_cons_zero, List.set_cons_succ]
          refine wpAnyH_ready (rs := [10]) (by kernel_rfl) (by simp) ?_
          refine AllReadyH.cons rfl (fun K hK => ?_) AllReadyH.nil
          rw [if_pos (by rfl)]
          obtain ⟨wr, cnt, hrun, hP, hg, hs⟩ := PMap.range Try.underlying57 M4
          refine wp_range_run _ _ _ rfl rfl hrun ?_
          have hnr := fun i hi => Nat.ne_of_lt (hQ i hi).lt
          have hzr := Z.lt
          replace hQ := fun i hi => (hQ i hi).turned hg (by simp)
          replace Z := Z.turned hg (by simp)
          replace hb := hb.grown hg hb.size (fun k hk => by cases hk)
          simp only [List.getElem_toArray, List.getElem_cons_zero, List.getElem_cons_succ, Act.put, List.setIfInBounds_toArray, List.set_cons_zero, List.set_cons_succ]
          refine hK.out _ _ ?_ (fun hHeld2 => ?_)
          · trivial
          clear hK K hHeld
          have hHeld := hHeld2
          clear hHeld2
          try simp only [Act.put, List.setIfInBounds_toArray, List.set_cons_zero, List.set_cons_succ]
          refine wpAnyH_done (by kernel_rfl) ?_ _
          go_wp2
          go_meet
          exact ⟨_, _, _, rfl, hP, hQ, Z, hb, fun i hi => ⟨fun e => hqm i hi (by rw [e]), hnr i hi⟩, by have := hzm; simp only [ne_eq, Option.some.injEq] at this; omega, hzr⟩
    · rw [if_pos (by rfl)]
      obtain ⟨y49, hrun, M2, hg, hs⟩ := PMap.put Try.underlying57 Try.underlying54 int_info.1 int_info.2 M (j := 3) (by omega) (by rfl) (fun i _ hne => by show b + i ≠ b + 3; omega) (fun i hi => ⟨_, _, hQ i hi⟩)
      refine wp_insert_run _ _ _ _ _ rfl rfl rfl rfl hrun ?_
      clear M hrun
      have M := M2
      replace hQ := fun i hi => (hQ i hi).turned hg (hqm i hi)
      replace Z := Z.turned hg hzm
      replace hb := hb.grown hg hb.size (fun k hk => by cases hk; exact hmw)
      clear M2 hg hs
      refine hK.out _ _ ?_ (fun hHeld2 => ?_)
      · trivial
      clear hK K hHeld
      have hHeld := hHeld2
      clear hHeld2
      try simp only [Act.put, List.setIfInBounds_toArray]
      try simp only [List.getElem_toArray, List.getElem_cons_zero, List.getElem_cons_succ]
      refine wpAnyH_ready (rs := [2, 4, 6]) (by kernel_rfl) (by simp) ?_
      refine AllReadyH.cons rfl (fun K hK => ?_) (AllReadyH.cons rfl (fun K hK => ?_) (AllReadyH.cons rfl (fun K hK => ?_) AllReadyH.nil))
      · rw [if_pos (by rfl)]
        obtain ⟨y50, hrun, M2, hg, hs⟩ := PMap.put Try.underlying57 Try.underlying54 int_info.1 int_info.2 M (j := 0) (by omega) (by rfl) (fun i _ hne => by show b + i ≠ b + 0; omega) (fun i hi => ⟨_, _, hQ i hi⟩)
        refine wp_insert_run _ _ _ _ _ rfl rfl rfl rfl hrun ?_
        clear M hrun
        have M := M2
        replace hQ := fun i hi => (hQ i hi).turned hg (hqm i hi)
        replace Z := Z.turned hg hzm
        replace hb := hb.grown hg hb.size (fun k hk => by cases hk; exact hmw)
        clear M2 hg hs
        refine hK.out _ _ ?_ (fun hHeld2 => ?_)
        · trivial
        clear hK K hHeld
        have hHeld := hHeld2
        clear hHeld2
        try simp only [Act.put, List.setIfInBounds_toArray]
        try simp only [List.getElem_toArray, List.getElem_cons_zero, List.getElem_cons_succ]
        refine wpAnyH_ready (rs := [4, 6]) (by kernel_rfl) (by simp) ?_
        refine AllReadyH.cons rfl (fun K hK => ?_) (AllReadyH.cons rfl (fun K hK => ?_) AllReadyH.nil)
        · rw [if_pos (by rfl)]
          obtain ⟨y51, hrun, M2, hg, hs⟩ := PMap.put Try.underlying57 Try.underlying54 int_info.1 int_info.2 M (j := 1) (by omega) (by rfl) (fun i _ hne => by show b + i ≠ b + 1; omega) (fun i hi => ⟨_, _, hQ i hi⟩)
          refine wp_insert_run _ _ _ _ _ rfl rfl rfl rfl hrun ?_
          clear M hrun
          have M := M2
          replace hQ := fun i hi => (hQ i hi).turned hg (hqm i hi)
          replace Z := Z.turned hg hzm
          replace hb := hb.grown hg hb.size (fun k hk => by cases hk; exact hmw)
          clear M2 hg hs
          refine hK.out _ _ ?_ (fun hHeld2 => ?_)
          · trivial
          clear hK K hHeld
          have hHeld := hHeld2
          clear hHeld2
          try simp only [Act.put, List.setIfInBounds_toArray]
          try simp only [List.getElem_toArray, List.getElem_cons_zero, List.getElem_cons_succ]
          refine wpAnyH_ready (rs := [6]) (by kernel_rfl) (by simp) ?_
          refine AllReadyH.cons rfl (fun K hK => ?_) AllReadyH.nil
          rw [if_pos (by rfl)]
          obtain ⟨y52, hrun, M2, hg, hs⟩ := PMap.put Try.underlying57 Try.underlying54 int_info.1 int_info.2 M (j := 2) (by omega) (by rfl) (fun i _ hne => by show b + i ≠ b + 2; omega) (fun i hi => ⟨_, _, hQ i hi⟩)
          refine wp_insert_run _ _ _ _ _ rfl rfl rfl rfl hrun ?_
          clear M hrun
          have M := M2
          replace hQ := fun i hi => (hQ i hi).turned hg (hqm i hi)
          replace Z := Z.turned hg hzm
          replace hb := hb.grown hg hb.size (fun k hk => by cases hk; exact hmw)
          clear M2 hg hs
          refine hK.out _ _ ?_ (fun hHeld2 => ?_)
          · trivial
          clear hK K hHeld
          have hHeld := hHeld2
          clear hHeld2
          try simp only [Act.put, List.setIfInBounds_toArray]
          try simp only [List.getElem_toArray, List.getElem_cons_zero, List.getElem_cons_succ]
          have M4 := M.full (fun i hi => by rcases upto4 hi with rfl | rfl | rfl | rfl <;> rfl)
          refine wpAnyH_take (i := 9) (v := ?_) rfl (by kernel_rfl) (by kernel_rfl) (by kernel_rfl) (fun _ _ _ h => h) (Or.inl ⟨by rfl, ?_⟩) hHeld ?_
          rotate_left
          · (intro w hSw; (try dsimp only at hSw); go_simp; try with_reducible rfl)
          try simp only [Act.put, List.getElem_toArray, List.getElem_cons_zero, List.getElem_cons_succ, List.setIfInBounds_toArray, List.set_cons_zero, List.set_cons_succ]
          refine wpAnyH_ready (rs := [10]) (by kernel_rfl) (by simp) ?_
          refine AllReadyH.cons rfl (fun K hK => ?_) AllReadyH.nil
          rw [if_pos (by rfl)]
          obtain ⟨wr, cnt, hrun, hP, hg, hs⟩ := PMap.range Try.underlying57 M4
          refine wp_range_run _ _ _ rfl rfl hrun ?_
          have hnr := fun i hi => Nat.ne_of_lt (hQ i hi).lt
          have hzr := Z.lt
          replace hQ := fun i hi => (hQ i hi).turned hg (by simp)
          replace Z := Z.turned hg (by simp)
          replace hb := hb.grown hg hb.size (fun k hk => by cases hk)
          simp only [List.getElem_toArray, List.getElem_cons_zero, List.getElem_cons_succ, Act.put, List.setIfInBounds_toArray, List.set_cons_zero, List.set_cons_succ]
          refine hK.out _ _ ?_ (fun hHeld2 => ?_)
          · trivial
          clear hK K hHeld
          have hHeld := hHeld2
          clear hHeld2
          try simp only [Act.put, List.setIfInBounds_toArray, List.set_cons_zero, List.set_cons_succ]
          refine wpAnyH_done (by kernel_rfl) ?_ _
          go_wp2
          go_meet
          exact ⟨_, _, _, rfl, hP, hQ, Z, hb, fun i hi => ⟨fun e => hqm i hi (by rw [e]), hnr i hi⟩, by have := hzm; simp only [ne_eq, Option.some.injEq] at this; omega, hzr⟩
        · rw [if_pos (by rfl)]
          obtain ⟨y53, hrun, M2, hg, hs⟩ := PMap.put Try.underlying57 Try.underlying54 int_info.1 int_info.2 M (j := 2) (by omega) (by rfl) (fun i _ hne => by show b + i ≠ b + 2; omega) (fun i hi => ⟨_, _, hQ i hi⟩)
          refine wp_insert_run _ _ _ _ _ rfl rfl rfl rfl hrun ?_
          clear M hrun
          have M := M2
          replace hQ := fun i hi => (hQ i hi).turned hg (hqm i hi)
          replace Z := Z.turned hg hzm
          replace hb := hb.grown hg hb.size (fun k hk => by cases hk; exact hmw)
          clear M2 hg hs
          refine hK.out _ _ ?_ (fun hHeld2 => ?_)
          · trivial
          clear hK K hHeld
          have hHeld := hHeld2
          clear hHeld2
          try simp only [Act.put, List.setIfInBounds_toArray]
          try simp only [List.getElem_toArray, List.getElem_cons_zero, List.getElem_cons_succ]
          refine wpAnyH_ready (rs := [4]) (by kernel_rfl) (by simp) ?_
          refine AllReadyH.cons rfl (fun K hK => ?_) AllReadyH.nil
          rw [if_pos (by rfl)]
          obtain ⟨y54, hrun, M2, hg, hs⟩ := PMap.put Try.underlying57 Try.underlying54 int_info.1 int_info.2 M (j := 1) (by omega) (by rfl) (fun i _ hne => by show b + i ≠ b + 1; omega) (fun i hi => ⟨_, _, hQ i hi⟩)
          refine wp_insert_run _ _ _ _ _ rfl rfl rfl rfl hrun ?_
          clear M hrun
          have M := M2
          replace hQ := fun i hi => (hQ i hi).turned hg (hqm i hi)
          replace Z := Z.turned hg hzm
          replace hb := hb.grown hg hb.size (fun k hk => by cases hk; exact hmw)
          clear M2 hg hs
          refine hK.out _ _ ?_ (fun hHeld2 => ?_)
          · trivial
          clear hK K hHeld
          have hHeld := hHeld2
          clear hHeld2
          try simp only [Act.put, List.setIfInBounds_toArray]
          try simp only [List.getElem_toArray, List.getElem_cons_zero, List.getElem_cons_succ]
          have M4 := M.full (fun i hi => by rcases upto4 hi with rfl | rfl | rfl | rfl <;> rfl)
          refine wpAnyH_take (i := 9) (v := ?_) rfl (by kernel_rfl) (by kernel_rfl) (by kernel_rfl) (fun _ _ _ h => h) (Or.inl ⟨by rfl, ?_⟩) hHeld ?_
          rotate_left
          · (intro w hSw; (try dsimp only at hSw); go_simp; try with_reducible rfl)
          try simp only [Act.put, List.getElem_toArray, List.getElem_cons_zero, List.getElem_cons_succ, List.setIfInBounds_toArray, List.set_cons_zero, List.set_cons_succ]
          refine wpAnyH_ready (rs := [10]) (by kernel_rfl) (by simp) ?_
          refine AllReadyH.cons rfl (fun K hK => ?_) AllReadyH.nil
          rw [if_pos (by rfl)]
          obtain ⟨wr, cnt, hrun, hP, hg, hs⟩ := PMap.range Try.underlying57 M4
          refine wp_range_run _ _ _ rfl rfl hrun ?_
          have hnr := fun i hi => Nat.ne_of_lt (hQ i hi).lt
          have hzr := Z.lt
          replace hQ := fun i hi => (hQ i hi).turned hg (by simp)
          replace Z := Z.turned hg (by simp)
          replace hb := hb.grown hg hb.size (fun k hk => by cases hk)
          simp only [List.getElem_toArray, List.getElem_cons_zero, List.getElem_cons_succ, Act.put, List.setIfInBounds_toArray, List.set_cons_zero, List.set_cons_succ]
          refine hK.out _ _ ?_ (fun hHeld2 => ?_)
          · trivial
          clear hK K hHeld
          have hHeld := hHeld2
          clear hHeld2
          try simp only [Act.put, List.setIfInBounds_toArray, List.set_cons_zero, List.set_cons_succ]
          refine wpAnyH_done (by kernel_rfl) ?_ _
          go_wp2
          go_meet
          exact ⟨_, _, _, rfl, hP, hQ, Z, hb, fun i hi => ⟨fun e => hqm i hi (by rw [e]), hnr i hi⟩, by have := hzm; simp only [ne_eq, Option.some.injEq] at this; omega, hzr⟩
      · rw [if_pos (by rfl)]
        obtain ⟨y55, hrun, M2, hg, hs⟩ := PMap.put Try.underlying57 Try.underlying54 int_info.1 int_info.2 M (j := 1) (by omega) (by rfl) (fun i _ hne => by show b + i ≠ b + 1; omega) (fun i hi => ⟨_, _, hQ i hi⟩)
        refine wp_insert_run _ _ _ _ _ rfl rfl rfl rfl hrun ?_
        clear M hrun
        have M := M2
        replace hQ := fun i hi => (hQ i hi).turned hg (hqm i hi)
        replace Z := Z.turned hg hzm
        replace hb := hb.grown hg hb.size (fun k hk => by cases hk; exact hmw)
        clear M2 hg hs
        refine hK.out _ _ ?_ (fun hHeld2 => ?_)
        · trivial
        clear hK K hHeld
        have hHeld := hHeld2
        clear hHeld2
        try simp only [Act.put, List.setIfInBounds_toArray]
        try simp only [List.getElem_toArray, List.getElem_cons_zero, List.getElem_cons_succ]
        refine wpAnyH_ready (rs := [2, 6]) (by kernel_rfl) (by simp) ?_
        refine AllReadyH.cons rfl (fun K hK => ?_) (AllReadyH.cons rfl (fun K hK => ?_) AllReadyH.nil)
        · rw [if_pos (by rfl)]
          obtain ⟨y56, hrun, M2, hg, hs⟩ := PMap.put Try.underlying57 Try.underlying54 int_info.1 int_info.2 M (j := 0) (by omega) (by rfl) (fun i _ hne => by show b + i ≠ b + 0; omega) (fun i hi => ⟨_, _, hQ i hi⟩)
          refine wp_insert_run _ _ _ _ _ rfl rfl rfl rfl hrun ?_
          clear M hrun
          have M := M2
          replace hQ := fun i hi => (hQ i hi).turned hg (hqm i hi)
          replace Z := Z.turned hg hzm
          replace hb := hb.grown hg hb.size (fun k hk => by cases hk; exact hmw)
          clear M2 hg hs
          refine hK.out _ _ ?_ (fun hHeld2 => ?_)
          · trivial
          clear hK K hHeld
          have hHeld := hHeld2
          clear hHeld2
          try simp only [Act.put, List.setIfInBounds_toArray]
          try simp only [List.getElem_toArray, List.getElem_cons_zero, List.getElem_cons_succ]
          refine wpAnyH_ready (rs := [6]) (by kernel_rfl) (by simp) ?_
          refine AllReadyH.cons rfl (fun K hK => ?_) AllReadyH.nil
          rw [if_pos (by rfl)]
          obtain ⟨y57, hrun, M2, hg, hs⟩ := PMap.put Try.underlying57 Try.underlying54 int_info.1 int_info.2 M (j := 2) (by omega) (by rfl) (fun i _ hne => by show b + i ≠ b + 2; omega) (fun i hi => ⟨_, _, hQ i hi⟩)
          refine wp_insert_run _ _ _ _ _ rfl rfl rfl rfl hrun ?_
          clear M hrun
          have M := M2
          replace hQ := fun i hi => (hQ i hi).turned hg (hqm i hi)
          replace Z := Z.turned hg hzm
          replace hb := hb.grown hg hb.size (fun k hk => by cases hk; exact hmw)
          clear M2 hg hs
          refine hK.out _ _ ?_ (fun hHeld2 => ?_)
          · trivial
          clear hK K hHeld
          have hHeld := hHeld2
          clear hHeld2
          try simp only [Act.put, List.setIfInBounds_toArray]
          try simp only [List.getElem_toArray, List.getElem_cons_zero, List.getElem_cons_succ]
          have M4 := M.full (fun i hi => by rcases upto4 hi with rfl | rfl | rfl | rfl <;> rfl)
          refine wpAnyH_take (i := 9) (v := ?_) rfl (by kernel_rfl) (by kernel_rfl) (by kernel_rfl) (fun _ _ _ h => h) (Or.inl ⟨by rfl, ?_⟩) hHeld ?_
          rotate_left
          · (intro w hSw; (try dsimp only at hSw); go_simp; try with_reducible rfl)
          try simp only [Act.put, List.getElem_toArray, List.getElem_cons_zero, List.getElem_cons_succ, List.setIfInBounds_toArray, List.set_cons_zero, List.set_cons_succ]
          refine wpAnyH_ready (rs := [10]) (by kernel_rfl) (by simp) ?_
          refine AllReadyH.cons rfl (fun K hK => ?_) AllReadyH.nil
          rw [if_pos (by rfl)]
          obtain ⟨wr, cnt, hrun, hP, hg, hs⟩ := PMap.range Try.underlying57 M4
          refine wp_range_run _ _ _ rfl rfl hrun ?_
          have hnr := fun i hi => Nat.ne_of_lt (hQ i hi).lt
          have hzr := Z.lt
          replace hQ := fun i hi => (hQ i hi).turned hg (by simp)
          replace Z := Z.turned hg (by simp)
          replace hb := hb.grown hg hb.size (fun k hk => by cases hk)
          simp only [List.getElem_toArray, List.getElem_cons_zero, List.getElem_cons_succ, Act.put, List.setIfInBounds_toArray, List.set_cons_zero, List.set_cons_succ]
          refine hK.out _ _ ?_ (fun hHeld2 => ?_)
          · trivial
          clear hK K hHeld
          have hHeld := hHeld2
          clear hHeld2
          try simp only [Act.put, List.setIfInBounds_toArray, List.set_cons_zero, List.set_cons_succ]
          refine wpAnyH_done (by kernel_rfl) ?_ _
          go_wp2
          go_meet
          exact ⟨_, _, _, rfl, hP, hQ, Z, hb, fun i hi => ⟨fun e => hqm i hi (by rw [e]), hnr i hi⟩, by have := hzm; simp only [ne_eq, Option.some.injEq] at this; omega, hzr⟩
        · rw [if_pos (by rfl)]
          obtain ⟨y58, hrun, M2, hg, hs⟩ := PMap.put Try.underlying57 Try.underlying54 int_info.1 int_info.2 M (j := 2) (by omega) (by rfl) (fun i _ hne => by show b + i ≠ b + 2; omega) (fun i hi => ⟨_, _, hQ i hi⟩)
          refine wp_insert_run _ _ _ _ _ rfl rfl rfl rfl hrun ?_
          clear M hrun
          have M := M2
          replace hQ := fun i hi => (hQ i hi).turned hg (hqm i hi)
          replace Z := Z.turned hg hzm
          replace hb := hb.grown hg hb.size (fun k hk => by cases hk; exact hmw)
          clear M2 hg hs
          refine hK.out _ _ ?_ (fun hHeld2 => ?_)
          · trivial
          clear hK K hHeld
          have hHeld := hHeld2
          clear hHeld2
          try simp only [Act.put, List.setIfInBounds_toArray]
          try simp only [List.getElem_toArray, List.getElem_cons_zero, List.getElem_cons_succ]
          refine wpAnyH_ready (rs := [2]) (by kernel_rfl) (by simp) ?_
          refine AllReadyH.cons rfl (fun K hK => ?_) AllReadyH.nil
          rw [if_pos (by rfl)]
          obtain ⟨y59, hrun, M2, hg, hs⟩ := PMap.put Try.underlying57 Try.underlying54 int_info.1 int_info.2 M (j := 0) (by omega) (by rfl) (fun i _ hne => by show b + i ≠ b + 0; omega) (fun i hi => ⟨_, _, hQ i hi⟩)
          refine wp_insert_run _ _ _ _ _ rfl rfl rfl rfl hrun ?_
          clear M hrun
          have M := M2
          replace hQ := fun i hi => (hQ i hi).turned hg (hqm i hi)
          replace Z := Z.turned hg hzm
          replace hb := hb.grown hg hb.size (fun k hk => by cases hk; exact hmw)
          clear M2 hg hs
          refine hK.out _ _ ?_ (fun hHeld2 => ?_)
          · trivial
          clear hK K hHeld
          have hHeld := hHeld2
          clear hHeld2
          try simp only [Act.put, List.setIfInBounds_toArray]
          try simp only [List.getElem_toArray, List.getElem_cons_zero, List.getElem_cons_succ]
          have M4 := M.full (fun i hi => by rcases upto4 hi with rfl | rfl | rfl | rfl <;> rfl)
          refine wpAnyH_take (i := 9) (v := ?_) rfl (by kernel_rfl) (by kernel_rfl) (by kernel_rfl) (fun _ _ _ h => h) (Or.inl ⟨by rfl, ?_⟩) hHeld ?_
          rotate_left
          · (intro w hSw; (try dsimp only at hSw); go_simp; try with_reducible rfl)
          try simp only [Act.put, List.getElem_toArray, List.getElem_cons_zero, List.getElem_cons_succ, List.setIfInBounds_toArray, List.set_cons_zero, List.set_cons_succ]
          refine wpAnyH_ready (rs := [10]) (by kernel_rfl) (by simp) ?_
          refine AllReadyH.cons rfl (fun K hK => ?_) AllReadyH.nil
          rw [if_pos (by rfl)]
          obtain ⟨wr, cnt, hrun, hP, hg, hs⟩ := PMap.range Try.underlying57 M4
          refine wp_range_run _ _ _ rfl rfl hrun ?_
          have hnr := fun i hi => Nat.ne_of_lt (hQ i hi).lt
          have hzr := Z.lt
          replace hQ := fun i hi => (hQ i hi).turned hg (by simp)
          replace Z := Z.turned hg (by simp)
          replace hb := hb.grown hg hb.size (fun k hk => by cases hk)
          simp only [List.getElem_toArray, List.getElem_cons_zero, List.getElem_cons_succ, Act.put, List.setIfInBounds_toArray, List.set_cons_zero, List.set_cons_succ]
          refine hK.out _ _ ?_ (fun hHeld2 => ?_)
          · trivial
          clear hK K hHeld
          have hHeld := hHeld2
          clear hHeld2
          try simp only [Act.put, List.setIfInBounds_toArray, List.set_cons_zero, List.set_cons_succ]
          refine wpAnyH_done (by kernel_rfl) ?_ _
          go_wp2
          go_meet
          exact ⟨_, _, _, rfl, hP, hQ, Z, hb, fun i hi => ⟨fun e => hqm i hi (by rw [e]), hnr i hi⟩, by have := hzm; simp only [ne_eq, Option.some.injEq] at this; omega, hzr⟩
      · rw [if_pos (by rfl)]
        obtain ⟨y60, hrun, M2, hg, hs⟩ := PMap.put Try.underlying57 Try.underlying54 int_info.1 int_info.2 M (j := 2) (by omega) (by rfl) (fun i _ hne => by show b + i ≠ b + 2; omega) (fun i hi => ⟨_, _, hQ i hi⟩)
        refine wp_insert_run _ _ _ _ _ rfl rfl rfl rfl hrun ?_
        clear M hrun
        have M := M2
        replace hQ := fun i hi => (hQ i hi).turned hg (hqm i hi)
        replace Z := Z.turned hg hzm
        replace hb := hb.grown hg hb.size (fun k hk => by cases hk; exact hmw)
        clear M2 hg hs
        refine hK.out _ _ ?_ (fun hHeld2 => ?_)
        · trivial
        clear hK K hHeld
        have hHeld := hHeld2
        clear hHeld2
        try simp only [Act.put, List.setIfInBounds_toArray]
        try simp only [List.getElem_toArray, List.getElem_cons_zero, List.getElem_cons_succ]
        refine wpAnyH_ready (rs := [2, 4]) (by kernel_rfl) (by simp) ?_
        refine AllReadyH.cons rfl (fun K hK => ?_) (AllReadyH.cons rfl (fun K hK => ?_) AllReadyH.nil)
        · rw [if_pos (by rfl)]
          obtain ⟨y61, hrun, M2, hg, hs⟩ := PMap.put Try.underlying57 Try.underlying54 int_info.1 int_info.2 M (j := 0) (by omega) (by rfl) (fun i _ hne => by show b + i ≠ b + 0; omega) (fun i hi => ⟨_, _, hQ i hi⟩)
          refine wp_insert_run _ _ _ _ _ rfl rfl rfl rfl hrun ?_
          clear M hrun
          have M := M2
          replace hQ := fun i hi => (hQ i hi).turned hg (hqm i hi)
          replace Z := Z.turned hg hzm
          replace hb := hb.grown hg hb.size (fun k hk => by cases hk; exact hmw)
          clear M2 hg hs
          refine hK.out _ _ ?_ (fun hHeld2 => ?_)
          · trivial
          clear hK K hHeld
          have hHeld := hHeld2
          clear hHeld2
          try simp only [Act.put, List.setIfInBounds_toArray]
          try simp only [List.getElem_toArray, List.getElem_cons_zero, List.getElem_cons_succ]
          refine wpAnyH_ready (rs := [4]) (by kernel_rfl) (by simp) ?_
          refine AllReadyH.cons rfl (fun K hK => ?_) AllReadyH.nil
          rw [if_pos (by rfl)]
          obtain ⟨y62, hrun, M2, hg, hs⟩ := PMap.put Try.underlying57 Try.underlying54 int_info.1 int_info.2 M (j := 1) (by omega) (by rfl) (fun i _ hne => by show b + i ≠ b + 1; omega) (fun i hi => ⟨_, _, hQ i hi⟩)
          refine wp_insert_run _ _ _ _ _ rfl rfl rfl rfl hrun ?_
          clear M hrun
          have M := M2
          replace hQ := fun i hi => (hQ i hi).turned hg (hqm i hi)
          replace Z := Z.turned hg hzm
          replace hb := hb.grown hg hb.size (fun k hk => by cases hk; exact hmw)
          clear M2 hg hs
          refine hK.out _ _ ?_ (fun hHeld2 => ?_)
          · trivial
          clear hK K hHeld
          have hHeld := hHeld2
          clear hHeld2
          try simp only [Act.put, List.setIfInBounds_toArray]
          try simp only [List.getElem_toArray, List.getElem_cons_zero, List.getElem_cons_succ]
          have M4 := M.full (fun i hi => by rcases upto4 hi with rfl | rfl | rfl | rfl <;> rfl)
          refine wpAnyH_take (i := 9) (v := ?_) rfl (by kernel_rfl) (by kernel_rfl) (by kernel_rfl) (fun _ _ _ h => h) (Or.inl ⟨by rfl, ?_⟩) hHeld ?_
          rotate_left
          · (intro w hSw; (try dsimp only at hSw); go_simp; try with_reducible rfl)
          try simp only [Act.put, List.getElem_toArray, List.getElem_cons_zero, List.getElem_cons_succ, List.setIfInBounds_toArray, List.set_cons_zero, List.set_cons_succ]
          refine wpAnyH_ready (rs := [10]) (by kernel_rfl) (by simp) ?_
          refine AllReadyH.cons rfl (fun K hK => ?_) AllReadyH.nil
          rw [if_pos (by rfl)]
          obtain ⟨wr, cnt, hrun, hP, hg, hs⟩ := PMap.range Try.underlying57 M4
          refine wp_range_run _ _ _ rfl rfl hrun ?_
          have hnr := fun i hi => Nat.ne_of_lt (hQ i hi).lt
          have hzr := Z.lt
          replace hQ := fun i hi => (hQ i hi).turned hg (by simp)
          replace Z := Z.turned hg (by simp)
          replace hb := hb.grown hg hb.size (fun k hk => by cases hk)
          simp only [List.getElem_toArray, List.getElem_cons_zero, List.getElem_cons_succ, Act.put, List.setIfInBounds_toArray, List.set_cons_zero, List.set_cons_succ]
          refine hK.out _ _ ?_ (fun hHeld2 => ?_)
          · trivial
          clear hK K hHeld
          have hHeld := hHeld2
          clear hHeld2
          try simp only [Act.put, List.setIfInBounds_toArray, List.set_cons_zero, List.set_cons_succ]
          refine wpAnyH_done (by kernel_rfl) ?_ _
          go_wp2
          go_meet
          exact ⟨_, _, _, rfl, hP, hQ, Z, hb, fun i hi => ⟨fun e => hqm i hi (by rw [e]), hnr i hi⟩, by have := hzm; simp only [ne_eq, Option.some.injEq] at this; omega, hzr⟩
        · rw [if_pos (by rfl)]
          obtain ⟨y63, hrun, M2, hg, hs⟩ := PMap.put Try.underlying57 Try.underlying54 int_info.1 int_info.2 M (j := 1) (by omega) (by rfl) (fun i _ hne => by show b + i ≠ b + 1; omega) (fun i hi => ⟨_, _, hQ i hi⟩)
          refine wp_insert_run _ _ _ _ _ rfl rfl rfl rfl hrun ?_
          clear M hrun
          have M := M2
          replace hQ := fun i hi => (hQ i hi).turned hg (hqm i hi)
          replace Z := Z.turned hg hzm
          replace hb := hb.grown hg hb.size (fun k hk => by cases hk; exact hmw)
          clear M2 hg hs
          refine hK.out _ _ ?_ (fun hHeld2 => ?_)
          · trivial
          clear hK K hHeld
          have hHeld := hHeld2
          clear hHeld2
          try simp only [Act.put, List.setIfInBounds_toArray]
          try simp only [List.getElem_toArray, List.getElem_cons_zero, List.getElem_cons_succ]
          refine wpAnyH_ready (rs := [2]) (by kernel_rfl) (by simp) ?_
          refine AllReadyH.cons rfl (fun K hK => ?_) AllReadyH.nil
          rw [if_pos (by rfl)]
          obtain ⟨y64, hrun, M2, hg, hs⟩ := PMap.put Try.underlying57 Try.underlying54 int_info.1 int_info.2 M (j := 0) (by omega) (by rfl) (fun i _ hne => by show b + i ≠ b + 0; omega) (fun i hi => ⟨_, _, hQ i hi⟩)
          refine wp_insert_run _ _ _ _ _ rfl rfl rfl rfl hrun ?_
          clear M hrun
          have M := M2
          replace hQ := fun i hi => (hQ i hi).turned hg (hqm i hi)
          replace Z := Z.turned hg hzm
          replace hb := hb.grown hg hb.size (fun k hk => by cases hk; exact hmw)
          clear M2 hg hs
          refine hK.out _ _ ?_ (fun hHeld2 => ?_)
          · trivial
          clear hK K hHeld
          have hHeld := hHeld2
          clear hHeld2
          try simp only [Act.put, List.setIfInBounds_toArray]
          try simp only [List.getElem_toArray, List.getElem_cons_zero, List.getElem_cons_succ]
          have M4 := M.full (fun i hi => by rcases upto4 hi with rfl | rfl | rfl | rfl <;> rfl)
          refine wpAnyH_take (i := 9) (v := ?_) rfl (by kernel_rfl) (by kernel_rfl) (by kernel_rfl) (fun _ _ _ h => h) (Or.inl ⟨by rfl, ?_⟩) hHeld ?_
          rotate_left
          · (intro w hSw; (try dsimp only at hSw); go_simp; try with_reducible rfl)
          try simp only [Act.put, List.getElem_toArray, List.getElem_cons_zero, List.getElem_cons_succ, List.setIfInBounds_toArray, List.set_cons_zero, List.set_cons_succ]
          refine wpAnyH_ready (rs := [10]) (by kernel_rfl) (by simp) ?_
          refine AllReadyH.cons rfl (fun K hK => ?_) AllReadyH.nil
          rw [if_pos (by rfl)]
          obtain ⟨wr, cnt, hrun, hP, hg, hs⟩ := PMap.range Try.underlying57 M4
          refine wp_range_run _ _ _ rfl rfl hrun ?_
          have hnr := fun i hi => Nat.ne_of_lt (hQ i hi).lt
          have hzr := Z.lt
          replace hQ := fun i hi => (hQ i hi).turned hg (by simp)
          replace Z := Z.turned hg (by simp)
          replace hb := hb.grown hg hb.size (fun k hk => by cases hk)
          simp only [List.getElem_toArray, List.getElem_cons_zero, List.getElem_cons_succ, Act.put, List.setIfInBounds_toArray, List.set_cons_zero, List.set_cons_succ]
          refine hK.out _ _ ?_ (fun hHeld2 => ?_)
          · trivial
          clear hK K hHeld
          have hHeld := hHeld2
          clear hHeld2
          try simp only [Act.put, List.setIfInBounds_toArray, List.set_cons_zero, List.set_cons_succ]
          refine wpAnyH_done (by kernel_rfl) ?_ _
          go_wp2
          go_meet
          exact ⟨_, _, _, rfl, hP, hQ, Z, hb, fun i hi => ⟨fun e => hqm i hi (by rw [e]), hnr i hi⟩, by have := hzm; simp only [ne_eq, Option.some.injEq] at this; omega, hzr⟩
  case rest =>
    clear Z hb hQ hqm hzm hmw
    obtain ⟨r, m1, cnt, rfl, hP, hQ, Z, hb, hqr, hzm, hzr⟩ := hcut
    clear hm2 hm m
    obtain ⟨pa, hpa⟩ : ∃ pa : Nat → Int, ∀ i, (((rowsS.getD (i + 1) (0, 0)).1 : Nat) : Int) = pa i := ⟨_, fun _ => rfl⟩
    obtain ⟨ps, hps⟩ : ∃ ps : Nat → Int, ∀ i, (((rowsS.getD (i + 1) (0, 0)).2 : Nat) : Int) = ps i := ⟨_, fun _ => rfl⟩
    simp only [hpa, hps] at hP hx
    clear hpa hps
    go_wp2
    go_loopg [] cnt (fun rr wr => ∃ (x : Nat → Int) (done : Nat → Bool) (ct : Nat), ct ≤ rr ∧ PIter wr m1 r 4 (fun i => b + i) (fun i => .agg #[.int .i64 (pa i), .int .i64 (ps i)]) done ct ∧ (∀ i, i < 4 → BlkAt wr (b + i) #[.int .i64 (x i)] 3) ∧ Hid ((∀ i, i < 4 → done i = true → x i = tk i) ∧ (E = 3 → done 0 = false)) ∧ BlkAt wr w.heap.size #[.int .u32 0, .int .u32 0, .int .u32 0, .int .i64 0] 28 ∧ Below w.heap.size w wr)
    case atStart => exact ⟨fun _ => 0, _, _, Nat.le_refl _, hP, hQ, Lib.hid ⟨fun i _ h => (nomatch h), fun _ => rfl⟩, Z, hb⟩
    case round =>
      clear hP hQ Z hb
      obtain ⟨x, done, ct, hct, hP, hQ, hdn, Z, hb⟩ := hrel
      go_wp2_with (first | (at_next; refine wpList_next_ptr _ rfl _ rfl rfl hP ?_ ?_))
      · rintro rfl
        have hdone := hP.all (fun i j _ _ h => by have : b + i = b + j := h; omega)
        have hall := fun i hi => hdn.out.1 i hi (hdone i hi)
        have hE3 := hdn.out.2
        clear hP hdn hct
        rcases hx with ⟨kt, F⟩ | ⟨kt, hx⟩
        · have := hE3 F.out.2
          rw [hdone 0 (by omega)] at this
          cases this
        have b0 : wr.cell? ⟨b, 0, none⟩ = some (.int .i64 (tk 0)) := by rw [← hall 0 (by omega)]; exact (hQ 0 (by omega)).cell 0
        have b1 : wr.cell? ⟨b + 1, 0, none⟩ = some (.int .i64 (tk 1)) := by rw [← hall 1 (by omega)]; exact (hQ 1 (by omega)).cell 0
        have b2 : wr.cell? ⟨b + 1 + 1, 0, none⟩ = some (.int .i64 (tk 2)) := by rw [← hall 2 (by omega)]; exact (hQ 2 (by omega)).cell 0
        have b3 : wr.cell? ⟨b + 1 + 1 + 1, 0, none⟩ = some (.int .i64 (tk 3)) := by rw [← hall 3 (by omega)]; exact (hQ 3 (by omega)).cell 0
        have t0 := htk 0 (by omega)
        have t1 := htk 1 (by omega)
        have t2 := htk 2 (by omega)
        clear hall hdone hE3 hQ kt htk
        generalize tk 0 = y0 at *
        generalize tk 1 = y1 at *
        generalize tk 2 = y2 at *
        generalize tk 3 = y3 at *
        have e0 : IntKind.u32.wrap y0 = y0 := IntWalk.u32_in _ (by omega)
        have e1 : IntKind.u32.wrap y1 = y1 := IntWalk.u32_in _ (by omega)
        have e2 : IntKind.u32.wrap y2 = y2 := IntWalk.u32_in _ (by omega)
        go_upto_region 10 with fail
        have LB := BlkAt.new wr #[.int .u32 y0, .int .u32 y1, .int .u32 y2, .int .i64 y3] 28
        have hg : Below wr.heap.size wr (wr.alloc (.cells #[.int .u32 y0, .int .u32 y1, .int .u32 y2, .int .i64 y3] 28)) := (Below.refl _ _).alloc (Nat.le_refl _) _
        replace Z := Z.below hg (Nat.le_refl _)
        replace hb := hb.trans (hg.mono hb.size)
        clear hg b0 b1 b2 b3 e0 e1 e2 t0 t1 t2
        generalize World.alloc _ _ = v9 at *
        generalize wr.heap.size = t at *
        rcases hx with ⟨F, kw⟩ | ⟨L, hL, hLB, kw, ⟨hne, F⟩ | ⟨hne, F⟩⟩
        · go_wp2_with (first
            | refine wpList_load_row rfl 28 _ rfl t rfl _ _ _ _ LB Try.underlying28 rfl (by rw [hi4]; rfl) ?_
            | (go_at_call 9; (with_reducible refine (kw _).mono ?_); rintro e w8 ⟨rfl, hb8⟩; replace hb := hb.trans (hb8.mono hb.size); replace Z := Z.below hb8 (Nat.le_refl _); replace LB := LB.below hb8 (Nat.le_refl _); clear hb8)
            | refine wpList_store_row rfl 28 _ _ rfl w.heap.size #[.int .u32 0, .int .u32 0, .int .u32 0, .int .i64 0] rfl rfl _ _ Z (by rw [hi4]; rfl) rfl (by simp [Value.oneCell']) ?_)
          have hg2 := setRow_heap _ w.heap.size _ #[.int .u32 0, .int .u32 0, .int .u32 0, .int .i64 0] 28 (0, 0) Z
          exact bodyPost_ret (v := .tuple #[.agg #[.int .u32 0, .int .u32 0, .int .u32 0, .int .i64 0], .int .i64 90]) (results_cell_tmp (p := 2) (q := 3) (ty := 28) rfl _ _ w.heap.size _ #[.int .u32 0, .int .u32 0, .int .u32 0, .int .i64 0] _ _ rfl hg2 Try.underlying28 (by rw [hi4]; rfl)) rfl ⟨by rw [F.out.1, F.out.2], below_setRow hb (Nat.le_refl _) _⟩

        · go_wp2_with (first
            | refine wpList_load_row rfl 28 _ rfl t rfl _ _ _ _ LB Try.underlying28 rfl (by rw [hi4]; rfl) ?_
            | (go_at_call 9; (with_reducible refine (kw _).mono ?_); rintro e w8 ⟨g8, hg8, rfl, hc8, hb8⟩; have hI8 := (hI.below hb (Nat.le_refl _)).below hb8 (Nat.le_refl _); replace hb := hb.trans (hb8.mono hb.size); replace Z := Z.below hb8 (Nat.le_refl _); replace LB := LB.below hb8 (Nat.le_refl _); clear hb8)
            | (go_at_call 22; refine (bytes_equal _ _ _ _ _ _ L zs _ (Ints.ofCells hc8 hL (by omega) hLB) hI8).mono ?_; rw [hne]; rintro e w9 ⟨rfl, rfl⟩)
            | refine wpList_store_row rfl 28 _ _ rfl w.heap.size #[.int .u32 0, .int .u32 0, .int .u32 0, .int .i64 0] rfl rfl _ _ Z (by rw [hi4]; rfl) rfl (by simp [Value.oneCell']) ?_)
          have hg2 := setRow_heap _ w.heap.size _ #[.int .u32 0, .int .u32 0, .int .u32 0, .int .i64 0] 28 (0, 0) Z
          exact bodyPost_ret (v := .tuple #[.agg #[.int .u32 0, .int .u32 0, .int .u32 0, .int .i64 0], .int .i64 90]) (results_cell_tmp (p := 2) (q := 3) (ty := 28) rfl _ _ w.heap.size _ #[.int .u32 0, .int .u32 0, .int .u32 0, .int .i64 0] _ _ rfl hg2 Try.underlying28 (by rw [hi4]; rfl)) rfl ⟨by rw [F.out.1, F.out.2], below_setRow hb (Nat.le_refl _) _⟩

        · go_wp2_with (first
            | refine wpList_load_row rfl 28 _ rfl t rfl _ _ _ _ LB Try.underlying28 rfl (by rw [hi4]; rfl) ?_
            | (go_at_call 9; (with_reducible refine (kw _).mono ?_); rintro e w8 ⟨g8, hg8, rfl, hc8, hb8⟩; have hI8 := (hI.below hb (Nat.le_refl _)).below hb8 (Nat.le_refl _); replace hb := hb.trans (hb8.mono hb.size); replace Z := Z.below hb8 (Nat.le_refl _); replace LB := LB.below hb8 (Nat.le_refl _); clear hb8)
            | (go_at_call 22; refine (bytes_equal _ _ _ _ _ _ L zs _ (Ints.ofCells hc8 hL (by omega) hLB) hI8).mono ?_; rw [hne]; rintro e w9 ⟨rfl, rfl⟩)
            | refine wpList_store_row rfl 28 _ _ rfl w.heap.size #[.int .u32 y0, .int .u32 y1, .int .u32 y2, .int .i64 y3] rfl rfl _ _ Z (by rw [hi4]; rfl) rfl (by simp [Value.oneCell']) ?_)
          have hg2 := setRow_heap _ w.heap.size _ #[.int .u32 y0, .int .u32 y1, .int .u32 y2, .int .i64 y3] 28 (0, 0) Z
          exact bodyPost_ret (v := .tuple #[.agg #[.int .u32 y0, .int .u32 y1, .int .u32 y2, .int .i64 y3], .int .i64 0]) (results_cell_tmp (p := 2) (q := 3) (ty := 28) rfl _ _ w.heap.size _ #[.int .u32 y0, .int .u32 y1, .int .u32 y2, .int .i64 y3] _ _ rfl hg2 Try.underlying28 (by rw [hi4]; rfl)) rfl ⟨by rw [F.out.1, F.out.2], below_setRow hb (Nat.le_refl _) _⟩

      · intro i wn ct2 hi hP2 hlt hgn hsn hen
        replace hQ := fun j hj => (hQ j hj).turned hgn (by have := (hqr j hj).2; simpa using this)
        replace Z := Z.turned hgn (by simp; omega)
        replace hb := hb.grown hgn hb.size (fun k hk => by cases hk; omega)
        clear hP hgn hsn
        go_upto_region 5 with fail
        have G := CellsAt.new wn [.int .i64 (pa i), .int .i64 (ps i)] 56
        have hg : Below wn.heap.size wn (wn.alloc (.cells #[.int .i64 (pa i), .int .i64 (ps i)] 56)) := (Below.refl _ _).alloc (Nat.le_refl _) _
        replace hQ := fun j hj => (hQ j hj).below hg (Nat.le_refl _)
        replace Z := Z.below hg (Nat.le_refl _)
        replace hb := hb.trans (hg.mono hb.size)
        replace hP2 := hP2.below hg (Nat.le_refl _)
        clear hg hen
        generalize World.alloc _ _ = v4 at *
        generalize wn.heap.size = t at *
        have g0 := G.at_ 0 _ rfl
        have g1 := G.at_ 1 _ rfl
        rcases hx with ⟨kt, F⟩ | ⟨kt, hx⟩
        · go_wp2_with (first
            | (go_at_call 21; (with_reducible refine (kt _ _ hi).mono ?_); rintro e w5 ⟨rfl, rfl⟩)
            | refine wpList_store_row rfl 28 _ _ rfl w.heap.size #[.int .u32 0, .int .u32 0, .int .u32 0, .int .i64 0] rfl rfl _ _ Z (by rw [hi4]; rfl) rfl (by simp [Value.oneCell']) ?_)
          have hg2 := setRow_heap _ w.heap.size _ #[.int .u32 0, .int .u32 0, .int .u32 0, .int .i64 0] 28 (0, 0) Z
          exact bodyPost_ret (v := .tuple #[.agg #[.int .u32 0, .int .u32 0, .int .u32 0, .int .i64 0], .int .i64 3]) (results_cell_tmp (p := 2) (q := 3) (ty := 28) rfl _ _ w.heap.size _ #[.int .u32 0, .int .u32 0, .int .u32 0, .int .i64 0] _ _ rfl hg2 Try.underlying28 (by rw [hi4]; rfl)) rfl ⟨by rw [F.out.1, F.out.2], below_setRow hb (Nat.le_refl _) _⟩
        · have hE3 : Hid (E ≠ 3) := Lib.hid (by
            rcases hx with ⟨F, _⟩ | ⟨_, _, _, _, ⟨_, F⟩ | ⟨_, F⟩⟩
            all_goals
              rw [F.out.2]
              decide)
          clear hx
          go_upto_region 8 with (go_at_call 21; (with_reducible refine (kt _ _ hi (hI.below hb (Nat.le_refl _))).mono ?_); rintro e w5 ⟨rfl, hb5⟩)
          replace hQ := fun j hj => (hQ j hj).below hb5 (Nat.le_refl _)
          replace Z := Z.below hb5 (Nat.le_refl _)
          replace hb := hb.trans (hb5.mono hb.size)
          replace hP2 := hP2.below hb5 (Nat.le_refl _)
          clear hb5 g0 g1 G
          have c0 := (hQ i hi).cell 0
          have f0 := (hQ i hi).free 0
          go_wp2
          go_roundg (gk - 1)
          case measure => omega
          case rel =>
            have hqi := hqr i hi
            refine ⟨fun j => if j = i then tk i else x j, _, ct2, by omega, hP2.setCell (p := ⟨b + i, 0, none⟩) hqi.1 hqi.2 _, fun j hj => ?_, Lib.hid ⟨fun j hj hd => ?_, fun h => absurd h hE3.out⟩, Z.other (p := ⟨b + i, 0, none⟩) (by dsimp only; omega) _, hb.setCell (p := ⟨b + i, 0, none⟩) (by dsimp only; omega) _⟩
            · by_cases hji : j = i
              · subst hji
                simp only [if_true]
                exact (hQ j hj).put 0 _
              · simp only [if_neg hji]
                exact (hQ j hj).other (p := ⟨b + i, 0, none⟩) (by dsimp only; omega) _
            · by_cases hji : j = i
              · simp [hji]
              · simp only [if_neg hji]
                exact hdn.out.1 j hj (by simpa [hji] using hd)

theorem takeS_pad (zs : List Int) (q k : Nat) : takeN (pad zs) q k = takeN zs q k := takeN_congr fun i _ => pad_getD _
theorem tookS_pad (zs : List Int) : tookS (pad zs) = tookS zs := by unfold tookS; simp only [takeS_pad]
theorem supRead_text (a0 : Option Addr) (n0 c0 : Nat) (zs : List Int) (w : World) (hI : Ints .u8 w a0 n0 zs) (h0 : n0 ≠ 0) (h1 : n0 ≠ 128) : Calls Try.prog 11 #[.slice a0 n0 c0] w fun e w' => e = .returned (.tuple #[supV zeroS, .int .i64 3]) ∧ Below w.heap.size w w' :=
  sread_gen a0 n0 c0 zs w hI (supA zeroS) 3 (fun _ => 0) (fun _ _ => ⟨by decide, by decide⟩) (.inl ⟨fun i W hi => take_text a0 n0 c0 _ _ W hI.max h0 h1, Lib.hid ⟨rfl, rfl⟩⟩)
theorem supRead (a0 : Option Addr) (n0 c0 : Nat) (zs : List Int) (w : World) (hI : Ints .u8 w a0 n0 zs) (hn : n0 = 0 ∨ n0 = 128) : Calls Try.prog 11 #[.slice a0 n0 c0] w fun e w' => e = .returned (.tuple #[supV (readS (pad zs)), .int .i64 (readES (pad zs))]) ∧ Below w.heap.size w w' := by
  have hB := bytes_of hI
  have t4 : ∀ p, 0 ≤ takeN zs p 4 ∧ takeN zs p 4 ≤ 4294967295 := fun p => by have := takeN_in hB p 4; rw [pow_256.2.2.2.2] at this; omega
  have hw := tookS_wide (pad_bytes hB)
  refine sread_gen a0 n0 c0 zs w hI (supA (readS (pad zs))) (readES (pad zs)) (fun i => takeN zs (rowsS.getD (i + 1) (0, 0)).1 (rowsS.getD (i + 1) (0, 0)).2) (fun i hi => ?_) (.inr ⟨fun i W hi h => ?_, ?_⟩)
  · have : i = 0 ∨ i = 1 ∨ i = 2 := by omega
    rcases this with rfl | rfl | rfl
    · exact t4 1
    · exact t4 5
    · exact t4 9
  · have lay := rowsS_lay.2 (i + 1) (show i + 1 < 5 by omega)
    exact take_ok a0 n0 c0 zs _ _ W h hn lay.1 lay.2.1 (by omega)
  rw [tookS_pad] at hw
  by_cases hM : MayS (tookS zs)
  · have hn0 : n0 = 128 := by
      rcases hn with q | q
      · have : zs = [] := List.length_eq_zero_iff.1 (hI.len.trans q)
        subst this
        exact absurd (by rw [tookS_pad]; exact hM) not_mayS_nil
      · exact q
    have hp : pad zs = zs := pad_whole (hI.len.trans hn0)
    refine .inr ⟨blockS (tookS zs), blockS_len _, blockS_bytes _, fun W => supWrite_ok hw hM W, ?_⟩
    by_cases hE : blockS (tookS zs) = zs
    · refine .inr ⟨decide_eq_true hE, Lib.hid ?_⟩
      have : ReadsS zs := ⟨hM, hE⟩
      rw [hp]
      unfold readS readES
      rw [if_pos this, if_pos this]
      exact ⟨rfl, rfl⟩
    · refine .inl ⟨decide_eq_false hE, Lib.hid ?_⟩
      have : ¬ ReadsS zs := fun q => hE q.2
      rw [hp]
      unfold readS readES
      rw [if_neg this, if_neg this]
      exact ⟨rfl, rfl⟩
  · refine .inl ⟨Lib.hid ?_, fun W => supWrite_no hM W⟩
    have : ¬ ReadsS (pad zs) := fun q => hM (by rw [← tookS_pad]; exact q.1)
    unfold readS readES
    rw [if_neg this, if_neg this]
    exact ⟨rfl, rfl⟩

end Go.Proofs.Ytcngonedcnddlaa
