/- The walk of the document's own answer for layer 10: Read. -/
import Derived.Test.YtcngonedcnddlaaSuperRef
import Derived.Test.YtcngonedcnddlaaSuperRead
import Derived.Deep.DeepCutAuto
namespace Go.Proofs.Ytcngonedcnddlaa
open Go.RowKit PolyM PackM SealM LabelM SuperM
set_option linter.unusedVariables false

set_option maxRecDepth 100000 in
set_option maxHeartbeats 4000000 in
theorem read10_text (a0 : Option Addr) (n0 c0 : Nat) (hm : n0 ≤ 9223372036854775807) (h0 : n0 ≠ 0) (h1 : n0 ≠ 128) (w : World) : Calls Try.prog 15 #[.slice a0 n0 c0] w fun e w' => e = .returned (.tuple #[.agg #[.int .u32 0, .int .u32 0, .int .u32 0, .int .i64 0], .int .i64 3]) ∧ Below w.heap.size w w' := by
  have kb := fun W => rblock_no a0 n0 c0 W hm h0 h1
  clear hm h0 h1
  have Z := BlkAt.new w #[.int .u32 0, .int .u32 0, .int .u32 0, .int .i64 0] 28
  have hb : Below w.heap.size w (w.alloc (.cells #[.int .u32 0, .int .u32 0, .int .u32 0, .int .i64 0] 28 (0, 0))) := (Below.refl _ _).alloc (Nat.le_refl _) _
  have hi4 := (zero_of_info super_size).2
  go_enter Try.func15, Try.ntmps15
  go_upto_region 1 with fail
  generalize World.alloc _ _ = v1 at *
  go_wp2_with (first
    | (go_at_call 26; refine (kb _).mono ?_; rintro e w2 ⟨rfl, rfl⟩)
    | refine wpList_store_row rfl 28 _ _ rfl w.heap.size #[.int .u32 0, .int .u32 0, .int .u32 0, .int .i64 0] rfl rfl _ _ Z (by rw [hi4]; rfl) rfl (by simp [Value.oneCell']) ?_)
  have hg2 := setRow_heap _ w.heap.size _ #[.int .u32 0, .int .u32 0, .int .u32 0, .int .i64 0] 28 (0, 0) Z
  exact bodyPost_ret (v := .tuple #[.agg #[.int .u32 0, .int .u32 0, .int .u32 0, .int .i64 0], .int .i64 3]) (results_cell_tmp (p := 2) (q := 3) (ty := 28) rfl _ _ w.heap.size _ #[.int .u32 0, .int .u32 0, .int .u32 0, .int .i64 0] _ _ rfl hg2 Try.underlying28 (by rw [hi4]; rfl)) rfl ⟨rfl, below_setRow hb (Nat.le_refl _) _⟩

set_option maxRecDepth 100000 in
set_option maxHeartbeats 4000000 in
theorem read10_gen (a0 : Option Addr) (n0 c0 : Nat) (zs L : List Int) (hL : L.length = 128) (hB : Bytes L) (w : World) (hI : Ints .u8 w a0 n0 zs) (hn : n0 = 0 ∨ n0 = 128) (n1 n5 n9 x13 : Int)
    (kwh : ∀ W, Ints .u8 W a0 n0 zs → Calls Try.prog 27 #[.slice a0 n0 c0] W (NewBlk W L))
    (h8 : ∀ (g : Nat) (W : World), BlkAt W g (cells L) 5 → W.cell? ⟨g, 13, none⟩ = some (.int .u8 x13)) (k1 : ∀ (g : Nat) (W : World), BlkAt W g (cells L) 5 → Calls Try.prog 28 #[.slice (some ⟨g, 0, none⟩) 128 128, .int .i64 1] W fun e w' => e = .returned (.int .u32 n1) ∧ Below W.heap.size W w') (k5 : ∀ (g : Nat) (W : World), BlkAt W g (cells L) 5 → Calls Try.prog 28 #[.slice (some ⟨g, 0, none⟩) 128 128, .int .i64 5] W fun e w' => e = .returned (.int .u32 n5) ∧ Below W.heap.size W w') (k9 : ∀ (g : Nat) (W : World), BlkAt W g (cells L) 5 → Calls Try.prog 28 #[.slice (some ⟨g, 0, none⟩) 128 128, .int .i64 9] W fun e w' => e = .returned (.int .u32 n9) ∧ Below W.heap.size W w')
    (p13 : 0 ≤ x13) (q13 : x13 ≤ 255) (R : Array Value) (E : Int)
    (hx : (Hid (R = #[.int .u32 0, .int .u32 0, .int .u32 0, .int .i64 0] ∧ E = 90) ∧ ∀ W, Calls Try.prog 24 #[.agg #[.int .u32 n1, .int .u32 n5, .int .u32 n9, .int .i64 x13]] W fun e w' => e = .returned (.bool false) ∧ Below W.heap.size W w') ∨ (∀ W, Calls Try.prog 24 #[.agg #[.int .u32 n1, .int .u32 n5, .int .u32 n9, .int .i64 x13]] W fun e w' => e = .returned (.bool true) ∧ Below W.heap.size W w') ∧ ∃ M : List Int, M.length = 128 ∧ Bytes M ∧ (∀ W, Calls Try.prog 25 #[.agg #[.int .u32 n1, .int .u32 n5, .int .u32 n9, .int .i64 x13]] W (NewBlk W M)) ∧ ((decide (M = L) = false ∧ Hid (R = #[.int .u32 0, .int .u32 0, .int .u32 0, .int .i64 0] ∧ E = 90)) ∨ (decide (M = L) = true ∧ Hid (R = #[.int .u32 n1, .int .u32 n5, .int .u32 n9, .int .i64 x13] ∧ E = 0)))) :
    Calls Try.prog 15 #[.slice a0 n0 c0] w fun e w' => e = .returned (.tuple #[.agg R, .int .i64 E]) ∧ Below w.heap.size w w' := by
  have Z := BlkAt.new w #[.int .u32 0, .int .u32 0, .int .u32 0, .int .i64 0] 28
  have hb : Below w.heap.size w (w.alloc (.cells #[.int .u32 0, .int .u32 0, .int .u32 0, .int .i64 0] 28 (0, 0))) := (Below.refl _ _).alloc (Nat.le_refl _) _
  have hi4 := (zero_of_info super_size).2
  have ky := fun W => rblock_yes a0 n0 c0 W hn
  go_enter Try.func15, Try.ntmps15
  go_upto_region 1 with fail
  generalize World.alloc _ _ = v1 at *
  go_upto_region 4 with (first
    | (go_at_call 26; refine (ky _).mono ?_; rintro e w2 ⟨rfl, rfl⟩)
    | (go_at_call 27; (with_reducible refine (kwh _ (hI.below hb (Nat.le_refl _))).mono ?_); rintro e v2 ⟨g, hg, rfl, hc, hb2⟩))
  have C : BlkAt v2 g (cells L) 5 := hc
  replace Z := Z.below hb2 (Nat.le_refl _)
  replace hb := hb.trans (hb2.mono hb.size)
  clear hc hb2 ky kwh hI
  go_cut [5] (fun s5 wx => ∃ t : Nat, s5 = .pointer (some ⟨t, 0, none⟩) ∧ BlkAt wx t #[.int .u32 n1, .int .u32 n5, .int .u32 n9, .int .i64 x13] 28 ∧ BlkAt wx w.heap.size #[.int .u32 0, .int .u32 0, .int .u32 0, .int .i64 0] 28 ∧ BlkAt wx g (cells L) 5 ∧ Below w.heap.size w wx ∧ w.heap.size < t ∧ g < t)
  case first =>
    clear hx
    have w13 : IntKind.i64.wrap x13 = x13 := IntWalk.i64_in _ (by omega)
    refine wp_region_held_drew (S := (fun W => W.cell? ⟨g, 13, none⟩ = some (.int .u8 x13))) (by kernel_rfl) ?_ (fun hHeld => ?_)
    · exact h8 g _ C.drew
    refine wpAnyH_take (i := 0) (v := ?_) rfl (by kernel_rfl) (by kernel_rfl) (by kernel_rfl) (fun _ _ _ h => h) (Or.inl ⟨by rfl, ?_⟩) hHeld ?_
    rotate_left
    · (intro w hSw; (try dsimp only at hSw); go_simp; try with_reducible rfl)
    try simp only [Act.put, List.getElem_toArray, List.getElem_cons_zero, List.setIfInBounds_toArray, List.set_cons_zero, List.set_cons_succ]
    refine wpAnyH_take (i := 2) (v := ?_) rfl (by kernel_rfl) (by kernel_rfl) (by kernel_rfl) (fun _ _ _ h => h) (Or.inl ⟨by rfl, ?_⟩) hHeld ?_
    rotate_left
    · (intro w hSw; (try dsimp only at hSw); go_simp; try with_reducible rfl)
    try simp only [Act.put, List.getElem_toArray, List.getElem_cons_zero, List.getElem_cons_succ, List.setIfInBounds_toArray, List.set_cons_zero, List.set_cons_succ]
    refine wpAnyH_take (i := 4) (v := ?_) rfl (by kernel_rfl) (by kernel_rfl) (by kernel_rfl) (fun _ _ _ h => h) (Or.inl ⟨by rfl, ?_⟩) hHeld ?_
    rotate_left
    · (intro w hSw; (try dsimp only at hSw); go_simp; try with_reducible rfl)
    try simp only [Act.put, List.getElem_toArray, List.getElem_cons_zero, List.getElem_cons_succ, List.setIfInBounds_toArray, List.set_cons_zero, List.set_cons_succ]
    refine wpAnyH_take (i := 6) (v := ?_) rfl (by kernel_rfl) (by kernel_rfl) (by kernel_rfl) (fun _ _ _ h => h) (Or.inl ⟨by rfl, ?_⟩) hHeld ?_
    rotate_left
    · (intro w hSw; (try dsimp only at hSw); go_simp; try with_reducible rfl)
    try simp only [Act.put, List.getElem_toArray, List.getElem_cons_zero, List.getElem_cons_succ, List.setIfInBounds_toArray, List.set_cons_zero, List.set_cons_succ]
    refine wpAnyH_take (i := 7) (v := ?_) rfl (by kernel_rfl) (by kernel_rfl) (by kernel_rfl) (fun _ _ _ h => h) (Or.inl ⟨by rfl, ?_⟩) hHeld ?_
    rotate_left
    · (intro w hSw; (try dsimp only at hSw); go_simp; try with_reducible rfl)
    try simp only [Act.put, List.getElem_toArray, List.getElem_cons_zero, List.getElem_cons_succ, List.setIfInBounds_toArray, List.set_cons_zero, List.set_cons_succ]
    refine wpAnyH_take (i := 8) (v := ?_) rfl (by kernel_rfl) (by kernel_rfl) (by kernel_rfl) (fun _ _ _ h => h) (Or.inl ⟨by rfl, ?_⟩) hHeld ?_
    rotate_left
    · (intro w hSw; (try dsimp only at hSw); go_simp; try with_reducible rfl)
    try simp only [Act.put, List.getElem_toArray, List.getElem_cons_zero, List.getElem_cons_succ, List.setIfInBounds_toArray, List.set_cons_zero, List.set_cons_succ]
    refine wpAnyH_take (i := 9) (v := ?_) rfl (by kernel_rfl) (by kernel_rfl) (by kernel_rfl) (fun _ _ _ h => h) (Or.inl ⟨by rfl, ?_⟩) hHeld ?_
    rotate_left
    · (intro w hSw; (try dsimp only at hSw); go_simp; try with_reducible rfl)
    try simp only [Act.put, List.getElem_toArray, List.getElem_cons_zero, List.getElem_cons_succ, List.setIfInBounds_toArray, List.set_cons_zero, List.set_cons_succ]
    refine wpAnyH_ready (rs := [1, 11]) (by kernel_rfl) (by simp) ?_
    refine AllReadyH.cons rfl (fun K hK => ?_) (AllReadyH.cons rfl (fun K hK => ?_) AllReadyH.nil)
    · replace C := C.drew
      replace Z := Z.drew
      replace hb := hb.drew
      go_simp
      (with_reducible refine (k1 g _ C).mono ?_)
      rintro e u0 ⟨rfl, hq⟩
      replace C := C.below hq (Nat.le_refl _)
      replace Z := Z.below hq (Nat.le_refl _)
      replace hb := hb.trans (hq.mono hb.size)
      clear hq
      go_wp2_with fail
      refine hK.out _ _ ?_ (fun hHeld2 => ?_)
      · exact h8 g _ C
      clear hK K hHeld
      have hHeld := hHeld2
      clear hHeld2
      try simp only [Act.put, List.setIfInBounds_toArray, List.set_cons_zero, List.set_cons_succ]
      refine wpAnyH_ready (rs := [3, 11]) (by kernel_rfl) (by simp) ?_
      refine AllReadyH.cons rfl (fun K hK => ?_) (AllReadyH.cons rfl (fun K hK => ?_) AllReadyH.nil)
      · go_simp
        (with_reducible refine (k5 g _ C).mono ?_)
        rintro e u1 ⟨rfl, hq⟩
        replace C := C.below hq (Nat.le_refl _)
        replace Z := Z.below hq (Nat.le_refl _)
        replace hb := hb.trans (hq.mono hb.size)
        clear hq
        go_wp2_with fail
        refine hK.out _ _ ?_ (fun hHeld2 => ?_)
        · exact h8 g _ C
        clear hK K hHeld
        have hHeld := hHeld2
        clear hHeld2
        try simp only [Act.put, List.setIfInBounds_toArray, List.set_cons_zero, List.set_cons_succ]
        refine wpAnyH_ready (rs := [5, 11]) (by kernel_rfl) (by simp) ?_
        refine AllReadyH.cons rfl (fun K hK => ?_) (AllReadyH.cons rfl (fun K hK => ?_) AllReadyH.nil)
        · go_simp
          (with_reducible refine (k9 g _ C).mono ?_)
          rintro e u2 ⟨rfl, hq⟩
          replace C := C.below hq (Nat.le_refl _)
          replace Z := Z.below hq (Nat.le_refl _)
          replace hb := hb.trans (hq.mono hb.size)
          clear hq
          go_wp2_with fail
          refine hK.out _ _ ?_ (fun hHeld2 => ?_)
          · exact h8 g _ C
          clear hK K hHeld
          have hHeld := hHeld2
          clear hHeld2
          try simp only [Act.put, List.setIfInBounds_toArray, List.set_cons_zero, List.set_cons_succ]
          refine wpAnyH_take (i := 10) (v := ?_) rfl (by kernel_rfl) (by kernel_rfl) (by kernel_rfl) (fun _ _ _ h => h) (Or.inl ⟨by rfl, ?_⟩) hHeld ?_
          rotate_left
          · (intro w hSw; (try dsimp only at hSw); go_simp; try with_reducible rfl)
          try simp only [Act.put, List.getElem_toArray, List.getElem_cons_zero, List.getElem_cons_succ, List.setIfInBounds_toArray, List.set_cons_zero, List.set_cons_succ]
          refine wpAnyH_ready (rs := [11]) (by kernel_rfl) (by simp) ?_
          refine AllReadyH.cons rfl (fun K hK => ?_) AllReadyH.nil
          go_simp
          have T := BlkAt.new u2 #[.int .u32 0, .int .u32 0, .int .u32 0, .int .i64 0] 28
          have hzt := Z.lt
          have hgt := C.lt
          replace C := C.alloc (.cells #[.int .u32 0, .int .u32 0, .int .u32 0, .int .i64 0] 28)
          replace Z := Z.alloc (.cells #[.int .u32 0, .int .u32 0, .int .u32 0, .int .i64 0] 28)
          replace hb := hb.alloc hb.size (.cells #[.int .u32 0, .int .u32 0, .int .u32 0, .int .i64 0] 28)
          generalize World.alloc _ _ = va at *
          generalize hta : World.heap u2 = hp at *
          clear hta
          generalize hp.size = t at *
          refine hK.out _ _ ?_ (fun hHeld2 => ?_)
          · exact h8 g _ C
          clear hK K hHeld
          have hHeld := hHeld2
          clear hHeld2
          try simp only [Act.put, List.setIfInBounds_toArray, List.set_cons_zero, List.set_cons_succ]
          refine wpAnyH_ready (rs := [12]) (by kernel_rfl) (by simp) ?_
          refine AllReadyH.cons rfl (fun K hK => ?_) AllReadyH.nil
          rw [if_pos (by rfl)]
          refine wp_store_row _ _ _ rfl t #[.int .u32 n1, .int .u32 n5, .int .u32 n9, .int .i64 x13] rfl rfl _ _ T (by rw [hi4]; rfl) rfl (by simp [Value.oneCell']) ?_
          replace hb := below_setRow hb (Nat.le_of_lt hzt) #[.int .u32 n1, .int .u32 n5, .int .u32 n9, .int .i64 x13]
          replace C := C.setOther (q := t) (ds := #[.int .u32 n1, .int .u32 n5, .int .u32 n9, .int .i64 x13]) (by omega)
          replace Z := Z.setOther (q := t) (ds := #[.int .u32 n1, .int .u32 n5, .int .u32 n9, .int .i64 x13]) (by omega)
          replace T := T.setRow (cs := #[.int .u32 n1, .int .u32 n5, .int .u32 n9, .int .i64 x13])
          refine hK.out _ _ ?_ (fun hHeld2 => ?_)
          · exact h8 g _ C
          clear hK K hHeld
          have hHeld := hHeld2
          clear hHeld2
          try simp only [Act.put, List.setIfInBounds_toArray]
          try simp only [List.getElem_toArray, List.getElem_cons_zero, List.getElem_cons_succ]
          refine wpAnyH_done (by kernel_rfl) ?_ _
          go_wp2
          go_meet
          exact ⟨t, rfl, T, Z, C, hb, hzt, hgt⟩
        · go_simp
          have T := BlkAt.new u1 #[.int .u32 0, .int .u32 0, .int .u32 0, .int .i64 0] 28
          have hzt := Z.lt
          have hgt := C.lt
          replace C := C.alloc (.cells #[.int .u32 0, .int .u32 0, .int .u32 0, .int .i64 0] 28)
          replace Z := Z.alloc (.cells #[.int .u32 0, .int .u32 0, .int .u32 0, .int .i64 0] 28)
          replace hb := hb.alloc hb.size (.cells #[.int .u32 0, .int .u32 0, .int .u32 0, .int .i64 0] 28)
          generalize World.alloc _ _ = va at *
          generalize hta : World.heap u1 = hp at *
          clear hta
          generalize hp.size = t at *
          refine hK.out _ _ ?_ (fun hHeld2 => ?_)
          · exact h8 g _ C
          clear hK K hHeld
          have hHeld := hHeld2
          clear hHeld2
          try simp only [Act.put, List.setIfInBounds_toArray, List.set_cons_zero, List.set_cons_succ]
          refine wpAnyH_ready (rs := [5]) (by kernel_rfl) (by simp) ?_
          refine AllReadyH.cons rfl (fun K hK => ?_) AllReadyH.nil
          go_simp
          (with_reducible refine (k9 g _ C).mono ?_)
          rintro e w5 ⟨rfl, hq⟩
          replace C := C.below hq (Nat.le_refl _)
          replace Z := Z.below hq (Nat.le_refl _)
          replace T := T.below hq (Nat.le_refl _)
          replace hb := hb.trans (hq.mono hb.size)
          clear hq
          go_wp2_with fail
          refine hK.out _ _ ?_ (fun hHeld2 => ?_)
          · exact h8 g _ C
          clear hK K hHeld
          have hHeld := hHeld2
          clear hHeld2
          try simp only [Act.put, List.setIfInBounds_toArray, List.set_cons_zero, List.set_cons_succ]
          refine wpAnyH_take (i := 10) (v := ?_) rfl (by kernel_rfl) (by kernel_rfl) (by kernel_rfl) (fun _ _ _ h => h) (Or.inl ⟨by rfl, ?_⟩) hHeld ?_
          rotate_left
          · (intro w hSw; (try dsimp only at hSw); go_simp; try with_reducible rfl)
          try simp only [Act.put, List.getElem_toArray, List.getElem_cons_zero, List.getElem_cons_succ, List.setIfInBounds_toArray, List.set_cons_zero, List.set_cons_succ]
          refine wpAnyH_ready (rs := [12]) (by kernel_rfl) (by simp) ?_
          refine AllReadyH.cons rfl (fun K hK => ?_) AllReadyH.nil
          rw [if_pos (by rfl)]
          refine wp_store_row _ _ _ rfl t #[.int .u32 n1, .int .u32 n5, .int .u32 n9, .int .i64 x13] rfl rfl _ _ T (by rw [hi4]; rfl) rfl (by simp [Value.oneCell']) ?_
          replace hb := below_setRow hb (Nat.le_of_lt hzt) #[.int .u32 n1, .int .u32 n5, .int .u32 n9, .int .i64 x13]
          replace C := C.setOther (q := t) (ds := #[.int .u32 n1, .int .u32 n5, .int .u32 n9, .int .i64 x13]) (by omega)
          replace Z := Z.setOther (q := t) (ds := #[.int .u32 n1, .int .u32 n5, .int .u32 n9, .int .i64 x13]) (by omega)
          replace T := T.setRow (cs := #[.int .u32 n1, .int .u32 n5, .int .u32 n9, .int .i64 x13])
          refine hK.out _ _ ?_ (fun hHeld2 => ?_)
          · exact h8 g _ C
          clear hK K hHeld
          have hHeld := hHeld2
          clear hHeld2
          try simp only [Act.put, List.setIfInBounds_toArray]
          try simp only [List.getElem_toArray, List.getElem_cons_zero, List.getElem_cons_succ]
          refine wpAnyH_done (by kernel_rfl) ?_ _
          go_wp2
          go_meet
          exact ⟨t, rfl, T, Z, C, hb, hzt, hgt⟩
      · go_simp
        have T := BlkAt.new u0 #[.int .u32 0, .int .u32 0, .int .u32 0, .int .i64 0] 28
        have hzt := Z.lt
        have hgt := C.lt
        replace C := C.alloc (.cells #[.int .u32 0, .int .u32 0, .int .u32 0, .int .i64 0] 28)
        replace Z := Z.alloc (.cells #[.int .u32 0, .int .u32 0, .int .u32 0, .int .i64 0] 28)
        replace hb := hb.alloc hb.size (.cells #[.int .u32 0, .int .u32 0, .int .u32 0, .int .i64 0] 28)
        generalize World.alloc _ _ = va at *
        generalize hta : World.heap u0 = hp at *
        clear hta
        generalize hp.size = t at *
        refine hK.out _ _ ?_ (fun hHeld2 => ?_)
        · exact h8 g _ C
        clear hK K hHeld
        have hHeld := hHeld2
        clear hHeld2
        try simp only [Act.put, List.setIfInBounds_toArray, List.set_cons_zero, List.set_cons_succ]
        refine wpAnyH_ready (rs := [3]) (by kernel_rfl) (by simp) ?_
        refine AllReadyH.cons rfl (fun K hK => ?_) AllReadyH.nil
        go_simp
        (with_reducible refine (k5 g _ C).mono ?_)
        rintro e w5 ⟨rfl, hq⟩
        replace C := C.below hq (Nat.le_refl _)
        replace Z := Z.below hq (Nat.le_refl _)
        replace T := T.below hq (Nat.le_refl _)
        replace hb := hb.trans (hq.mono hb.size)
        clear hq
        go_wp2_with fail
        refine hK.out _ _ ?_ (fun hHeld2 => ?_)
        · exact h8 g _ C
        clear hK K hHeld
        have hHeld := hHeld2
        clear hHeld2
        try simp only [Act.put, List.setIfInBounds_toArray, List.set_cons_zero, List.set_cons_succ]
        refine wpAnyH_ready (rs := [5]) (by kernel_rfl) (by simp) ?_
        refine AllReadyH.cons rfl (fun K hK => ?_) AllReadyH.nil
        go_simp
        (with_reducible refine (k9 g _ C).mono ?_)
        rintro e w6 ⟨rfl, hq⟩
        replace C := C.below hq (Nat.le_refl _)
        replace Z := Z.below hq (Nat.le_refl _)
        replace T := T.below hq (Nat.le_refl _)
        replace hb := hb.trans (hq.mono hb.size)
        clear hq
        go_wp2_with fail
        refine hK.out _ _ ?_ (fun hHeld2 => ?_)
        · exact h8 g _ C
        clear hK K hHeld
        have hHeld := hHeld2
        clear hHeld2
        try simp only [Act.put, List.setIfInBounds_toArray, List.set_cons_zero, List.set_cons_succ]
        refine wpAnyH_take (i := 10) (v := ?_) rfl (by kernel_rfl) (by kernel_rfl) (by kernel_rfl) (fun _ _ _ h => h) (Or.inl ⟨by rfl, ?_⟩) hHeld ?_
        rotate_left
        · (intro w hSw; (try dsimp only at hSw); go_simp; try with_reducible rfl)
        try simp only [Act.put, List.getElem_toArray, List.getElem_cons_zero, List.getElem_cons_succ, List.setIfInBounds_toArray, List.set_cons_zero, List.set_cons_succ]
        refine wpAnyH_ready (rs := [12]) (by kernel_rfl) (by simp) ?_
        refine AllReadyH.cons rfl (fun K hK => ?_) AllReadyH.nil
        rw [if_pos (by rfl)]
        refine wp_store_row _ _ _ rfl t #[.int .u32 n1, .int .u32 n5, .int .u32 n9, .int .i64 x13] rfl rfl _ _ T (by rw [hi4]; rfl) rfl (by simp [Value.oneCell']) ?_
        replace hb := below_setRow hb (Nat.le_of_lt hzt) #[.int .u32 n1, .int .u32 n5, .int .u32 n9, .int .i64 x13]
        replace C := C.setOther (q := t) (ds := #[.int .u32 n1, .int .u32 n5, .int .u32 n9, .int .i64 x13]) (by omega)
        replace Z := Z.setOther (q := t) (ds := #[.int .u32 n1, .int .u32 n5, .int .u32 n9, .int .i64 x13]) (by omega)
        replace T := T.setRow (cs := #[.int .u32 n1, .int .u32 n5, .int .u32 n9, .int .i64 x13])
        refine hK.out _ _ ?_ (fun hHeld2 => ?_)
        · exact h8 g _ C
        clear hK K hHeld
        have hHeld := hHeld2
        clear hHeld2
        try simp only [Act.put, List.setIfInBounds_toArray]
        try simp only [List.getElem_toArray, List.getElem_cons_zero, List.getElem_cons_succ]
        refine wpAnyH_done (by kernel_rfl) ?_ _
        go_wp2
        go_meet
        exact ⟨t, rfl, T, Z, C, hb, hzt, hgt⟩
    · go_simp
      have T := BlkAt.new v2 #[.int .u32 0, .int .u32 0, .int .u32 0, .int .i64 0] 28
      have hzt := Z.lt
      have hgt := C.lt
      replace C := C.alloc (.cells #[.int .u32 0, .int .u32 0, .int .u32 0, .int .i64 0] 28)
      replace Z := Z.alloc (.cells #[.int .u32 0, .int .u32 0, .int .u32 0, .int .i64 0] 28)
      replace hb := hb.alloc hb.size (.cells #[.int .u32 0, .int .u32 0, .int .u32 0, .int .i64 0] 28)
      generalize World.alloc _ _ = va at *
      generalize hta : World.heap v2 = hp at *
      clear hta
      generalize hp.size = t at *
      replace C := C.drew
      replace Z := Z.drew
      replace T := T.drew
      replace hb := hb.drew
      refine hK.out _ _ ?_ (fun hHeld2 => ?_)
      · exact h8 g _ C
      clear hK K hHeld
      have hHeld := hHeld2
      clear hHeld2
      try simp only [Act.put, List.setIfInBounds_toArray, List.set_cons_zero, List.set_cons_succ]
      refine wpAnyH_ready (rs := [1]) (by kernel_rfl) (by simp) ?_
      refine AllReadyH.cons rfl (fun K hK => ?_) AllReadyH.nil
      go_simp
      (with_reducible refine (k1 g _ C).mono ?_)
      rintro e w5 ⟨rfl, hq⟩
      replace C := C.below hq (Nat.le_refl _)
      replace Z := Z.below hq (Nat.le_refl _)
      replace T := T.below hq (Nat.le_refl _)
      replace hb := hb.trans (hq.mono hb.size)
      clear hq
      go_wp2_with fail
      refine hK.out _ _ ?_ (fun hHeld2 => ?_)
      · exact h8 g _ C
      clear hK K hHeld
      have hHeld := hHeld2
      clear hHeld2
      try simp only [Act.put, List.setIfInBounds_toArray, List.set_cons_zero, List.set_cons_succ]
      refine wpAnyH_ready (rs := [3]) (by kernel_rfl) (by simp) ?_
      refine AllReadyH.cons rfl (fun K hK => ?_) AllReadyH.nil
      go_simp
      (with_reducible refine (k5 g _ C).mono ?_)
      rintro e w6 ⟨rfl, hq⟩
      replace C := C.below hq (Nat.le_refl _)
      replace Z := Z.below hq (Nat.le_refl _)
      replace T := T.below hq (Nat.le_refl _)
      replace hb := hb.trans (hq.mono hb.size)
      clear hq
      go_wp2_with fail
      refine hK.out _ _ ?_ (fun hHeld2 => ?_)
      · exact h8 g _ C
      clear hK K hHeld
      have hHeld := hHeld2
      clear hHeld2
      try simp only [Act.put, List.setIfInBounds_toArray, List.set_cons_zero, List.set_cons_succ]
      refine wpAnyH_ready (rs := [5]) (by kernel_rfl) (by simp) ?_
      refine AllReadyH.cons rfl (fun K hK => ?_) AllReadyH.nil
      go_simp
      (with_reducible refine (k9 g _ C).mono ?_)
      rintro e w7 ⟨rfl, hq⟩
      replace C := C.below hq (Nat.le_refl _)
      replace Z := Z.below hq (Nat.le_refl _)
      replace T := T.below hq (Nat.le_refl _)
      replace hb := hb.trans (hq.mono hb.size)
      clear hq
      go_wp2_with fail
      refine hK.out _ _ ?_ (fun hHeld2 => ?_)
      · exact h8 g _ C
      clear hK K hHeld
      have hHeld := hHeld2
      clear hHeld2
      try simp only [Act.put, List.setIfInBounds_toArray, List.set_cons_zero, List.set_cons_succ]
      refine wpAnyH_take (i := 10) (v := ?_) rfl (by kernel_rfl) (by kernel_rfl) (by kernel_rfl) (fun _ _ _ h => h) (Or.inl ⟨by rfl, ?_⟩) hHeld ?_
      rotate_left
      · (intro w hSw; (try dsimp only at hSw); go_simp; try with_reducible rfl)
      try simp only [Act.put, List.getElem_toArray, List.getElem_cons_zero, List.getElem_cons_succ, List.setIfInBounds_toArray, List.set_cons_zero, List.set_cons_succ]
      refine wpAnyH_ready (rs := [12]) (by kernel_rfl) (by simp) ?_
      refine AllReadyH.cons rfl (fun K hK => ?_) AllReadyH.nil
      rw [if_pos (by rfl)]
      refine wp_store_row _ _ _ rfl t #[.int .u32 n1, .int .u32 n5, .int .u32 n9, .int .i64 x13] rfl rfl _ _ T (by rw [hi4]; rfl) rfl (by simp [Value.oneCell']) ?_
      replace hb := below_setRow hb (Nat.le_of_lt hzt) #[.int .u32 n1, .int .u32 n5, .int .u32 n9, .int .i64 x13]
      replace C := C.setOther (q := t) (ds := #[.int .u32 n1, .int .u32 n5, .int .u32 n9, .int .i64 x13]) (by omega)
      replace Z := Z.setOther (q := t) (ds := #[.int .u32 n1, .int .u32 n5, .int .u32 n9, .int .i64 x13]) (by omega)
      replace T := T.setRow (cs := #[.int .u32 n1, .int .u32 n5, .int .u32 n9, .int .i64 x13])
      refine hK.out _ _ ?_ (fun hHeld2 => ?_)
      · exact h8 g _ C
      clear hK K hHeld
      have hHeld := hHeld2
      clear hHeld2
      try simp only [Act.put, List.setIfInBounds_toArray]
      try simp only [List.getElem_toArray, List.getElem_cons_zero, List.getElem_cons_succ]
      refine wpAnyH_done (by kernel_rfl) ?_ _
      go_wp2
      go_meet
      exact ⟨t, rfl, T, Z, C, hb, hzt, hgt⟩
  case rest =>
    obtain ⟨t, rfl, T, Zc, Cc, hbc, hzt, hgt⟩ := hcut
    clear hb Z C
    have Z := Zc
    have C := Cc
    have hb := hbc
    clear Zc Cc hbc
    go_upto_region 5 with fail
    have hst : ∀ W, BlkAt W g (cells L) 5 → (convert 22 9 (.slice (some ⟨g, 0, none⟩) 128 128)).run Try.prog W = .ok (.string (strOfNums L)) W := fun W h => (Ints.ofCells h hL (by omega) hB).text (c := 128) Try.underlying22 Try.underlying5 Try.underlying9
    rcases hx with ⟨F, hm⟩ | ⟨hm, M, hM, hMB, kB, hx⟩
    · replace C := C.drew
      replace Z := Z.drew
      replace T := T.drew
      replace hb := hb.drew
      refine wp_region_held_drew (S := (fun W => (W.cell? ⟨t, 0, none⟩ = some (.int .u32 n1) ∧ W.cell? ⟨t, 1, none⟩ = some (.int .u32 n5) ∧ W.cell? ⟨t, 2, none⟩ = some (.int .u32 n9) ∧ W.cell? ⟨t, 3, none⟩ = some (.int .i64 x13)) ∧ (convert 22 9 (.slice (some ⟨g, 0, none⟩) 128 128)).run Try.prog W = .ok (.string (strOfNums L)) W)) (by kernel_rfl) ?_ (fun hHeld => ?_)
      · exact ⟨⟨T.cell 0, T.cell 1, T.cell 2, T.cell 3⟩, hst _ C⟩
      refine wpAnyH_take (i := 0) (v := ?_) rfl (by kernel_rfl) (by kernel_rfl) (by kernel_rfl) (fun _ _ _ h => h) (Or.inl ⟨by rfl, ?_⟩) hHeld ?_
      rotate_left
      · (intro w hSw; (try dsimp only at hSw); go_simp; try with_reducible rfl)
      try simp only [Act.put, List.getElem_toArray, List.getElem_cons_zero, List.setIfInBounds_toArray, List.set_cons_zero, List.set_cons_succ]
      refine wpAnyH_ready (rs := [1]) (by kernel_rfl) (by simp) ?_
      refine AllReadyH.cons rfl (fun K hK => ?_) AllReadyH.nil
      go_simp
      (with_reducible refine (hm _).mono ?_)
      rintro e w5 ⟨rfl, hq⟩
      replace C := C.below hq (Nat.le_refl _)
      replace Z := Z.below hq (Nat.le_refl _)
      replace T := T.below hq (Nat.le_refl _)
      replace hb := hb.trans (hq.mono hb.size)
      clear hq
      go_wp2_with fail
      refine hK.out _ _ ?_ (fun hHeld2 => ?_)
      · exact ⟨⟨T.cell 0, T.cell 1, T.cell 2, T.cell 3⟩, hst _ C⟩
      clear hK K hHeld
      have hHeld := hHeld2
      clear hHeld2
      try simp only [Act.put, List.setIfInBounds_toArray, List.set_cons_zero, List.set_cons_succ]
      refine wpAnyH_take (i := 2) (v := ?_) rfl (by kernel_rfl) (by kernel_rfl) (by kernel_rfl) (fun _ _ _ h => h) (Or.inl ⟨by rfl, ?_⟩) hHeld ?_
      rotate_left
      · (intro w hSw; (try dsimp only at hSw); go_simp; try with_reducible rfl)
      try simp only [Act.put, List.getElem_toArray, List.getElem_cons_zero, List.getElem_cons_succ, List.setIfInBounds_toArray, List.set_cons_zero, List.set_cons_succ]
      refine wpAnyH_take (i := 3) (v := ?_) rfl (by kernel_rfl) (by kernel_rfl) (by kernel_rfl) (fun _ _ _ h => h) (Or.inl ⟨by rfl, ?_⟩) hHeld ?_
      rotate_left
      · (intro w hSw; (try dsimp only at hSw); go_simp; try with_reducible rfl)
      try simp only [Act.put, List.getElem_toArray, List.getElem_cons_zero, List.getElem_cons_succ, List.setIfInBounds_toArray, List.set_cons_zero, List.set_cons_succ]
      refine wpAnyH_take (i := 4) (v := undef) rfl (by kernel_rfl) (by kernel_rfl) (by kernel_rfl) (fun _ _ _ h => h) (Or.inr ⟨by rfl, rfl⟩) hHeld ?_
      try simp only [Act.put, List.getElem_toArray, List.getElem_cons_zero, List.getElem_cons_succ, List.setIfInBounds_toArray, List.set_cons_zero, List.set_cons_succ]
      refine wpAnyH_take (i := 5) (v := undef) rfl (by kernel_rfl) (by kernel_rfl) (by kernel_rfl) (fun _ _ _ h => h) (Or.inr ⟨by rfl, rfl⟩) hHeld ?_
      try simp only [Act.put, List.getElem_toArray, List.getElem_cons_zero, List.getElem_cons_succ, List.setIfInBounds_toArray, List.set_cons_zero, List.set_cons_succ]
      refine wpAnyH_take (i := 6) (v := undef) rfl (by kernel_rfl) (by kernel_rfl) (by kernel_rfl) (fun _ _ _ h => h) (Or.inr ⟨by rfl, rfl⟩) hHeld ?_
      try simp only [Act.put, List.getElem_toArray, List.getElem_cons_zero, List.getElem_cons_succ, List.setIfInBounds_toArray, List.set_cons_zero, List.set_cons_succ]
      refine wpAnyH_take (i := 7) (v := undef) rfl (by kernel_rfl) (by kernel_rfl) (by kernel_rfl) (fun _ _ _ h => h) (Or.inr ⟨by rfl, rfl⟩) hHeld ?_
      try simp only [Act.put, List.getElem_toArray, List.getElem_cons_zero, List.getElem_cons_succ, List.setIfInBounds_toArray, List.set_cons_zero, List.set_cons_succ]
      refine wpAnyH_take (i := 8) (v := undef) rfl (by kernel_rfl) (by kernel_rfl) (by kernel_rfl) (fun _ _ _ h => h) (Or.inr ⟨by rfl, rfl⟩) hHeld ?_
      try simp only [Act.put, List.getElem_toArray, List.getElem_cons_zero, List.getElem_cons_succ, List.setIfInBounds_toArray, List.set_cons_zero, List.set_cons_succ]
      refine wpAnyH_take (i := 9) (v := undef) rfl (by kernel_rfl) (by kernel_rfl) (by kernel_rfl) (fun _ _ _ h => h) (Or.inr ⟨by rfl, rfl⟩) hHeld ?_
      try simp only [Act.put, List.getElem_toArray, List.getElem_cons_zero, List.getElem_cons_succ, List.setIfInBounds_toArray, List.set_cons_zero, List.set_cons_succ]
      refine wpAnyH_take (i := 10) (v := ?_) rfl (by kernel_rfl) (by kernel_rfl) (by kernel_rfl) (fun _ _ _ h => h) (Or.inl ⟨by rfl, ?_⟩) hHeld ?_
      rotate_left
      · (intro w hSw; (try dsimp only at hSw); go_simp; try with_reducible rfl)
      try simp only [Act.put, List.getElem_toArray, List.getElem_cons_zero, List.getElem_cons_succ, List.setIfInBounds_toArray, List.set_cons_zero, List.set_cons_succ]
      refine wpAnyH_done (by kernel_rfl) ?_ _
      go_wp2_with (first
        | refine wpList_load_row rfl 28 _ rfl t rfl _ _ _ _ T Try.underlying28 rfl (by rw [hi4]; rfl) ?_
        | refine wpList_store_row rfl 28 _ _ rfl w.heap.size #[.int .u32 0, .int .u32 0, .int .u32 0, .int .i64 0] rfl rfl _ _ Z (by rw [hi4]; rfl) rfl (by simp [Value.oneCell']) ?_)
      have hg2 := setRow_heap _ w.heap.size _ #[.int .u32 0, .int .u32 0, .int .u32 0, .int .i64 0] 28 (0, 0) Z
      exact bodyPost_ret (v := .tuple #[.agg #[.int .u32 0, .int .u32 0, .int .u32 0, .int .i64 0], .int .i64 90]) (results_cell_tmp (p := 2) (q := 3) (ty := 28) rfl _ _ w.heap.size _ #[.int .u32 0, .int .u32 0, .int .u32 0, .int .i64 0] _ _ rfl hg2 Try.underlying28 (by rw [hi4]; rfl)) rfl ⟨by rw [F.out.1, F.out.2], below_setRow hb (Nat.le_refl _) _⟩
    · have hstM : ∀ (g : Nat) (W : World), W.heap[g]? = some (.cells (cells M) 5 (0, 0)) → (convert 22 9 (.slice (some ⟨g, 0, none⟩) 128 128)).run Try.prog W = .ok (.string (strOfNums M)) W := fun g W h => (Ints.ofCells h hM (by omega) hMB).text (c := 128) Try.underlying22 Try.underlying5 Try.underlying9
      have hse := str_eq hMB hB
      rcases hx with ⟨hne, F⟩ | ⟨hne, F⟩
      all_goals
        rw [hne] at hse
      · replace C := C.drew
        replace Z := Z.drew
        replace T := T.drew
        replace hb := hb.drew
        refine wp_region_held_drew (S := (fun W => (W.cell? ⟨t, 0, none⟩ = some (.int .u32 n1) ∧ W.cell? ⟨t, 1, none⟩ = some (.int .u32 n5) ∧ W.cell? ⟨t, 2, none⟩ = some (.int .u32 n9) ∧ W.cell? ⟨t, 3, none⟩ = some (.int .i64 x13)) ∧ (convert 22 9 (.slice (some ⟨g, 0, none⟩) 128 128)).run Try.prog W = .ok (.string (strOfNums L)) W)) (by kernel_rfl) ?_ (fun hHeld => ?_)
        · exact ⟨⟨T.cell 0, T.cell 1, T.cell 2, T.cell 3⟩, hst _ C⟩
        refine wpAnyH_take (i := 0) (v := ?_) rfl (by kernel_rfl) (by kernel_rfl) (by kernel_rfl) (fun _ _ _ h => h) (Or.inl ⟨by rfl, ?_⟩) hHeld ?_
        rotate_left
        · (intro w hSw; (try dsimp only at hSw); go_simp; try with_reducible rfl)
        try simp only [Act.put, List.getElem_toArray, List.getElem_cons_zero, List.setIfInBounds_toArray, List.set_cons_zero, List.set_cons_succ]
        refine wpAnyH_ready (rs := [1]) (by kernel_rfl) (by simp) ?_
        refine AllReadyH.cons rfl (fun K hK => ?_) AllReadyH.nil
        go_simp
        (with_reducible refine (hm _).mono ?_)
        rintro e w5 ⟨rfl, hq⟩
        replace C := C.below hq (Nat.le_refl _)
        replace Z := Z.below hq (Nat.le_refl _)
        replace T := T.below hq (Nat.le_refl _)
        replace hb := hb.trans (hq.mono hb.size)
        clear hq
        go_wp2_with fail
        refine hK.out _ _ ?_ (fun hHeld2 => ?_)
        · exact ⟨⟨T.cell 0, T.cell 1, T.cell 2, T.cell 3⟩, hst _ C⟩
        clear hK K hHeld
        have hHeld := hHeld2
        clear hHeld2
        try simp only [Act.put, List.setIfInBounds_toArray, List.set_cons_zero, List.set_cons_succ]
        refine wpAnyH_take (i := 2) (v := ?_) rfl (by kernel_rfl) (by kernel_rfl) (by kernel_rfl) (fun _ _ _ h => h) (Or.inl ⟨by rfl, ?_⟩) hHeld ?_
        rotate_left
        · (intro w hSw; (try dsimp only at hSw); go_simp; try with_reducible rfl)
        try simp only [Act.put, List.getElem_toArray, List.getElem_cons_zero, List.getElem_cons_succ, List.setIfInBounds_toArray, List.set_cons_zero, List.set_cons_succ]
        refine wpAnyH_take (i := 3) (v := ?_) rfl (by kernel_rfl) (by kernel_rfl) (by kernel_rfl) (fun _ _ _ h => h) (Or.inl ⟨by rfl, ?_⟩) hHeld ?_
        rotate_left
        · (intro w hSw; (try dsimp only at hSw); go_simp; try with_reducible rfl)
        try simp only [Act.put, List.getElem_toArray, List.getElem_cons_zero, List.getElem_cons_succ, List.setIfInBounds_toArray, List.set_cons_zero, List.set_cons_succ]
        refine wpAnyH_take (i := 4) (v := ?_) rfl (by kernel_rfl) (by kernel_rfl) (by kernel_rfl) (fun _ _ _ h => h) (Or.inl ⟨by rfl, ?_⟩) hHeld ?_
        rotate_left
        · (intro w hSw; (try dsimp only at hSw); go_simp; try with_reducible rfl)
        try simp only [Act.put, List.getElem_toArray, List.getElem_cons_zero, List.getElem_cons_succ, List.setIfInBounds_toArray, List.set_cons_zero, List.set_cons_succ]
        refine wpAnyH_take (i := 7) (v := ?_) rfl (by kernel_rfl) (by kernel_rfl) (by kernel_rfl) (fun _ _ _ h => h) (Or.inl ⟨by rfl, ?_⟩) hHeld ?_
        rotate_left
        · (intro w hSw; (try dsimp only at hSw); go_simp; try with_reducible rfl)
        try simp only [Act.put, List.getElem_toArray, List.getElem_cons_zero, List.getElem_cons_succ, List.setIfInBounds_toArray, List.set_cons_zero, List.set_cons_succ]
        refine wpAnyH_take (i := 8) (v := ?_) rfl (by kernel_rfl) (by kernel_rfl) (by kernel_rfl) (fun _ _ _ h => h) (Or.inl ⟨by rfl, ?_⟩) hHeld ?_
        rotate_left
        · (intro w hSw; (try dsimp only at hSw); go_simp; try with_reducible rfl)
        try simp only [Act.put, List.getElem_toArray, List.getElem_cons_zero, List.getElem_cons_succ, List.setIfInBounds_toArray, List.set_cons_zero, List.set_cons_succ]
        refine wpAnyH_ready (rs := [5]) (by kernel_rfl) (by simp) ?_
        refine AllReadyH.cons rfl (fun K hK => ?_) AllReadyH.nil
        go_simp
        (with_reducible refine (kB _).mono ?_)
        rintro e w6 ⟨g6, hg6, rfl, hc6, hq⟩
        have ht6 := hstM g6 w6 hc6
        replace C := C.below hq (Nat.le_refl _)
        replace Z := Z.below hq (Nat.le_refl _)
        replace T := T.below hq (Nat.le_refl _)
        replace hb := hb.trans (hq.mono hb.size)
        clear hq
        go_wp2_with fail
        refine hK.out _ _ ?_ (fun hHeld2 => ?_)
        · exact ⟨⟨T.cell 0, T.cell 1, T.cell 2, T.cell 3⟩, hst _ C⟩
        clear hK K hHeld
        have hHeld := hHeld2
        clear hHeld2
        try simp only [Act.put, List.setIfInBounds_toArray, List.set_cons_zero, List.set_cons_succ]
        refine wpAnyH_ready (rs := [6]) (by kernel_rfl) (by simp) ?_
        refine AllReadyH.cons rfl (fun K hK => ?_) AllReadyH.nil
        go_simp
        refine hK.out _ _ ?_ (fun hHeld2 => ?_)
        · exact ⟨⟨T.cell 0, T.cell 1, T.cell 2, T.cell 3⟩, hst _ C⟩
        clear hK K hHeld
        have hHeld := hHeld2
        clear hHeld2
        try simp only [Act.put, List.setIfInBounds_toArray, List.set_cons_zero, List.set_cons_succ]
        try simp only [Act.put, List.getElem_toArray, List.getElem_cons_zero, List.getElem_cons_succ]
        refine wpAnyH_take (i := 9) (v := ?_) rfl (by kernel_rfl) (by kernel_rfl) (by kernel_rfl) (fun _ _ _ h => h) (Or.inl ⟨by rfl, ?_⟩) hHeld ?_
        rotate_left
        · (intro w hSw; (try dsimp only at hSw); go_simp; try with_reducible rfl)
        try simp only [Act.put, List.getElem_toArray, List.getElem_cons_zero, List.getElem_cons_succ, List.setIfInBounds_toArray, List.set_cons_zero, List.set_cons_succ]
        refine wpAnyH_take (i := 10) (v := ?_) rfl (by kernel_rfl) (by kernel_rfl) (by kernel_rfl) (fun _ _ _ h => h) (Or.inl ⟨by rfl, ?_⟩) hHeld ?_
        rotate_left
        · (intro w hSw; (try dsimp only at hSw); go_simp; try with_reducible rfl)
        try simp only [Act.put, List.getElem_toArray, List.getElem_cons_zero, List.getElem_cons_succ, List.setIfInBounds_toArray, List.set_cons_zero, List.set_cons_succ]
        refine wpAnyH_done (by kernel_rfl) ?_ _
        go_wp2_with (first
          | refine wpList_load_row rfl 28 _ rfl t rfl _ _ _ _ T Try.underlying28 rfl (by rw [hi4]; rfl) ?_
          | refine wpList_store_row rfl 28 _ _ rfl w.heap.size #[.int .u32 0, .int .u32 0, .int .u32 0, .int .i64 0] rfl rfl _ _ Z (by rw [hi4]; rfl) rfl (by simp [Value.oneCell']) ?_)
        have hg2 := setRow_heap _ w.heap.size _ #[.int .u32 0, .int .u32 0, .int .u32 0, .int .i64 0] 28 (0, 0) Z
        exact bodyPost_ret (v := .tuple #[.agg #[.int .u32 0, .int .u32 0, .int .u32 0, .int .i64 0], .int .i64 90]) (results_cell_tmp (p := 2) (q := 3) (ty := 28) rfl _ _ w.heap.size _ #[.int .u32 0, .int .u32 0, .int .u32 0, .int .i64 0] _ _ rfl hg2 Try.underlying28 (by rw [hi4]; rfl)) rfl ⟨by rw [F.out.1, F.out.2], below_setRow hb (Nat.le_refl _) _⟩
      · replace C := C.drew
        replace Z := Z.drew
        replace T := T.drew
        replace hb := hb.drew
        refine wp_region_held_drew (S := (fun W => (W.cell? ⟨t, 0, none⟩ = some (.int .u32 n1) ∧ W.cell? ⟨t, 1, none⟩ = some (.int .u32 n5) ∧ W.cell? ⟨t, 2, none⟩ = some (.int .u32 n9) ∧ W.cell? ⟨t, 3, none⟩ = some (.int .i64 x13)) ∧ (convert 22 9 (.slice (some ⟨g, 0, none⟩) 128 128)).run Try.prog W = .ok (.string (strOfNums L)) W)) (by kernel_rfl) ?_ (fun hHeld => ?_)
        · exact ⟨⟨T.cell 0, T.cell 1, T.cell 2, T.cell 3⟩, hst _ C⟩
        refine wpAnyH_take (i := 0) (v := ?_) rfl (by kernel_rfl) (by kernel_rfl) (by kernel_rfl) (fun _ _ _ h => h) (Or.inl ⟨by rfl, ?_⟩) hHeld ?_
        rotate_left
        · (intro w hSw; (try dsimp only at hSw); go_simp; try with_reducible rfl)
        try simp only [Act.put, List.getElem_toArray, List.getElem_cons_zero, List.setIfInBounds_toArray, List.set_cons_zero, List.set_cons_succ]
        refine wpAnyH_ready (rs := [1]) (by kernel_rfl) (by simp) ?_
        refine AllReadyH.cons rfl (fun K hK => ?_) AllReadyH.nil
        go_simp
        (with_reducible refine (hm _).mono ?_)
        rintro e w5 ⟨rfl, hq⟩
        replace C := C.below hq (Nat.le_refl _)
        replace Z := Z.below hq (Nat.le_refl _)
        replace T := T.below hq (Nat.le_refl _)
        replace hb := hb.trans (hq.mono hb.size)
        clear hq
        go_wp2_with fail
        refine hK.out _ _ ?_ (fun hHeld2 => ?_)
        · exact ⟨⟨T.cell 0, T.cell 1, T.cell 2, T.cell 3⟩, hst _ C⟩
        clear hK K hHeld
        have hHeld := hHeld2
        clear hHeld2
        try simp only [Act.put, List.setIfInBounds_toArray, List.set_cons_zero, List.set_cons_succ]
        refine wpAnyH_take (i := 2) (v := ?_) rfl (by kernel_rfl) (by kernel_rfl) (by kernel_rfl) (fun _ _ _ h => h) (Or.inl ⟨by rfl, ?_⟩) hHeld ?_
        rotate_left
        · (intro w hSw; (try dsimp only at hSw); go_simp; try with_reducible rfl)
        try simp only [Act.put, List.getElem_toArray, List.getElem_cons_zero, List.getElem_cons_succ, List.setIfInBounds_toArray, List.set_cons_zero, List.set_cons_succ]
        refine wpAnyH_take (i := 3) (v := ?_) rfl (by kernel_rfl) (by kernel_rfl) (by kernel_rfl) (fun _ _ _ h => h) (Or.inl ⟨by rfl, ?_⟩) hHeld ?_
        rotate_left
        · (intro w hSw; (try dsimp only at hSw); go_simp; try with_reducible rfl)
        try simp only [Act.put, List.getElem_toArray, List.getElem_cons_zero, List.getElem_cons_succ, List.setIfInBounds_toArray, List.set_cons_zero, List.set_cons_succ]
        refine wpAnyH_take (i := 4) (v := ?_) rfl (by kernel_rfl) (by kernel_rfl) (by kernel_rfl) (fun _ _ _ h => h) (Or.inl ⟨by rfl, ?_⟩) hHeld ?_
        rotate_left
        · (intro w hSw; (try dsimp only at hSw); go_simp; try with_reducible rfl)
        try simp only [Act.put, List.getElem_toArray, List.getElem_cons_zero, List.getElem_cons_succ, List.setIfInBounds_toArray, List.set_cons_zero, List.set_cons_succ]
        refine wpAnyH_take (i := 7) (v := ?_) rfl (by kernel_rfl) (by kernel_rfl) (by kernel_rfl) (fun _ _ _ h => h) (Or.inl ⟨by rfl, ?_⟩) hHeld ?_
        rotate_left
        · (intro w hSw; (try dsimp only at hSw); go_simp; try with_reducible rfl)
        try simp only [Act.put, List.getElem_toArray, List.getElem_cons_zero, List.getElem_cons_succ, List.setIfInBounds_toArray, List.set_cons_zero, List.set_cons_succ]
        refine wpAnyH_take (i := 8) (v := ?_) rfl (by kernel_rfl) (by kernel_rfl) (by kernel_rfl) (fun _ _ _ h => h) (Or.inl ⟨by rfl, ?_⟩) hHeld ?_
        rotate_left
        · (intro w hSw; (try dsimp only at hSw); go_simp; try with_reducible rfl)
        try simp only [Act.put, List.getElem_toArray, List.getElem_cons_zero, List.getElem_cons_succ, List.setIfInBounds_toArray, List.set_cons_zero, List.set_cons_succ]
        refine wpAnyH_ready (rs := [5]) (by kernel_rfl) (by simp) ?_
        refine AllReadyH.cons rfl (fun K hK => ?_) AllReadyH.nil
        go_simp
        (with_reducible refine (kB _).mono ?_)
        rintro e w6 ⟨g6, hg6, rfl, hc6, hq⟩
        have ht6 := hstM g6 w6 hc6
        replace C := C.below hq (Nat.le_refl _)
        replace Z := Z.below hq (Nat.le_refl _)
        replace T := T.below hq (Nat.le_refl _)
        replace hb := hb.trans (hq.mono hb.size)
        clear hq
        go_wp2_with fail
        refine hK.out _ _ ?_ (fun hHeld2 => ?_)
        · exact ⟨⟨T.cell 0, T.cell 1, T.cell 2, T.cell 3⟩, hst _ C⟩
        clear hK K hHeld
        have hHeld := hHeld2
        clear hHeld2
        try simp only [Act.put, List.setIfInBounds_toArray, List.set_cons_zero, List.set_cons_succ]
        refine wpAnyH_ready (rs := [6]) (by kernel_rfl) (by simp) ?_
        refine AllReadyH.cons rfl (fun K hK => ?_) AllReadyH.nil
        go_simp
        refine hK.out _ _ ?_ (fun hHeld2 => ?_)
        · exact ⟨⟨T.cell 0, T.cell 1, T.cell 2, T.cell 3⟩, hst _ C⟩
        clear hK K hHeld
        have hHeld := hHeld2
        clear hHeld2
        try simp only [Act.put, List.setIfInBounds_toArray, List.set_cons_zero, List.set_cons_succ]
        try simp only [Act.put, List.getElem_toArray, List.getElem_cons_zero, List.getElem_cons_succ]
        refine wpAnyH_take (i := 9) (v := ?_) rfl (by kernel_rfl) (by kernel_rfl) (by kernel_rfl) (fun _ _ _ h => h) (Or.inl ⟨by rfl, ?_⟩) hHeld ?_
        rotate_left
        · (intro w hSw; (try dsimp only at hSw); go_simp; try with_reducible rfl)
        try simp only [Act.put, List.getElem_toArray, List.getElem_cons_zero, List.getElem_cons_succ, List.setIfInBounds_toArray, List.set_cons_zero, List.set_cons_succ]
        refine wpAnyH_take (i := 10) (v := ?_) rfl (by kernel_rfl) (by kernel_rfl) (by kernel_rfl) (fun _ _ _ h => h) (Or.inl ⟨by rfl, ?_⟩) hHeld ?_
        rotate_left
        · (intro w hSw; (try dsimp only at hSw); go_simp; try with_reducible rfl)
        try simp only [Act.put, List.getElem_toArray, List.getElem_cons_zero, List.getElem_cons_succ, List.setIfInBounds_toArray, List.set_cons_zero, List.set_cons_succ]
        refine wpAnyH_done (by kernel_rfl) ?_ _
        go_wp2_with (first
          | refine wpList_load_row rfl 28 _ rfl t rfl _ _ _ _ T Try.underlying28 rfl (by rw [hi4]; rfl) ?_
          | refine wpList_store_row rfl 28 _ _ rfl w.heap.size #[.int .u32 n1, .int .u32 n5, .int .u32 n9, .int .i64 x13] rfl rfl _ _ Z (by rw [hi4]; rfl) rfl (by simp [Value.oneCell']) ?_)
        have hg2 := setRow_heap _ w.heap.size _ #[.int .u32 n1, .int .u32 n5, .int .u32 n9, .int .i64 x13] 28 (0, 0) Z
        exact bodyPost_ret (v := .tuple #[.agg #[.int .u32 n1, .int .u32 n5, .int .u32 n9, .int .i64 x13], .int .i64 0]) (results_cell_tmp (p := 2) (q := 3) (ty := 28) rfl _ _ w.heap.size _ #[.int .u32 n1, .int .u32 n5, .int .u32 n9, .int .i64 x13] _ _ rfl hg2 Try.underlying28 (by rw [hi4]; rfl)) rfl ⟨by rw [F.out.1, F.out.2], below_setRow hb (Nat.le_refl _) _⟩

theorem takeS_one (zs : List Int) (q : Nat) : takeN zs q 1 = zs.getD q 0 := by
  show 0 + (pad zs).getD (q + 0) 0 * 256 ^ 0 = _
  rw [pad_getD, pow_256.1, Nat.add_zero]; omega
theorem supReadR_text (a0 : Option Addr) (n0 c0 : Nat) (hm : n0 ≤ 9223372036854775807) (h0 : n0 ≠ 0) (h1 : n0 ≠ 128) (w : World) : Calls Try.prog 15 #[.slice a0 n0 c0] w fun e w' => e = .returned (.tuple #[supV zeroS, .int .i64 3]) ∧ Below w.heap.size w w' :=
  read10_text a0 n0 c0 hm h0 h1 w
theorem supReadR (a0 : Option Addr) (n0 c0 : Nat) (zs : List Int) (w : World) (hI : Ints .u8 w a0 n0 zs) (hn : n0 = 0 ∨ n0 = 128) : Calls Try.prog 15 #[.slice a0 n0 c0] w fun e w' => e = .returned (.tuple #[supV (readS (pad zs)), .int .i64 (readES (pad zs))]) ∧ Below w.heap.size w w' := by
  have hl := hI.len
  have hL : (pad zs).length = 128 := pad_len (by omega)
  have hB := pad_bytes (bytes_of hI)
  have hw := tookS_wide hB
  have g := fun i => getD_in hB i
  have cells_is : supA (tookS (pad zs)) = #[.int .u32 (takeN (pad zs) 1 4), .int .u32 (takeN (pad zs) 5 4), .int .u32 (takeN (pad zs) 9 4), .int .i64 ((pad zs).getD 13 0)] := by
    unfold supA tookS
    simp only [takeS_one]
  refine read10_gen a0 n0 c0 zs (pad zs) hL hB w hI hn (takeN (pad zs) 1 4) (takeN (pad zs) 5 4) (takeN (pad zs) 9 4) ((pad zs).getD 13 0)
    (fun W h => rwhole_calls a0 n0 c0 zs W h (by omega)) ?_ ?_ ?_ ?_ (g 13).1 (g 13).2 (supA (readS (pad zs))) (readES (pad zs)) ?_
  · intro g W h
    exact (h.cell 13).trans (cells_getD (by rw [hL]; omega))
  · intro g W h
    exact number_calls _ _ _ (pad zs) 1 W (Ints.ofCells h hL (by omega) hB) (by omega) (by omega)
  · intro g W h
    exact number_calls _ _ _ (pad zs) 5 W (Ints.ofCells h hL (by omega) hB) (by omega) (by omega)
  · intro g W h
    exact number_calls _ _ _ (pad zs) 9 W (Ints.ofCells h hL (by omega) hB) (by omega) (by omega)
  · rw [← cells_is]
    by_cases hM : MayS (tookS (pad zs))
    · refine .inr ⟨fun W => by have := supMay (tookS (pad zs)) W; rw [decide_eq_true hM] at this; exact this, blockS (tookS (pad zs)), blockS_len _, blockS_bytes _, fun W => supBlock hw hM W, ?_⟩
      by_cases hE : blockS (tookS (pad zs)) = pad zs
      · refine .inr ⟨decide_eq_true hE, Lib.hid ?_⟩
        have : ReadsS (pad zs) := ⟨hM, hE⟩
        unfold readS readES
        rw [if_pos this, if_pos this]
        exact ⟨rfl, rfl⟩
      · refine .inl ⟨decide_eq_false hE, Lib.hid ?_⟩
        have : ¬ ReadsS (pad zs) := fun q => hE q.2
        unfold readS readES
        rw [if_neg this, if_neg this]
        exact ⟨rfl, rfl⟩
    · refine .inl ⟨Lib.hid ?_, fun W => by have := supMay (tookS (pad zs)) W; rw [decide_eq_false hM] at this; exact this⟩
      have : ¬ ReadsS (pad zs) := fun q => hM q.1
      unfold readS readES
      rw [if_neg this, if_neg this]
      exact ⟨rfl, rfl⟩
end Go.Proofs.Ytcngonedcnddlaa
