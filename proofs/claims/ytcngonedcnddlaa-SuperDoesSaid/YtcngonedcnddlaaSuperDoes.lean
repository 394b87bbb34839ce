/- freeboardlaw10.SuperDoes: for every input the law answers true, and what is handed in reads as it did. Conditions: none. -/
import Derived.Test.YtcngonedcnddlaaSuperAlive
import Derived.Test.YtcngonedcnddlaaSuperRefC
namespace Go.Proofs.Ytcngonedcnddlaa
open Go.ChangeShapes Go.WideShapes Go.ChangeAt Go.RowKit PolyM PackM SealM LabelM SuperM
set_option linter.unusedVariables false
set_option maxRecDepth 100000 in
set_option maxHeartbeats 4000000 in
theorem does_gen (id age seq tail : Int) (r0 r1 r2 r3 : Int) (a : Option Addr) (n c n1 : Nat) (zs L : List Int) (E E2 : Int) (w : World) (hI : Ints .u8 w a n zs) (hn : n ≤ 1000) (kw : ∀ W, Calls Try.prog 9 #[.agg #[.int .u32 id, .int .u32 age, .int .u32 seq, .int .i64 tail]] W fun e w' => ∃ A c, e = .returned (.tuple #[.slice A n1 c, .int .i64 E]) ∧ n1 ≤ c ∧ Ints .u8 w' A n1 L ∧ Below W.heap.size W w') (kx : ∀ W, Calls Try.prog 14 #[.agg #[.int .u32 id, .int .u32 age, .int .u32 seq, .int .i64 tail]] W fun e w' => ∃ A c, e = .returned (.tuple #[.slice A n1 c, .int .i64 E]) ∧ n1 ≤ c ∧ Ints .u8 w' A n1 L ∧ Below W.heap.size W w') (kr : ∀ (A : Option Addr) (C : Nat) (W : World), Ints .u8 W A n zs → Calls Try.prog 11 #[.slice A n C] W fun e w' => e = .returned (.tuple #[.agg #[.int .u32 r0, .int .u32 r1, .int .u32 r2, .int .i64 r3], .int .i64 E2]) ∧ Below W.heap.size W w') (kt : ∀ (A : Option Addr) (C : Nat) (W : World), Ints .u8 W A n zs → Calls Try.prog 15 #[.slice A n C] W fun e w' => e = .returned (.tuple #[.agg #[.int .u32 r0, .int .u32 r1, .int .u32 r2, .int .i64 r3], .int .i64 E2]) ∧ Below W.heap.size W w') (kc : ∀ W, Calls Try.prog 13 #[.agg #[.int .u32 id, .int .u32 age, .int .u32 seq, .int .i64 tail]] W fun e w' => e = .returned (.int .i64 E) ∧ Below W.heap.size W w') (kd : ∀ W, Calls Try.prog 16 #[.agg #[.int .u32 id, .int .u32 age, .int .u32 seq, .int .i64 tail]] W fun e w' => e = .returned (.int .i64 E) ∧ Below W.heap.size W w')
    (he : ∀ W, (binOp .eql 28 (.agg #[.int .u32 r0, .int .u32 r1, .int .u32 r2, .int .i64 r3]) (.agg #[.int .u32 r0, .int .u32 r1, .int .u32 r2, .int .i64 r3])).run Try.prog W = .ok (.bool true) W) : Calls Try.prog 4 #[.agg #[.int .u32 id, .int .u32 age, .int .u32 seq, .int .i64 tail], .slice a n c] w fun e w' => e = .returned (.bool true) ∧ Below w.heap.size w w' := by
  obtain ⟨i0, hi0, hz0, hz1, hz2⟩ := u8_inf
  have B := BlkAt.new w #[.int .u32 id, .int .u32 age, .int .u32 seq, .int .i64 tail] 28
  have hb : Below w.heap.size w (w.alloc (.cells #[.int .u32 id, .int .u32 age, .int .u32 seq, .int .i64 tail] 28 (0, 0))) := (Below.refl _ _).alloc (Nat.le_refl _) _
  have hi4 := (zero_of_info super_size).2
  have hlen := hI.len
  have hbx := bytes_of hI
  have hw63 := hI.wf
  have I := hI.below hb (Nat.le_refl _)
  have ra := I.toRow
  clear hI
  have hs1 : w.heap.size + 1 ≤ (w.alloc (.cells #[.int .u32 id, .int .u32 age, .int .u32 seq, .int .i64 tail] 28 (0, 0))).heap.size := by simp
  go_enter Try.func4, Try.ntmps4
  go_upto_region 4 with (at_builtin; refine wpList_append_row _ rfl (.const (.slice none 0 0)) (.tmp 17) _ rfl (w.heap.size + 1) 5 i0 _ 1 1 Try.underlying22 hi0 hz0 hz1 hz2 rfl (by omega) (.slice none 0 0) 0 [] rfl (World.ownsRow_nil _ _ _ _) a n c _ rfl ra (by simp [Value.oneCell']) (by simp only [maxLen]; omega) (by omega) hs1 ?_; intro v2 w2 own2 hg2 _; have hb2 := (Below.refl _ _).grown hg2 (Nat.le_refl _) (by simp [Value.ownBlock]); replace hb := hb.trans (hb2.mono hb.size); replace B := B.below hb2 (Nat.le_refl _); replace I := I.below hb2 (Nat.le_refl _); clear hb2; obtain ⟨A3, C3, rfl, hA2, ro2, _⟩ := own_form own2; have J : Ints .u8 w2 A3 (0 + n) zs := Ints.ofRow (by simpa using ro2) (by omega) hw63)
  rw [Nat.zero_add] at J
  clear ra ro2 own2 hg2 hA2 hs1
  go_upto_region 6 with (first
    | refine wpList_load_rowG (by rfl) 28 _ rfl w.heap.size rfl _ _ _ _ B Try.underlying28 (by rw [hi4]; rfl) ?_
    | (go_at_call 9; (with_reducible refine (kw _).mono ?_); rintro e w3 ⟨A1, c1, rfl, hc1, I1, hb3⟩; replace hb := hb.trans (hb3.mono hb.size); replace B := B.below hb3 (Nat.le_refl _); replace I := I.below hb3 (Nat.le_refl _); replace J := J.below hb3 (Nat.le_refl _); clear hb3)
    | (go_at_call 14; (with_reducible refine (kx _).mono ?_); rintro e w4 ⟨A2, c2, rfl, hc2, I2, hb4⟩; replace hb := hb.trans (hb4.mono hb.size); replace B := B.below hb4 (Nat.le_refl _); replace I := I.below hb4 (Nat.le_refl _); replace J := J.below hb4 (Nat.le_refl _); replace I1 := I1.below hb4 (Nat.le_refl _); clear hb4))
  go_upto_region 7 with (first
    | (go_at_call 11; (with_reducible refine (kr _ _ _ J).mono ?_); rintro e w5 ⟨rfl, hb5⟩; replace hb := hb.trans (hb5.mono hb.size); replace B := B.below hb5 (Nat.le_refl _); replace I := I.below hb5 (Nat.le_refl _); replace J := J.below hb5 (Nat.le_refl _); replace I1 := I1.below hb5 (Nat.le_refl _); replace I2 := I2.below hb5 (Nat.le_refl _); clear hb5)
    | refine wpList_store_row rfl 28 _ _ rfl w5.heap.size #[.int .u32 r0, .int .u32 r1, .int .u32 r2, .int .i64 r3] rfl rfl _ _ (BlkAt.new w5 _ _) (by rw [hi4]; rfl) rfl (by simp [Value.oneCell']) ?_)
  have X : BlkAt ((w5.alloc (.cells #[.int .u32 0, .int .u32 0, .int .u32 0, .int .i64 0] 28)).setRow w5.heap.size #[.int .u32 r0, .int .u32 r1, .int .u32 r2, .int .i64 r3]) w5.heap.size #[.int .u32 r0, .int .u32 r1, .int .u32 r2, .int .i64 r3] 28 := setRow_heap (w5.alloc (.cells #[.int .u32 0, .int .u32 0, .int .u32 0, .int .i64 0] 28)) w5.heap.size _ #[.int .u32 r0, .int .u32 r1, .int .u32 r2, .int .i64 r3] 28 (0, 0) (BlkAt.new w5 _ _)
  have hq : Below w5.heap.size w5 ((w5.alloc (.cells #[.int .u32 0, .int .u32 0, .int .u32 0, .int .i64 0] 28)).setRow w5.heap.size #[.int .u32 r0, .int .u32 r1, .int .u32 r2, .int .i64 r3]) := below_setRow ((Below.refl _ _).alloc (Nat.le_refl _) _) (Nat.le_refl _) _
  replace hb := hb.trans (hq.mono hb.size)
  replace B := B.below hq (Nat.le_refl _)
  replace I := I.below hq (Nat.le_refl _)
  replace J := J.below hq (Nat.le_refl _)
  replace I1 := I1.below hq (Nat.le_refl _)
  replace I2 := I2.below hq (Nat.le_refl _)
  clear hq
  generalize World.setRow _ _ _ = v5 at *
  generalize w5.heap.size = t at *
  go_upto_region 8 with (first
    | (go_at_call 15; (with_reducible refine (kt _ _ _ I).mono ?_); rintro e w6 ⟨rfl, hb6⟩; replace hb := hb.trans (hb6.mono hb.size); replace B := B.below hb6 (Nat.le_refl _); replace I := I.below hb6 (Nat.le_refl _); replace J := J.below hb6 (Nat.le_refl _); replace I1 := I1.below hb6 (Nat.le_refl _); replace I2 := I2.below hb6 (Nat.le_refl _); replace X := X.below hb6 (Nat.le_refl _); clear hb6)
    | refine wpList_store_row rfl 28 _ _ rfl w6.heap.size #[.int .u32 r0, .int .u32 r1, .int .u32 r2, .int .i64 r3] rfl rfl _ _ (BlkAt.new w6 _ _) (by rw [hi4]; rfl) rfl (by simp [Value.oneCell']) ?_)
  have Y : BlkAt ((w6.alloc (.cells #[.int .u32 0, .int .u32 0, .int .u32 0, .int .i64 0] 28)).setRow w6.heap.size #[.int .u32 r0, .int .u32 r1, .int .u32 r2, .int .i64 r3]) w6.heap.size #[.int .u32 r0, .int .u32 r1, .int .u32 r2, .int .i64 r3] 28 := setRow_heap (w6.alloc (.cells #[.int .u32 0, .int .u32 0, .int .u32 0, .int .i64 0] 28)) w6.heap.size _ #[.int .u32 r0, .int .u32 r1, .int .u32 r2, .int .i64 r3] 28 (0, 0) (BlkAt.new w6 _ _)
  have hq : Below w6.heap.size w6 ((w6.alloc (.cells #[.int .u32 0, .int .u32 0, .int .u32 0, .int .i64 0] 28)).setRow w6.heap.size #[.int .u32 r0, .int .u32 r1, .int .u32 r2, .int .i64 r3]) := below_setRow ((Below.refl _ _).alloc (Nat.le_refl _) _) (Nat.le_refl _) _
  replace hb := hb.trans (hq.mono hb.size)
  replace B := B.below hq (Nat.le_refl _)
  replace I := I.below hq (Nat.le_refl _)
  replace J := J.below hq (Nat.le_refl _)
  replace I1 := I1.below hq (Nat.le_refl _)
  replace I2 := I2.below hq (Nat.le_refl _)
  replace X := X.below hq (Nat.le_refl _)
  clear hq
  generalize World.setRow _ _ _ = v6 at *
  generalize w6.heap.size = s at *
  replace B := B.drew
  replace X := X.drew
  replace Y := Y.drew
  replace I1 := I1.below (Below.refl _ _).drew (Nat.le_refl _)
  replace I2 := I2.below (Below.refl _ _).drew (Nat.le_refl _)
  replace J := J.below (Below.refl _ _).drew (Nat.le_refl _)
  replace I := I.below (Below.refl _ _).drew (Nat.le_refl _)
  replace hb := hb.drew
  refine wp_region_held_drew (S := (fun W => (W.cell? ⟨w.heap.size, 0, none⟩ = some (.int .u32 id) ∧ W.cell? ⟨w.heap.size, 1, none⟩ = some (.int .u32 age) ∧ W.cell? ⟨w.heap.size, 2, none⟩ = some (.int .u32 seq) ∧ W.cell? ⟨w.heap.size, 3, none⟩ = some (.int .i64 tail)) ∧ (W.cell? ⟨t, 0, none⟩ = some (.int .u32 r0) ∧ W.cell? ⟨t, 1, none⟩ = some (.int .u32 r1) ∧ W.cell? ⟨t, 2, none⟩ = some (.int .u32 r2) ∧ W.cell? ⟨t, 3, none⟩ = some (.int .i64 r3)) ∧ (W.cell? ⟨s, 0, none⟩ = some (.int .u32 r0) ∧ W.cell? ⟨s, 1, none⟩ = some (.int .u32 r1) ∧ W.cell? ⟨s, 2, none⟩ = some (.int .u32 r2) ∧ W.cell? ⟨s, 3, none⟩ = some (.int .i64 r3)) ∧ (convert 22 9 (.slice A1 n1 c1)).run Try.prog W = .ok (.string (strOfNums L)) W ∧ (convert 22 9 (.slice A2 n1 c2)).run Try.prog W = .ok (.string (strOfNums L)) W ∧ (convert 22 9 (.slice A3 n C3)).run Try.prog W = .ok (.string (strOfNums zs)) W ∧ (convert 22 9 (.slice a n c)).run Try.prog W = .ok (.string (strOfNums zs)) W)) (by kernel_rfl) ?_ (fun hHeld => ?_)
  · exact ⟨⟨B.cell 0, B.cell 1, B.cell 2, B.cell 3⟩, ⟨X.cell 0, X.cell 1, X.cell 2, X.cell 3⟩, ⟨Y.cell 0, Y.cell 1, Y.cell 2, Y.cell 3⟩, I1.text (P := Try.prog) (c := c1) Try.underlying22 Try.underlying5 Try.underlying9, I2.text (P := Try.prog) (c := c2) Try.underlying22 Try.underlying5 Try.underlying9, J.text (P := Try.prog) (c := C3) Try.underlying22 Try.underlying5 Try.underlying9, I.text (P := Try.prog) (c := c) Try.underlying22 Try.underlying5 Try.underlying9⟩
  refine wpAnyH_take (i := 0) (v := ?_) rfl (by kernel_rfl) (by kernel_rfl) (by kernel_rfl) (fun _ _ _ h => h) (Or.inl ⟨by rfl, ?_⟩) hHeld ?_
  rotate_left
  · (intro w hSw; (try dsimp only at hSw); go_simp; try with_reducible rfl)
  try simp only [Act.put, List.getElem_toArray, List.getElem_cons_zero, List.setIfInBounds_toArray, List.set_cons_zero, List.set_cons_succ]
  refine wpAnyH_take (i := 1) (v := ?_) rfl (by kernel_rfl) (by kernel_rfl) (by kernel_rfl) (fun _ _ _ h => h) (Or.inl ⟨by rfl, ?_⟩) hHeld ?_
  rotate_left
  · (intro w hSw; (try dsimp only at hSw); go_simp; try with_reducible rfl)
  try simp only [Act.put, List.getElem_toArray, List.getElem_cons_zero, List.getElem_cons_succ, List.setIfInBounds_toArray, List.set_cons_zero, List.set_cons_succ]
  refine wpAnyH_take (i := 2) (v := ?_) rfl (by kernel_rfl) (by kernel_rfl) (by kernel_rfl) (fun _ _ _ h => h) (Or.inl ⟨by rfl, ?_⟩) hHeld ?_
  rotate_left
  · (intro w hSw; (try dsimp only at hSw); go_simp; try with_reducible rfl)
  try simp only [Act.put, List.getElem_toArray, List.getElem_cons_zero, List.getElem_cons_succ, List.setIfInBounds_toArray, List.set_cons_zero, List.set_cons_succ]
  refine wpAnyH_take (i := 3) (v := ?_) rfl (by kernel_rfl) (by kernel_rfl) (by kernel_rfl) (fun _ _ _ h => h) (Or.inl ⟨by rfl, ?_⟩) hHeld ?_
  rotate_left
  · (intro w hSw; (try dsimp only at hSw); go_simp; try with_reducible rfl)
  try simp only [Act.put, List.getElem_toArray, List.getElem_cons_zero, List.getElem_cons_succ, List.setIfInBounds_toArray, List.set_cons_zero, List.set_cons_succ]
  refine wpAnyH_take (i := 4) (v := ?_) rfl (by kernel_rfl) (by kernel_rfl) (by kernel_rfl) (fun _ _ _ h => h) (Or.inl ⟨by rfl, ?_⟩) hHeld ?_
  rotate_left
  · (intro w hSw; (try dsimp only at hSw); go_simp; try with_reducible rfl)
  try simp only [Act.put, List.getElem_toArray, List.getElem_cons_zero, List.getElem_cons_succ, List.setIfInBounds_toArray, List.set_cons_zero, List.set_cons_succ]
  refine wpAnyH_take (i := 5) (v := ?_) rfl (by kernel_rfl) (by kernel_rfl) (by kernel_rfl) (fun _ _ _ h => h) (Or.inl ⟨by rfl, ?_⟩) hHeld ?_
  rotate_left
  · (intro w hSw; (try dsimp only at hSw); go_simp; try with_reducible rfl)
  try simp only [Act.put, List.getElem_toArray, List.getElem_cons_zero, List.getElem_cons_succ, List.setIfInBounds_toArray, List.set_cons_zero, List.set_cons_succ]
  refine wpAnyH_take (i := 6) (v := ?_) rfl (by kernel_rfl) (by kernel_rfl) (by kernel_rfl) (fun _ _ _ h => h) (Or.inl ⟨by rfl, ?_⟩) hHeld ?_
  rotate_left
  · (intro w hSw; (try dsimp only at hSw); go_simp; try with_reducible rfl)
  try simp only [Act.put, List.getElem_toArray, List.getElem_cons_zero, List.getElem_cons_succ, List.setIfInBounds_toArray, List.set_cons_zero, List.set_cons_succ]
  refine wpAnyH_take (i := 7) (v := ?_) rfl (by kernel_rfl) (by kernel_rfl) (by kernel_rfl) (fun _ _ _ h => h) (Or.inl ⟨by rfl, ?_⟩) hHeld ?_
  rotate_left
  · (intro w hSw; (try dsimp only at hSw); go_simp; try with_reducible rfl)
  try simp only [Act.put, List.getElem_toArray, List.getElem_cons_zero, List.getElem_cons_succ, List.setIfInBounds_toArray, List.set_cons_zero, List.set_cons_succ]
  refine wpAnyH_take (i := 8) (v := ?_) rfl (by kernel_rfl) (by kernel_rfl) (by kernel_rfl) (fun _ _ _ h => h) (Or.inl ⟨by rfl, ?_⟩) hHeld ?_
  rotate_left
  · (intro w hSw; (try dsimp only at hSw); go_simp; try with_reducible rfl)
  try simp only [Act.put, List.getElem_toArray, List.getElem_cons_zero, List.getElem_cons_succ, List.setIfInBounds_toArray, List.set_cons_zero, List.set_cons_succ]
  refine wpAnyH_take (i := 9) (v := ?_) rfl (by kernel_rfl) (by kernel_rfl) (by kernel_rfl) (fun _ _ _ h => h) (Or.inl ⟨by rfl, ?_⟩) hHeld ?_
  rotate_left
  · (intro w hSw; (try dsimp only at hSw); go_simp; try with_reducible rfl)
  try simp only [Act.put, List.getElem_toArray, List.getElem_cons_zero, List.getElem_cons_succ, List.setIfInBounds_toArray, List.set_cons_zero, List.set_cons_succ]
  refine wpAnyH_take (i := 10) (v := ?_) rfl (by kernel_rfl) (by kernel_rfl) (by kernel_rfl) (fun _ _ _ h => h) (Or.inl ⟨by rfl, ?_⟩) hHeld ?_
  rotate_left
  · (intro w hSw; (try dsimp only at hSw); go_simp; try with_reducible rfl)
  try simp only [Act.put, List.getElem_toArray, List.getElem_cons_zero, List.getElem_cons_succ, List.setIfInBounds_toArray, List.set_cons_zero, List.set_cons_succ]
  refine wpAnyH_take (i := 11) (v := ?_) rfl (by kernel_rfl) (by kernel_rfl) (by kernel_rfl) (fun _ _ _ h => h) (Or.inl ⟨by rfl, ?_⟩) hHeld ?_
  rotate_left
  · (intro w hSw; (try dsimp only at hSw); go_simp; try with_reducible rfl)
  try simp only [Act.put, List.getElem_toArray, List.getElem_cons_zero, List.getElem_cons_succ, List.setIfInBounds_toArray, List.set_cons_zero, List.set_cons_succ]
  refine wpAnyH_take (i := 12) (v := ?_) rfl (by kernel_rfl) (by kernel_rfl) (by kernel_rfl) (fun _ _ _ h => h) (Or.inl ⟨by rfl, ?_⟩) hHeld ?_
  rotate_left
  · (intro w hSw; (try dsimp only at hSw); go_simp; try with_reducible rfl)
  try simp only [Act.put, List.getElem_toArray, List.getElem_cons_zero, List.getElem_cons_succ, List.setIfInBounds_toArray, List.set_cons_zero, List.set_cons_succ]
  refine wpAnyH_take (i := 13) (v := ?_) rfl (by kernel_rfl) (by kernel_rfl) (by kernel_rfl) (fun _ _ _ h => h) (Or.inl ⟨by rfl, ?_⟩) hHeld ?_
  rotate_left
  · (intro w hSw; (try dsimp only at hSw); go_simp; try with_reducible rfl)
  try simp only [Act.put, List.getElem_toArray, List.getElem_cons_zero, List.getElem_cons_succ, List.setIfInBounds_toArray, List.set_cons_zero, List.set_cons_succ]
  refine wpAnyH_take (i := 14) (v := ?_) rfl (by kernel_rfl) (by kernel_rfl) (by kernel_rfl) (fun _ _ _ h => h) (Or.inl ⟨by rfl, ?_⟩) hHeld ?_
  rotate_left
  · (intro w hSw; (try dsimp only at hSw); go_simp; try with_reducible rfl)
  try simp only [Act.put, List.getElem_toArray, List.getElem_cons_zero, List.getElem_cons_succ, List.setIfInBounds_toArray, List.set_cons_zero, List.set_cons_succ]
  refine wpAnyH_take (i := 15) (v := ?_) rfl (by kernel_rfl) (by kernel_rfl) (by kernel_rfl) (fun _ _ _ h => h) (Or.inl ⟨by rfl, ?_⟩) hHeld ?_
  rotate_left
  · (intro w hSw; (try dsimp only at hSw); go_simp; try with_reducible rfl)
  try simp only [Act.put, List.getElem_toArray, List.getElem_cons_zero, List.getElem_cons_succ, List.setIfInBounds_toArray, List.set_cons_zero, List.set_cons_succ]
  refine wpAnyH_take (i := 16) (v := ?_) rfl (by kernel_rfl) (by kernel_rfl) (by kernel_rfl) (fun _ _ _ h => h) (Or.inl ⟨by rfl, ?_⟩) hHeld ?_
  rotate_left
  · (intro w hSw; (try dsimp only at hSw); go_simp; try with_reducible rfl)
  try simp only [Act.put, List.getElem_toArray, List.getElem_cons_zero, List.getElem_cons_succ, List.setIfInBounds_toArray, List.set_cons_zero, List.set_cons_succ]
  refine wpAnyH_take (i := 17) (v := ?_) rfl (by kernel_rfl) (by kernel_rfl) (by kernel_rfl) (fun _ _ _ h => h) (Or.inl ⟨by rfl, ?_⟩) hHeld ?_
  rotate_left
  · (intro w hSw; (try dsimp only at hSw); go_simp; try with_reducible rfl)
  try simp only [Act.put, List.getElem_toArray, List.getElem_cons_zero, List.getElem_cons_succ, List.setIfInBounds_toArray, List.set_cons_zero, List.set_cons_succ]
  refine wpAnyH_take (i := 18) (v := ?_) rfl (by kernel_rfl) (by kernel_rfl) (by kernel_rfl) (fun _ _ _ h => h) (Or.inl ⟨by rfl, ?_⟩) hHeld ?_
  rotate_left
  · (intro w hSw; (try dsimp only at hSw); go_simp; try with_reducible rfl)
  try simp only [Act.put, List.getElem_toArray, List.getElem_cons_zero, List.getElem_cons_succ, List.setIfInBounds_toArray, List.set_cons_zero, List.set_cons_succ]
  refine wpAnyH_take (i := 19) (v := ?_) rfl (by kernel_rfl) (by kernel_rfl) (by kernel_rfl) (fun _ _ _ h => h) (Or.inl ⟨by rfl, ?_⟩) hHeld ?_
  rotate_left
  · (intro w hSw; (try dsimp only at hSw); go_simp; try with_reducible rfl)
  try simp only [Act.put, List.getElem_toArray, List.getElem_cons_zero, List.getElem_cons_succ, List.setIfInBounds_toArray, List.set_cons_zero, List.set_cons_succ]
  refine wpAnyH_take (i := 20) (v := ?_) rfl (by kernel_rfl) (by kernel_rfl) (by kernel_rfl) (fun _ _ _ h => h) (Or.inl ⟨by rfl, ?_⟩) hHeld ?_
  rotate_left
  · (intro w hSw; (try dsimp only at hSw); go_simp; try with_reducible rfl)
  try simp only [Act.put, List.getElem_toArray, List.getElem_cons_zero, List.getElem_cons_succ, List.setIfInBounds_toArray, List.set_cons_zero, List.set_cons_succ]
  refine wpAnyH_take (i := 21) (v := ?_) rfl (by kernel_rfl) (by kernel_rfl) (by kernel_rfl) (fun _ _ _ h => h) (Or.inl ⟨by rfl, ?_⟩) hHeld ?_
  rotate_left
  · (intro w hSw; (try dsimp only at hSw); go_simp; try with_reducible rfl)
  try simp only [Act.put, List.getElem_toArray, List.getElem_cons_zero, List.getElem_cons_succ, List.setIfInBounds_toArray, List.set_cons_zero, List.set_cons_succ]
  refine wpAnyH_take (i := 23) (v := ?_) rfl (by kernel_rfl) (by kernel_rfl) (by kernel_rfl) (fun _ _ _ h => h) (Or.inl ⟨by rfl, ?_⟩) hHeld ?_
  rotate_left
  · (intro w hSw; (try dsimp only at hSw); go_simp; try with_reducible rfl)
  try simp only [Act.put, List.getElem_toArray, List.getElem_cons_zero, List.getElem_cons_succ, List.setIfInBounds_toArray, List.set_cons_zero, List.set_cons_succ]
  refine wpAnyH_ready (rs := [22]) (by kernel_rfl) (by simp) ?_
  refine AllReadyH.cons rfl (fun K hK => ?_) AllReadyH.nil
  go_simp
  (with_reducible refine (kc _).mono ?_)
  rintro e w7 ⟨rfl, hq⟩
  replace B := B.below hq (Nat.le_refl _)
  replace X := X.below hq (Nat.le_refl _)
  replace Y := Y.below hq (Nat.le_refl _)
  replace I1 := I1.below hq (Nat.le_refl _)
  replace I2 := I2.below hq (Nat.le_refl _)
  replace J := J.below hq (Nat.le_refl _)
  replace I := I.below hq (Nat.le_refl _)
  replace hb := hb.trans (hq.mono hb.size)
  clear hq
  go_wp2_with fail
  refine hK.out _ _ ?_ (fun hHeld2 => ?_)
  · exact ⟨⟨B.cell 0, B.cell 1, B.cell 2, B.cell 3⟩, ⟨X.cell 0, X.cell 1, X.cell 2, X.cell 3⟩, ⟨Y.cell 0, Y.cell 1, Y.cell 2, Y.cell 3⟩, I1.text (P := Try.prog) (c := c1) Try.underlying22 Try.underlying5 Try.underlying9, I2.text (P := Try.prog) (c := c2) Try.underlying22 Try.underlying5 Try.underlying9, J.text (P := Try.prog) (c := C3) Try.underlying22 Try.underlying5 Try.underlying9, I.text (P := Try.prog) (c := c) Try.underlying22 Try.underlying5 Try.underlying9⟩
  clear hK K hHeld
  have hHeld := hHeld2
  clear hHeld2
  try simp only [Act.put, List.setIfInBounds_toArray, List.set_cons_zero, List.set_cons_succ]
  refine wpAnyH_ready (rs := [24]) (by kernel_rfl) (by simp) ?_
  refine AllReadyH.cons rfl (fun K hK => ?_) AllReadyH.nil
  go_simp
  (with_reducible refine (kd _).mono ?_)
  rintro e w8 ⟨rfl, hq⟩
  replace B := B.below hq (Nat.le_refl _)
  replace X := X.below hq (Nat.le_refl _)
  replace Y := Y.below hq (Nat.le_refl _)
  replace I1 := I1.below hq (Nat.le_refl _)
  replace I2 := I2.below hq (Nat.le_refl _)
  replace J := J.below hq (Nat.le_refl _)
  replace I := I.below hq (Nat.le_refl _)
  replace hb := hb.trans (hq.mono hb.size)
  clear hq
  go_wp2_with fail
  refine hK.out _ _ ?_ (fun hHeld2 => ?_)
  · exact ⟨⟨B.cell 0, B.cell 1, B.cell 2, B.cell 3⟩, ⟨X.cell 0, X.cell 1, X.cell 2, X.cell 3⟩, ⟨Y.cell 0, Y.cell 1, Y.cell 2, Y.cell 3⟩, I1.text (P := Try.prog) (c := c1) Try.underlying22 Try.underlying5 Try.underlying9, I2.text (P := Try.prog) (c := c2) Try.underlying22 Try.underlying5 Try.underlying9, J.text (P := Try.prog) (c := C3) Try.underlying22 Try.underlying5 Try.underlying9, I.text (P := Try.prog) (c := c) Try.underlying22 Try.underlying5 Try.underlying9⟩
  clear hK K hHeld
  have hHeld := hHeld2
  clear hHeld2
  try simp only [Act.put, List.setIfInBounds_toArray, List.set_cons_zero, List.set_cons_succ]
  refine wpAnyH_take (i := 25) (v := ?_) rfl (by kernel_rfl) (by kernel_rfl) (by kernel_rfl) (fun _ _ _ h => h) (Or.inl ⟨by rfl, ?_⟩) hHeld ?_
  rotate_left
  · (intro w hSw; (try dsimp only at hSw); go_simp; try with_reducible rfl)
  try simp only [Act.put, List.getElem_toArray, List.getElem_cons_zero, List.getElem_cons_succ, List.setIfInBounds_toArray, List.set_cons_zero, List.set_cons_succ]
  refine wpAnyH_take (i := 26) (v := ?_) rfl (by kernel_rfl) (by kernel_rfl) (by kernel_rfl) (fun _ _ _ h => h) (Or.inl ⟨by rfl, ?_⟩) hHeld ?_
  rotate_left
  · (intro w hSw; (try dsimp only at hSw); go_simp; try with_reducible rfl)
  try simp only [Act.put, List.getElem_toArray, List.getElem_cons_zero, List.getElem_cons_succ, List.setIfInBounds_toArray, List.set_cons_zero, List.set_cons_succ]
  refine wpAnyH_take (i := 27) (v := ?_) rfl (by kernel_rfl) (by kernel_rfl) (by kernel_rfl) (fun _ _ _ h => h) (Or.inl ⟨by rfl, ?_⟩) hHeld ?_
  rotate_left
  · (intro w hSw; (try dsimp only at hSw); go_simp; try with_reducible rfl)
  try simp only [Act.put, List.getElem_toArray, List.getElem_cons_zero, List.getElem_cons_succ, List.setIfInBounds_toArray, List.set_cons_zero, List.set_cons_succ]
  refine wpAnyH_take (i := 28) (v := ?_) rfl (by kernel_rfl) (by kernel_rfl) (by kernel_rfl) (fun _ _ _ h => h) (Or.inl ⟨by rfl, ?_⟩) hHeld ?_
  rotate_left
  · (intro w hSw; (try dsimp only at hSw); go_simp; try with_reducible rfl)
  try simp only [Act.put, List.getElem_toArray, List.getElem_cons_zero, List.getElem_cons_succ, List.setIfInBounds_toArray, List.set_cons_zero, List.set_cons_succ]
  refine wpAnyH_take (i := 29) (v := ?_) rfl (by kernel_rfl) (by kernel_rfl) (by kernel_rfl) (fun _ _ _ h => h) (Or.inl ⟨by rfl, ?_⟩) hHeld ?_
  rotate_left
  · (intro w hSw; (try dsimp only at hSw); go_simp; try with_reducible rfl)
  try simp only [Act.put, List.getElem_toArray, List.getElem_cons_zero, List.getElem_cons_succ, List.setIfInBounds_toArray, List.set_cons_zero, List.set_cons_succ]
  refine wpAnyH_take (i := 30) (v := ?_) rfl (by kernel_rfl) (by kernel_rfl) (by kernel_rfl) (fun _ _ _ h => h) (Or.inl ⟨by rfl, ?_⟩) hHeld ?_
  rotate_left
  · (intro w hSw; (try dsimp only at hSw); go_simp; try with_reducible rfl)
  try simp only [Act.put, List.getElem_toArray, List.getElem_cons_zero, List.getElem_cons_succ, List.setIfInBounds_toArray, List.set_cons_zero, List.set_cons_succ]
  refine wpAnyH_take (i := 31) (v := ?_) rfl (by kernel_rfl) (by kernel_rfl) (by kernel_rfl) (fun _ _ _ h => h) (Or.inl ⟨by rfl, ?_⟩) hHeld ?_
  rotate_left
  · (intro w hSw; (try dsimp only at hSw); go_simp; try with_reducible rfl)
  try simp only [Act.put, List.getElem_toArray, List.getElem_cons_zero, List.getElem_cons_succ, List.setIfInBounds_toArray, List.set_cons_zero, List.set_cons_succ]
  refine wpAnyH_take (i := 32) (v := ?_) rfl (by kernel_rfl) (by kernel_rfl) (by kernel_rfl) (fun _ _ _ h => h) (Or.inl ⟨by rfl, ?_⟩) hHeld ?_
  rotate_left
  · (intro w hSw; (try dsimp only at hSw); go_simp; try with_reducible rfl)
  try simp only [Act.put, List.getElem_toArray, List.getElem_cons_zero, List.getElem_cons_succ, List.setIfInBounds_toArray, List.set_cons_zero, List.set_cons_succ]
  refine wpAnyH_take (i := 33) (v := ?_) rfl (by kernel_rfl) (by kernel_rfl) (by kernel_rfl) (fun _ _ _ h => h) (Or.inl ⟨by rfl, ?_⟩) hHeld ?_
  rotate_left
  · (intro w hSw; (try dsimp only at hSw); go_simp; try with_reducible rfl)
  try simp only [Act.put, List.getElem_toArray, List.getElem_cons_zero, List.getElem_cons_succ, List.setIfInBounds_toArray, List.set_cons_zero, List.set_cons_succ]
  refine wpAnyH_take (i := 34) (v := ?_) rfl (by kernel_rfl) (by kernel_rfl) (by kernel_rfl) (fun _ _ _ h => h) (Or.inl ⟨by rfl, ?_⟩) hHeld ?_
  rotate_left
  · (intro w hSw; (try dsimp only at hSw); go_simp; try with_reducible rfl)
  try simp only [Act.put, List.getElem_toArray, List.getElem_cons_zero, List.getElem_cons_succ, List.setIfInBounds_toArray, List.set_cons_zero, List.set_cons_succ]
  refine wpAnyH_done (by kernel_rfl) ?_ _
  go_wp2
  go_ret
  exact ⟨rfl, hb⟩
theorem supWriteR_any {s : Sup} (hw : WideS s) (w : World) : Calls Try.prog 14 #[supV s] w fun e w' => ∃ A c, e = .returned (.tuple #[.slice A (outSN s) c, .int .i64 (chkS s)]) ∧ outSN s ≤ c ∧ Ints .u8 w' A (outSN s) (outS s) ∧ Below w.heap.size w w' := by
  unfold outSN outS
  by_cases h : MayS s
  · rw [if_pos h, if_pos h, chkS_may h]
    refine (supWriteR_ok hw h w).mono ?_
    rintro e w' ⟨g, hg, rfl, hc, hb⟩
    exact ⟨_, _, rfl, by omega, blockS_ints hc, hb⟩
  · rw [if_neg h, if_neg h, chkS_not h]
    refine (supWriteR_no h w).mono ?_
    rintro e w' ⟨rfl, hb⟩
    exact ⟨_, _, rfl, by omega, nil_ints10 _ _, hb⟩
theorem superDoes_walk (w : World) (s : Sup) (hw : WideS s) (a : Option Addr) (n c : Nat) (zs : List Int) (hI : Ints .u8 w a n zs) (_ : n ≤ c) : Calls Try.prog 4 #[supV s, .slice a n c] w fun e w' => e = .returned (.bool true) ∧ Below w.heap.size w w' := by
  by_cases hn : (n : Int) ≤ 1000
  · refine does_gen s.id s.age s.seq s.tail (rdS n zs).id (rdS n zs).age (rdS n zs).seq (rdS n zs).tail a n c (outSN s) zs (outS s) (chkS s) (rdES n zs) w hI (by omega) (fun W => supWrite_any hw W) (fun W => supWriteR_any hw W) (fun A C W h => supRead_any A n C zs W h) (fun A C W h => ?_) (fun W => supCheck s W) (fun W => supCheckR s W) (fun W => by rw [sup_eql]; simp)
    show Calls _ _ _ _ fun e w' => e = .returned (.tuple #[supV (rdS n zs), .int .i64 (rdES n zs)]) ∧ _
    unfold rdS rdES
    by_cases q : n = 0 ∨ n = 128
    · rw [if_pos q, if_pos q]
      exact supReadR A n C zs W h q
    · rw [if_neg q, if_neg q]
      exact supReadR_text A n C h.max (fun r => q (.inl r)) (fun r => q (.inr r)) W
  · have hm := hI.max
    have hd : (1000 : Int) < n := by omega
    go_enter Try.func4, Try.ntmps4
    go_wp2
    go_ret
    exact ⟨rfl, (Below.refl _ _).alloc (Nat.le_refl _) _⟩


namespace superDoes
set_option linter.unusedVariables false
set_option maxRecDepth 100000 in
theorem lifted (os : Os) (started : os.Started) (H : Type) (enc : TypeId × Value → H) :
    ReturnsInHanded {} Try.checked os 4 .any (Rows.superDoesSpec.pre6 enc Try.prog Try.f4 Rows.superDoesRow.domain false) (Rows.superDoesSpec.post enc Try.prog Try.f4 false true false false) := by
  refine returnsInHanded_of_change (C := Try.checked) Try.own started (by kernel_rfl) Try.func4
    (ChangeSpec.witness6 (enc := enc) (C := Try.checked) false ⟨#[], #[.agg #[.int .u32 0, .int .u32 0, .int .u32 0, .int .i64 0], .slice none 0 0], []⟩ 8 (by kernel_rfl) (by kernel_rfl) (by kernel_rfl) (by kernel_rfl)) ?_
  intro W base args ds gs before hval0 hW hcnd _
  have hval : ∀ (j : Nat) t v, Try.f4.params[j]? = some t → args[j]? = some v → Value.okWide Try.prog W .any base t v := hval0
  have hW' := hW
  obtain ⟨p, q, hA0, hV, rfl, hfz, hnd⟩ := hW
  have hA : DataW.TrodAll enc Try.prog W 0 (fun _ => true) true Try.f4.params.toList args.toList ds p := hA0
  rw [Try.params4] at hA hval
  obtain ⟨v0, vs0, d0, ds0, p0, q0, hargs, rfl, rfl, h0, r0⟩ := trodAll_cons hA
  obtain ⟨v1, vs1, d1, ds1, p1, q1, rfl, rfl, rfl, h1, r1⟩ := trodAll_cons r0
  obtain ⟨rfl, rfl, rfl⟩ := trodAll_nil r1
  obtain rfl : args = #[v0, v1] := by cases args; simp_all
  obtain ⟨rfl, rfl⟩ := trodVars_none hV
  have k0 := h0
  have lt0 : ∀ x ∈ p0, x.block < W.heap.size := by obtain ⟨m, hm⟩ := k0; exact DataW.trod_lt m _ _ _ hm
  obtain ⟨z0, rfl, w0⟩ := super_in (hval 0 28 v0 rfl rfl) h0
  obtain ⟨a1, len1, cap1, rfl⟩ := okWide_slice Try.underlying22 (hval 1 22 v1 rfl rfl)
  have k1 := h1
  have lt1 : ∀ x ∈ p1, x.block < W.heap.size := by obtain ⟨m, hm⟩ := k1; exact DataW.trod_lt m _ _ _ hm
  obtain ⟨z1, w1, c1⟩ : ∃ zs, Ints .u8 W a1 len1 zs ∧ len1 ≤ cap1 := by
    obtain ⟨fuel, hf⟩ := h1
    rcases open_ints Try.underlying22 Try.underlying5 (by kernel_rfl) hf with ⟨hcs, _⟩ | ⟨x, l, c, zs, hcs, _, hl, hm, hz, _, hcell, hwz⟩
    · simp [Value.cells] at hcs
      obtain ⟨rfl, rfl, rfl⟩ := hcs
      exact ⟨[], ⟨rfl, by omega, by simp, .inl rfl⟩, by omega⟩
    · simp [Value.cells] at hcs
      obtain ⟨rfl, rfl, rfl⟩ := hcs
      exact ⟨_, Ints.of_cells hl hm (by simpa using hz) hcell hwz, hl⟩
  clear hA0 hval0
  refine (superDoes_walk W z0 w0 a1 len1 cap1 z1 w1 c1).mono fun e W' ⟨he, bel⟩ => ?_
  subst he
  exact ⟨_, rfl, _, _, _, [], _, [], hW', trodAll_mk1 (shut_bool Try.underlying4 _), (trodAll_cons_mk (Below.trod Try.laidOut (by kernel_rfl) (of_decide_eq_true (by kernel_rfl)) k0 bel lt0) (trodAll_cons_mk (Below.trod Try.laidOut (by kernel_rfl) (of_decide_eq_true (by kernel_rfl)) k1 bel lt1) trodAll_mk0)), rfl, bel.frame _, fun h => by cases h⟩

theorem holds : Rows.SuperDoesSaid :=
  OpenClaim.holds_of_wide 4 Try.f4 rfl rfl rfl rfl rfl rfl rfl ⟨rfl, rfl, rfl, rfl, rfl⟩ rfl rfl rfl rfl rfl (by kernel_rfl) Try.func4 (by kernel_rfl)
    (of_decide_eq_true (by kernel_rfl)) (by unfold Func.isWrapper; first | (rw [if_pos (by decide +kernel)]; kernel_rfl) | (rw [if_neg (by decide +kernel)]; exact ⟨rfl, rfl⟩))
    (fun os started H enc _ => lifted os started H enc)
end superDoes
end Go.Proofs.Ytcngonedcnddlaa
