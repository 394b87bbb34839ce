/- freeboardlaw10.SuperUnlike: for every input the law answers true, and what is handed in reads as it did. Conditions: none. -/
import Derived.Test.YtcngonedcnddlaaSuperAlive
import Derived.Test.YtcngonedcnddlaaLabelSays
import Derived.Deep.RegionHeld3
import Derived.Deep.Cut
namespace Go.Proofs.Ytcngonedcnddlaa
open Go.ChangeShapes Go.WideShapes Go.ChangeAt Go.RowKit PolyM PackM SealM LabelM SuperM
set_option linter.unusedVariables false
set_option maxRecDepth 100000 in
set_option maxHeartbeats 4000000 in
theorem unlike_8 (id age seq tail : Int) (id2 age2 seq2 tail2 : Int) (ch cL cz : Array Value) (hch : ch.size = 10) (hcL : cL.size = 10) (hL1 : cL.all (·.oneCell') = true) (hcz : cz.size = 4) (hz1 : cz.all (·.oneCell') = true) (L1 L2 L3 : List Int) (n2 n3 : Nat) (E2 E3 : Int) (ka : ∀ W, Calls Try.prog 12 #[] W fun e w' => e = .returned (.bool true) ∧ Below W.heap.size W w') (kw : ∀ W, Calls Try.prog 9 #[.agg #[.int .u32 id, .int .u32 age, .int .u32 seq, .int .i64 tail]] W fun e w' => ∃ A c, e = .returned (.tuple #[.slice A 0 c, .int .i64 8]) ∧ 0 ≤ c ∧ Ints .u8 w' A 0 L1 ∧ Below W.heap.size W w') (kv : ∀ W, Calls Try.prog 9 #[.agg #[.int .u32 id2, .int .u32 age2, .int .u32 seq2, .int .i64 tail2]] W fun e w' => ∃ A c, e = .returned (.tuple #[.slice A n2 c, .int .i64 E2]) ∧ n2 ≤ c ∧ Ints .u8 w' A n2 L2 ∧ Below W.heap.size W w') 
    (km : ∀ W, Calls Try.prog 18 #[.agg ch] W fun e w' => ∃ A c, e = .returned (.tuple #[.slice A n3 c, .int .i64 E3]) ∧ n3 ≤ c ∧ Ints .u8 w' A n3 L3 ∧ Below W.heap.size W w')
    (h3 : E3 = 0 ∧ (∀ A c W, Ints .u8 W A n3 L3 → Calls Try.prog 11 #[.slice A n3 c] W fun e w' => e = .returned (.tuple #[.agg cz, .int .i64 90]) ∧ Below W.heap.size W w') ∨ E3 = 8)
    (w : World) : Calls Try.prog 7 #[.agg #[.int .u32 id, .int .u32 age, .int .u32 seq, .int .i64 tail], .agg #[.int .u32 id2, .int .u32 age2, .int .u32 seq2, .int .i64 tail2], .agg ch] w fun e w' => e = .returned (.bool true) ∧ Below w.heap.size w w' := by
  have B := ((BlkAt.new w #[.int .u32 id, .int .u32 age, .int .u32 seq, .int .i64 tail] 28).alloc (.cells #[.int .u32 id2, .int .u32 age2, .int .u32 seq2, .int .i64 tail2] 28)).alloc (.cells ch 43)
  have G := (BlkAt.new (w.alloc (.cells #[.int .u32 id, .int .u32 age, .int .u32 seq, .int .i64 tail] 28)) #[.int .u32 id2, .int .u32 age2, .int .u32 seq2, .int .i64 tail2] 28).alloc (.cells ch 43)
  have H := BlkAt.new ((w.alloc (.cells #[.int .u32 id, .int .u32 age, .int .u32 seq, .int .i64 tail] 28)).alloc (.cells #[.int .u32 id2, .int .u32 age2, .int .u32 seq2, .int .i64 tail2] 28)) ch 43
  rw [World.size_alloc] at G H
  rw [World.size_alloc] at H
  have hb : Below w.heap.size w (((w.alloc (.cells #[.int .u32 id, .int .u32 age, .int .u32 seq, .int .i64 tail] 28 (0, 0))).alloc (.cells #[.int .u32 id2, .int .u32 age2, .int .u32 seq2, .int .i64 tail2] 28 (0, 0))).alloc (.cells ch 43 (0, 0))) := (((Below.refl _ _).alloc (Nat.le_refl _) _).alloc (by simp) _).alloc (by simp; omega) _
  have hi4 := (zero_of_info super_size).2
  have hi10 := (zero_of_info label_size).2
  go_enter Try.func7, Try.ntmps7
  go_upto_region 4 with (first
    | (go_at_call 12; (with_reducible refine (ka _).mono ?_); rintro e w1 ⟨rfl, hb1⟩; replace hb := hb.trans (hb1.mono hb.size); replace B := B.below hb1 (Nat.le_refl _); replace G := G.below hb1 (Nat.le_refl _); replace H := H.below hb1 (Nat.le_refl _); clear hb1)
    | refine wpList_load_rowG (by rfl) 28 _ rfl w.heap.size rfl _ _ _ _ B Try.underlying28 (by rw [hi4]; rfl) ?_
    | refine wpList_load_rowG (by rfl) 28 _ rfl (w.heap.size + 1) rfl _ _ _ _ G Try.underlying28 (by rw [hi4]; rfl) ?_
    | (go_at_call 9; (with_reducible refine (kw _).mono ?_); rintro e w2 ⟨A, c, rfl, hc1, I1, hb2⟩; replace hb := hb.trans (hb2.mono hb.size); replace B := B.below hb2 (Nat.le_refl _); replace G := G.below hb2 (Nat.le_refl _); replace H := H.below hb2 (Nat.le_refl _); clear hb2)
    | (go_at_call 9; (with_reducible refine (kv _).mono ?_); rintro e w3 ⟨A2, c2, rfl, hc2, I2, hb3⟩; replace hb := hb.trans (hb3.mono hb.size); replace B := B.below hb3 (Nat.le_refl _); replace G := G.below hb3 (Nat.le_refl _); replace H := H.below hb3 (Nat.le_refl _); replace I1 := I1.below hb3 (Nat.le_refl _); clear hb3))
  replace B := B.drew
  replace G := G.drew
  replace H := H.drew
  replace I1 := I1.below (Below.refl _ _).drew (Nat.le_refl _)
  replace I2 := I2.below (Below.refl _ _).drew (Nat.le_refl _)
  replace hb := hb.drew
  refine wp_region_held_drew (S := (fun W => (W.cell? ⟨w.heap.size, 0, none⟩ = some (.int .u32 id) ∧ W.cell? ⟨w.heap.size, 1, none⟩ = some (.int .u32 age) ∧ W.cell? ⟨w.heap.size, 2, none⟩ = some (.int .u32 seq) ∧ W.cell? ⟨w.heap.size, 3, none⟩ = some (.int .i64 tail)) ∧ (W.cell? ⟨w.heap.size + 1, 0, none⟩ = some (.int .u32 id2) ∧ W.cell? ⟨w.heap.size + 1, 1, none⟩ = some (.int .u32 age2) ∧ W.cell? ⟨w.heap.size + 1, 2, none⟩ = some (.int .u32 seq2) ∧ W.cell? ⟨w.heap.size + 1, 3, none⟩ = some (.int .i64 tail2)) ∧ (convert 22 9 (.slice A 0 c)).run Try.prog W = .ok (.string (strOfNums L1)) W ∧ (convert 22 9 (.slice A2 n2 c2)).run Try.prog W = .ok (.string (strOfNums L2)) W)) (by kernel_rfl) ?_ (fun hHeld => ?_)
  · exact ⟨⟨B.cell 0, B.cell 1, B.cell 2, B.cell 3⟩, ⟨G.cell 0, G.cell 1, G.cell 2, G.cell 3⟩, I1.text (P := Try.prog) (c := c) Try.underlying22 Try.underlying5 Try.underlying9, I2.text (P := Try.prog) (c := c2) Try.underlying22 Try.underlying5 Try.underlying9⟩
  refine wpAnyH_take (i := 0) (v := ?_) rfl (by kernel_rfl) (by kernel_rfl) (by kernel_rfl) (fun _ _ _ h => h) (Or.inl ⟨by rfl, ?_⟩) hHeld ?_
  rotate_left
  · (intro w hSw; (try dsimp only at hSw); go_simp; try with_reducible rfl)
  try simp only [Act.put, List.getElem_toArray, List.getElem_cons_zero, List.setIfInBounds_toArray, List.set_cons_zero, List.set_cons_succ]
  refine wpAnyH_take (i := 1) (v := ?_) rfl (by kernel_rfl) (by kernel_rfl) (by kernel_rfl) (fun _ _ _ h => h) (Or.inl ⟨by rfl, ?_⟩) hHeld ?_
  rotate_left
  · (intro w hSw; (try dsimp only at hSw); go_simp; try with_reducible rfl)
  try simp only [Act.put, List.getElem_toArray, List.getElem_cons_zero, List.getElem_cons_succ, List.setIfInBounds_toArray, List.set_cons_zero, List.set_cons_succ]
  refine wpAnyH_take (i := 2) (v := ?_) rfl (by kernel_rfl) (by kernel_rfl) (by kernel_rfl) (fun _ _ _ h => h) (Or.inl ⟨by rfl, ?_⟩) hHeld ?_
  rotate_left
  · (intro w hSw; (try dsimp only at hSw); go_simp; try with_reducible rfl)
  try simp only [Act.put, List.getElem_toArray, List.getElem_cons_zero, List.getElem_cons_succ, List.setIfInBounds_toArray, List.set_cons_zero, List.set_cons_succ]
  refine wpAnyH_take (i := 3) (v := undef) rfl (by kernel_rfl) (by kernel_rfl) (by kernel_rfl) (fun _ _ _ h => h) (Or.inr ⟨by rfl, rfl⟩) hHeld ?_
  try simp only [Act.put, List.getElem_toArray, List.getElem_cons_zero, List.getElem_cons_succ, List.setIfInBounds_toArray, List.set_cons_zero, List.set_cons_succ]
  refine wpAnyH_take (i := 4) (v := undef) rfl (by kernel_rfl) (by kernel_rfl) (by kernel_rfl) (fun _ _ _ h => h) (Or.inr ⟨by rfl, rfl⟩) hHeld ?_
  try simp only [Act.put, List.getElem_toArray, List.getElem_cons_zero, List.getElem_cons_succ, List.setIfInBounds_toArray, List.set_cons_zero, List.set_cons_succ]
  refine wpAnyH_take (i := 5) (v := ?_) rfl (by kernel_rfl) (by kernel_rfl) (by kernel_rfl) (fun _ _ _ h => h) (Or.inl ⟨by rfl, ?_⟩) hHeld ?_
  rotate_left
  · (intro w hSw; (try dsimp only at hSw); go_simp; try with_reducible rfl)
  try simp only [Act.put, List.getElem_toArray, List.getElem_cons_zero, List.getElem_cons_succ, List.setIfInBounds_toArray, List.set_cons_zero, List.set_cons_succ]
  refine wpAnyH_take (i := 6) (v := ?_) rfl (by kernel_rfl) (by kernel_rfl) (by kernel_rfl) (fun _ _ _ h => h) (Or.inl ⟨by rfl, ?_⟩) hHeld ?_
  rotate_left
  · (intro w hSw; (try dsimp only at hSw); go_simp; try with_reducible rfl)
  try simp only [Act.put, List.getElem_toArray, List.getElem_cons_zero, List.getElem_cons_succ, List.setIfInBounds_toArray, List.set_cons_zero, List.set_cons_succ]
  refine wpAnyH_take (i := 7) (v := undef) rfl (by kernel_rfl) (by kernel_rfl) (by kernel_rfl) (fun _ _ _ h => h) (Or.inr ⟨by rfl, rfl⟩) hHeld ?_
  try simp only [Act.put, List.getElem_toArray, List.getElem_cons_zero, List.getElem_cons_succ, List.setIfInBounds_toArray, List.set_cons_zero, List.set_cons_succ]
  refine wpAnyH_take (i := 8) (v := undef) rfl (by kernel_rfl) (by kernel_rfl) (by kernel_rfl) (fun _ _ _ h => h) (Or.inr ⟨by rfl, rfl⟩) hHeld ?_
  try simp only [Act.put, List.getElem_toArray, List.getElem_cons_zero, List.getElem_cons_succ, List.setIfInBounds_toArray, List.set_cons_zero, List.set_cons_succ]
  refine wpAnyH_take (i := 9) (v := undef) rfl (by kernel_rfl) (by kernel_rfl) (by kernel_rfl) (fun _ _ _ h => h) (Or.inr ⟨by rfl, rfl⟩) hHeld ?_
  try simp only [Act.put, List.getElem_toArray, List.getElem_cons_zero, List.getElem_cons_succ, List.setIfInBounds_toArray, List.set_cons_zero, List.set_cons_succ]
  refine wpAnyH_take (i := 10) (v := undef) rfl (by kernel_rfl) (by kernel_rfl) (by kernel_rfl) (fun _ _ _ h => h) (Or.inr ⟨by rfl, rfl⟩) hHeld ?_
  try simp only [Act.put, List.getElem_toArray, List.getElem_cons_zero, List.getElem_cons_succ, List.setIfInBounds_toArray, List.set_cons_zero, List.set_cons_succ]
  refine wpAnyH_take (i := 11) (v := undef) rfl (by kernel_rfl) (by kernel_rfl) (by kernel_rfl) (fun _ _ _ h => h) (Or.inr ⟨by rfl, rfl⟩) hHeld ?_
  try simp only [Act.put, List.getElem_toArray, List.getElem_cons_zero, List.getElem_cons_succ, List.setIfInBounds_toArray, List.set_cons_zero, List.set_cons_succ]
  refine wpAnyH_take (i := 12) (v := undef) rfl (by kernel_rfl) (by kernel_rfl) (by kernel_rfl) (fun _ _ _ h => h) (Or.inr ⟨by rfl, rfl⟩) hHeld ?_
  try simp only [Act.put, List.getElem_toArray, List.getElem_cons_zero, List.getElem_cons_succ, List.setIfInBounds_toArray, List.set_cons_zero, List.set_cons_succ]
  refine wpAnyH_take (i := 13) (v := undef) rfl (by kernel_rfl) (by kernel_rfl) (by kernel_rfl) (fun _ _ _ h => h) (Or.inr ⟨by rfl, rfl⟩) hHeld ?_
  try simp only [Act.put, List.getElem_toArray, List.getElem_cons_zero, List.getElem_cons_succ, List.setIfInBounds_toArray, List.set_cons_zero, List.set_cons_succ]
  refine wpAnyH_take (i := 14) (v := undef) rfl (by kernel_rfl) (by kernel_rfl) (by kernel_rfl) (fun _ _ _ h => h) (Or.inr ⟨by rfl, rfl⟩) hHeld ?_
  try simp only [Act.put, List.getElem_toArray, List.getElem_cons_zero, List.getElem_cons_succ, List.setIfInBounds_toArray, List.set_cons_zero, List.set_cons_succ]
  refine wpAnyH_take (i := 15) (v := undef) rfl (by kernel_rfl) (by kernel_rfl) (by kernel_rfl) (fun _ _ _ h => h) (Or.inr ⟨by rfl, rfl⟩) hHeld ?_
  try simp only [Act.put, List.getElem_toArray, List.getElem_cons_zero, List.getElem_cons_succ, List.setIfInBounds_toArray, List.set_cons_zero, List.set_cons_succ]
  refine wpAnyH_take (i := 16) (v := ?_) rfl (by kernel_rfl) (by kernel_rfl) (by kernel_rfl) (fun _ _ _ h => h) (Or.inl ⟨by rfl, ?_⟩) hHeld ?_
  rotate_left
  · (intro w hSw; (try dsimp only at hSw); go_simp; try with_reducible rfl)
  try simp only [Act.put, List.getElem_toArray, List.getElem_cons_zero, List.getElem_cons_succ, List.setIfInBounds_toArray, List.set_cons_zero, List.set_cons_succ]
  refine wpAnyH_done (by kernel_rfl) ?_ _
  go_upto_region 11 with (first
    | refine wpList_load_rowG (by rfl) 43 _ rfl (w.heap.size + 1 + 1) rfl _ _ _ _ H Try.underlying43 (by rw [hi10]; rw [hch]) ?_
    | (go_at_call 18; (with_reducible refine (km _).mono ?_); rintro e w5 ⟨A3, c3, rfl, hc3, I3, hb5⟩; replace hb := hb.trans (hb5.mono hb.size); replace H := H.below hb5 (Nat.le_refl _); clear hb5))
  rcases h3 with ⟨rfl, ks⟩ | rfl
  · go_wp2_with (first
      | (go_at_call 11; (with_reducible refine (ks _ _ _ I3).mono ?_); rintro e w6 ⟨rfl, hb6⟩; replace hb := hb.trans (hb6.mono hb.size); clear hb6)
      | refine wpList_store_row rfl 28 _ _ rfl w6.heap.size cz rfl rfl _ _ (BlkAt.new w6 _ _) (by rw [hi4, hcz]) (by rw [hcz]; rfl) hz1 ?_)
    go_ret
    exact ⟨rfl, below_setRow (hb.alloc hb.size _) hb.size _⟩
  · go_wp2
    go_ret
    exact ⟨rfl, hb⟩
set_option maxRecDepth 100000 in
set_option maxHeartbeats 4000000 in
theorem unlike_08 (id age seq tail : Int) (id2 age2 seq2 tail2 : Int) (ch cL cz : Array Value) (hch : ch.size = 10) (hcL : cL.size = 10) (hL1 : cL.all (·.oneCell') = true) (hcz : cz.size = 4) (hz1 : cz.all (·.oneCell') = true) (L1 L2 L3 : List Int) (n2 n3 : Nat) (E3 : Int) (ka : ∀ W, Calls Try.prog 12 #[] W fun e w' => e = .returned (.bool true) ∧ Below W.heap.size W w') (kw : ∀ W, Calls Try.prog 9 #[.agg #[.int .u32 id, .int .u32 age, .int .u32 seq, .int .i64 tail]] W fun e w' => ∃ A c, e = .returned (.tuple #[.slice A 128 c, .int .i64 0]) ∧ 128 ≤ c ∧ Ints .u8 w' A 128 L1 ∧ Below W.heap.size W w') (kv : ∀ W, Calls Try.prog 9 #[.agg #[.int .u32 id2, .int .u32 age2, .int .u32 seq2, .int .i64 tail2]] W fun e w' => ∃ A c, e = .returned (.tuple #[.slice A n2 c, .int .i64 8]) ∧ n2 ≤ c ∧ Ints .u8 w' A n2 L2 ∧ Below W.heap.size W w') 
    (km : ∀ W, Calls Try.prog 18 #[.agg ch] W fun e w' => ∃ A c, e = .returned (.tuple #[.slice A n3 c, .int .i64 E3]) ∧ n3 ≤ c ∧ Ints .u8 w' A n3 L3 ∧ Below W.heap.size W w')
    (h3 : E3 = 0 ∧ (∀ A c W, Ints .u8 W A n3 L3 → Calls Try.prog 11 #[.slice A n3 c] W fun e w' => e = .returned (.tuple #[.agg cz, .int .i64 90]) ∧ Below W.heap.size W w') ∨ E3 = 8)
    (kl : ∀ A c W, Ints .u8 W A 128 L1 → Calls Try.prog 17 #[.slice A 128 c] W fun e w' => e = .returned (.tuple #[.agg cL, .int .i64 90]) ∧ Below W.heap.size W w')
    (w : World) : Calls Try.prog 7 #[.agg #[.int .u32 id, .int .u32 age, .int .u32 seq, .int .i64 tail], .agg #[.int .u32 id2, .int .u32 age2, .int .u32 seq2, .int .i64 tail2], .agg ch] w fun e w' => e = .returned (.bool true) ∧ Below w.heap.size w w' := by
  have B := ((BlkAt.new w #[.int .u32 id, .int .u32 age, .int .u32 seq, .int .i64 tail] 28).alloc (.cells #[.int .u32 id2, .int .u32 age2, .int .u32 seq2, .int .i64 tail2] 28)).alloc (.cells ch 43)
  have G := (BlkAt.new (w.alloc (.cells #[.int .u32 id, .int .u32 age, .int .u32 seq, .int .i64 tail] 28)) #[.int .u32 id2, .int .u32 age2, .int .u32 seq2, .int .i64 tail2] 28).alloc (.cells ch 43)
  have H := BlkAt.new ((w.alloc (.cells #[.int .u32 id, .int .u32 age, .int .u32 seq, .int .i64 tail] 28)).alloc (.cells #[.int .u32 id2, .int .u32 age2, .int .u32 seq2, .int .i64 tail2] 28)) ch 43
  rw [World.size_alloc] at G H
  rw [World.size_alloc] at H
  have hb : Below w.heap.size w (((w.alloc (.cells #[.int .u32 id, .int .u32 age, .int .u32 seq, .int .i64 tail] 28 (0, 0))).alloc (.cells #[.int .u32 id2, .int .u32 age2, .int .u32 seq2, .int .i64 tail2] 28 (0, 0))).alloc (.cells ch 43 (0, 0))) := (((Below.refl _ _).alloc (Nat.le_refl _) _).alloc (by simp) _).alloc (by simp; omega) _
  have hi4 := (zero_of_info super_size).2
  have hi10 := (zero_of_info label_size).2
  go_enter Try.func7, Try.ntmps7
  go_upto_region 4 with (first
    | (go_at_call 12; (with_reducible refine (ka _).mono ?_); rintro e w1 ⟨rfl, hb1⟩; replace hb := hb.trans (hb1.mono hb.size); replace B := B.below hb1 (Nat.le_refl _); replace G := G.below hb1 (Nat.le_refl _); replace H := H.below hb1 (Nat.le_refl _); clear hb1)
    | refine wpList_load_rowG (by rfl) 28 _ rfl w.heap.size rfl _ _ _ _ B Try.underlying28 (by rw [hi4]; rfl) ?_
    | refine wpList_load_rowG (by rfl) 28 _ rfl (w.heap.size + 1) rfl _ _ _ _ G Try.underlying28 (by rw [hi4]; rfl) ?_
    | (go_at_call 9; (with_reducible refine (kw _).mono ?_); rintro e w2 ⟨A, c, rfl, hc1, I1, hb2⟩; replace hb := hb.trans (hb2.mono hb.size); replace B := B.below hb2 (Nat.le_refl _); replace G := G.below hb2 (Nat.le_refl _); replace H := H.below hb2 (Nat.le_refl _); clear hb2)
    | (go_at_call 9; (with_reducible refine (kv _).mono ?_); rintro e w3 ⟨A2, c2, rfl, hc2, I2, hb3⟩; replace hb := hb.trans (hb3.mono hb.size); replace B := B.below hb3 (Nat.le_refl _); replace G := G.below hb3 (Nat.le_refl _); replace H := H.below hb3 (Nat.le_refl _); replace I1 := I1.below hb3 (Nat.le_refl _); clear hb3))
  replace B := B.drew
  replace G := G.drew
  replace H := H.drew
  replace I1 := I1.below (Below.refl _ _).drew (Nat.le_refl _)
  replace I2 := I2.below (Below.refl _ _).drew (Nat.le_refl _)
  replace hb := hb.drew
  refine wp_region_held_drew (S := (fun W => (W.cell? ⟨w.heap.size, 0, none⟩ = some (.int .u32 id) ∧ W.cell? ⟨w.heap.size, 1, none⟩ = some (.int .u32 age) ∧ W.cell? ⟨w.heap.size, 2, none⟩ = some (.int .u32 seq) ∧ W.cell? ⟨w.heap.size, 3, none⟩ = some (.int .i64 tail)) ∧ (W.cell? ⟨w.heap.size + 1, 0, none⟩ = some (.int .u32 id2) ∧ W.cell? ⟨w.heap.size + 1, 1, none⟩ = some (.int .u32 age2) ∧ W.cell? ⟨w.heap.size + 1, 2, none⟩ = some (.int .u32 seq2) ∧ W.cell? ⟨w.heap.size + 1, 3, none⟩ = some (.int .i64 tail2)) ∧ (convert 22 9 (.slice A 128 c)).run Try.prog W = .ok (.string (strOfNums L1)) W ∧ (convert 22 9 (.slice A2 n2 c2)).run Try.prog W = .ok (.string (strOfNums L2)) W)) (by kernel_rfl) ?_ (fun hHeld => ?_)
  · exact ⟨⟨B.cell 0, B.cell 1, B.cell 2, B.cell 3⟩, ⟨G.cell 0, G.cell 1, G.cell 2, G.cell 3⟩, I1.text (P := Try.prog) (c := c) Try.underlying22 Try.underlying5 Try.underlying9, I2.text (P := Try.prog) (c := c2) Try.underlying22 Try.underlying5 Try.underlying9⟩
  refine wpAnyH_take (i := 0) (v := ?_) rfl (by kernel_rfl) (by kernel_rfl) (by kernel_rfl) (fun _ _ _ h => h) (Or.inl ⟨by rfl, ?_⟩) hHeld ?_
  rotate_left
  · (intro w hSw; (try dsimp only at hSw); go_simp; try with_reducible rfl)
  try simp only [Act.put, List.getElem_toArray, List.getElem_cons_zero, List.setIfInBounds_toArray, List.set_cons_zero, List.set_cons_succ]
  refine wpAnyH_take (i := 1) (v := ?_) rfl (by kernel_rfl) (by kernel_rfl) (by kernel_rfl) (fun _ _ _ h => h) (Or.inl ⟨by rfl, ?_⟩) hHeld ?_
  rotate_left
  · (intro w hSw; (try dsimp only at hSw); go_simp; try with_reducible rfl)
  try simp only [Act.put, List.getElem_toArray, List.getElem_cons_zero, List.getElem_cons_succ, List.setIfInBounds_toArray, List.set_cons_zero, List.set_cons_succ]
  refine wpAnyH_take (i := 2) (v := ?_) rfl (by kernel_rfl) (by kernel_rfl) (by kernel_rfl) (fun _ _ _ h => h) (Or.inl ⟨by rfl, ?_⟩) hHeld ?_
  rotate_left
  · (intro w hSw; (try dsimp only at hSw); go_simp; try with_reducible rfl)
  try simp only [Act.put, List.getElem_toArray, List.getElem_cons_zero, List.getElem_cons_succ, List.setIfInBounds_toArray, List.set_cons_zero, List.set_cons_succ]
  refine wpAnyH_take (i := 3) (v := ?_) rfl (by kernel_rfl) (by kernel_rfl) (by kernel_rfl) (fun _ _ _ h => h) (Or.inl ⟨by rfl, ?_⟩) hHeld ?_
  rotate_left
  · (intro w hSw; (try dsimp only at hSw); go_simp; try with_reducible rfl)
  try simp only [Act.put, List.getElem_toArray, List.getElem_cons_zero, List.getElem_cons_succ, List.setIfInBounds_toArray, List.set_cons_zero, List.set_cons_succ]
  refine wpAnyH_take (i := 4) (v := ?_) rfl (by kernel_rfl) (by kernel_rfl) (by kernel_rfl) (fun _ _ _ h => h) (Or.inl ⟨by rfl, ?_⟩) hHeld ?_
  rotate_left
  · (intro w hSw; (try dsimp only at hSw); go_simp; try with_reducible rfl)
  try simp only [Act.put, List.getElem_toArray, List.getElem_cons_zero, List.getElem_cons_succ, List.setIfInBounds_toArray, List.set_cons_zero, List.set_cons_succ]
  refine wpAnyH_take (i := 5) (v := ?_) rfl (by kernel_rfl) (by kernel_rfl) (by kernel_rfl) (fun _ _ _ h => h) (Or.inl ⟨by rfl, ?_⟩) hHeld ?_
  rotate_left
  · (intro w hSw; (try dsimp only at hSw); go_simp; try with_reducible rfl)
  try simp only [Act.put, List.getElem_toArray, List.getElem_cons_zero, List.getElem_cons_succ, List.setIfInBounds_toArray, List.set_cons_zero, List.set_cons_succ]
  refine wpAnyH_take (i := 6) (v := ?_) rfl (by kernel_rfl) (by kernel_rfl) (by kernel_rfl) (fun _ _ _ h => h) (Or.inl ⟨by rfl, ?_⟩) hHeld ?_
  rotate_left
  · (intro w hSw; (try dsimp only at hSw); go_simp; try with_reducible rfl)
  try simp only [Act.put, List.getElem_toArray, List.getElem_cons_zero, List.getElem_cons_succ, List.setIfInBounds_toArray, List.set_cons_zero, List.set_cons_succ]
  refine wpAnyH_take (i := 7) (v := undef) rfl (by kernel_rfl) (by kernel_rfl) (by kernel_rfl) (fun _ _ _ h => h) (Or.inr ⟨by rfl, rfl⟩) hHeld ?_
  try simp only [Act.put, List.getElem_toArray, List.getElem_cons_zero, List.getElem_cons_succ, List.setIfInBounds_toArray, List.set_cons_zero, List.set_cons_succ]
  refine wpAnyH_take (i := 8) (v := undef) rfl (by kernel_rfl) (by kernel_rfl) (by kernel_rfl) (fun _ _ _ h => h) (Or.inr ⟨by rfl, rfl⟩) hHeld ?_
  try simp only [Act.put, List.getElem_toArray, List.getElem_cons_zero, List.getElem_cons_succ, List.setIfInBounds_toArray, List.set_cons_zero, List.set_cons_succ]
  refine wpAnyH_take (i := 9) (v := undef) rfl (by kernel_rfl) (by kernel_rfl) (by kernel_rfl) (fun _ _ _ h => h) (Or.inr ⟨by rfl, rfl⟩) hHeld ?_
  try simp only [Act.put, List.getElem_toArray, List.getElem_cons_zero, List.getElem_cons_succ, List.setIfInBounds_toArray, List.set_cons_zero, List.set_cons_succ]
  refine wpAnyH_take (i := 10) (v := undef) rfl (by kernel_rfl) (by kernel_rfl) (by kernel_rfl) (fun _ _ _ h => h) (Or.inr ⟨by rfl, rfl⟩) hHeld ?_
  try simp only [Act.put, List.getElem_toArray, List.getElem_cons_zero, List.getElem_cons_succ, List.setIfInBounds_toArray, List.set_cons_zero, List.set_cons_succ]
  refine wpAnyH_take (i := 11) (v := undef) rfl (by kernel_rfl) (by kernel_rfl) (by kernel_rfl) (fun _ _ _ h => h) (Or.inr ⟨by rfl, rfl⟩) hHeld ?_
  try simp only [Act.put, List.getElem_toArray, List.getElem_cons_zero, List.getElem_cons_succ, List.setIfInBounds_toArray, List.set_cons_zero, List.set_cons_succ]
  refine wpAnyH_take (i := 12) (v := undef) rfl (by kernel_rfl) (by kernel_rfl) (by kernel_rfl) (fun _ _ _ h => h) (Or.inr ⟨by rfl, rfl⟩) hHeld ?_
  try simp only [Act.put, List.getElem_toArray, List.getElem_cons_zero, List.getElem_cons_succ, List.setIfInBounds_toArray, List.set_cons_zero, List.set_cons_succ]
  refine wpAnyH_take (i := 13) (v := undef) rfl (by kernel_rfl) (by kernel_rfl) (by kernel_rfl) (fun _ _ _ h => h) (Or.inr ⟨by rfl, rfl⟩) hHeld ?_
  try simp only [Act.put, List.getElem_toArray, List.getElem_cons_zero, List.getElem_cons_succ, List.setIfInBounds_toArray, List.set_cons_zero, List.set_cons_succ]
  refine wpAnyH_take (i := 14) (v := undef) rfl (by kernel_rfl) (by kernel_rfl) (by kernel_rfl) (fun _ _ _ h => h) (Or.inr ⟨by rfl, rfl⟩) hHeld ?_
  try simp only [Act.put, List.getElem_toArray, List.getElem_cons_zero, List.getElem_cons_succ, List.setIfInBounds_toArray, List.set_cons_zero, List.set_cons_succ]
  refine wpAnyH_take (i := 15) (v := undef) rfl (by kernel_rfl) (by kernel_rfl) (by kernel_rfl) (fun _ _ _ h => h) (Or.inr ⟨by rfl, rfl⟩) hHeld ?_
  try simp only [Act.put, List.getElem_toArray, List.getElem_cons_zero, List.getElem_cons_succ, List.setIfInBounds_toArray, List.set_cons_zero, List.set_cons_succ]
  refine wpAnyH_take (i := 16) (v := ?_) rfl (by kernel_rfl) (by kernel_rfl) (by kernel_rfl) (fun _ _ _ h => h) (Or.inl ⟨by rfl, ?_⟩) hHeld ?_
  rotate_left
  · (intro w hSw; (try dsimp only at hSw); go_simp; try with_reducible rfl)
  try simp only [Act.put, List.getElem_toArray, List.getElem_cons_zero, List.getElem_cons_succ, List.setIfInBounds_toArray, List.set_cons_zero, List.set_cons_succ]
  refine wpAnyH_done (by kernel_rfl) ?_ _
  go_upto_region 8 with (first
    | (go_at_call 17; (with_reducible refine (kl _ _ _ I1).mono ?_); rintro e w4 ⟨rfl, hb4⟩; replace hb := hb.trans (hb4.mono hb.size); replace H := H.below hb4 (Nat.le_refl _); clear hb4)
    | refine wpList_store_row rfl 43 _ _ rfl w4.heap.size cL rfl rfl _ _ (BlkAt.new w4 _ _) (by rw [hi10, hcL]) (by rw [hcL]; rfl) hL1 ?_)
  have X : BlkAt ((w4.alloc (.cells #[.int .u32 0, .int .u32 0, .int .i64 0, .int .i64 0, .int .i64 0, .int .i64 0, .int .i64 0, .int .i64 0, .int .i64 0, .bool false] 43)).setRow w4.heap.size cL) w4.heap.size cL 43 := setRow_heap (w4.alloc (.cells #[.int .u32 0, .int .u32 0, .int .i64 0, .int .i64 0, .int .i64 0, .int .i64 0, .int .i64 0, .int .i64 0, .int .i64 0, .bool false] 43)) w4.heap.size _ cL 43 (0, 0) (BlkAt.new w4 _ _)
  have hq : Below w4.heap.size w4 ((w4.alloc (.cells #[.int .u32 0, .int .u32 0, .int .i64 0, .int .i64 0, .int .i64 0, .int .i64 0, .int .i64 0, .int .i64 0, .int .i64 0, .bool false] 43)).setRow w4.heap.size cL) := below_setRow ((Below.refl _ _).alloc (Nat.le_refl _) _) (Nat.le_refl _) _
  replace hb := hb.trans (hq.mono hb.size)
  replace H := H.below hq (Nat.le_refl _)
  clear hq
  generalize World.setRow _ _ _ = v4 at *
  generalize w4.heap.size = t at *
  go_upto_region 11 with (first
    | refine wpList_load_rowG (by rfl) 43 _ rfl (w.heap.size + 1 + 1) rfl _ _ _ _ H Try.underlying43 (by rw [hi10]; rw [hch]) ?_
    | (go_at_call 18; (with_reducible refine (km _).mono ?_); rintro e w5 ⟨A3, c3, rfl, hc3, I3, hb5⟩; replace hb := hb.trans (hb5.mono hb.size); replace H := H.below hb5 (Nat.le_refl _); clear hb5))
  rcases h3 with ⟨rfl, ks⟩ | rfl
  · go_wp2_with (first
      | (go_at_call 11; (with_reducible refine (ks _ _ _ I3).mono ?_); rintro e w6 ⟨rfl, hb6⟩; replace hb := hb.trans (hb6.mono hb.size); clear hb6)
      | refine wpList_store_row rfl 28 _ _ rfl w6.heap.size cz rfl rfl _ _ (BlkAt.new w6 _ _) (by rw [hi4, hcz]) (by rw [hcz]; rfl) hz1 ?_)
    go_ret
    exact ⟨rfl, below_setRow (hb.alloc hb.size _) hb.size _⟩
  · go_wp2
    go_ret
    exact ⟨rfl, hb⟩
set_option maxRecDepth 100000 in
set_option maxHeartbeats 4000000 in
theorem unlike_00 (id age seq tail : Int) (id2 age2 seq2 tail2 : Int) (ch cL cz : Array Value) (hch : ch.size = 10) (hcL : cL.size = 10) (hL1 : cL.all (·.oneCell') = true) (hcz : cz.size = 4) (hz1 : cz.all (·.oneCell') = true) (L1 L2 L3 : List Int) (n2 n3 : Nat) (E3 : Int) (ka : ∀ W, Calls Try.prog 12 #[] W fun e w' => e = .returned (.bool true) ∧ Below W.heap.size W w') (kw : ∀ W, Calls Try.prog 9 #[.agg #[.int .u32 id, .int .u32 age, .int .u32 seq, .int .i64 tail]] W fun e w' => ∃ A c, e = .returned (.tuple #[.slice A 128 c, .int .i64 0]) ∧ 128 ≤ c ∧ Ints .u8 w' A 128 L1 ∧ Below W.heap.size W w') (kv : ∀ W, Calls Try.prog 9 #[.agg #[.int .u32 id2, .int .u32 age2, .int .u32 seq2, .int .i64 tail2]] W fun e w' => ∃ A c, e = .returned (.tuple #[.slice A n2 c, .int .i64 0]) ∧ n2 ≤ c ∧ Ints .u8 w' A n2 L2 ∧ Below W.heap.size W w') (q : Bool) (hse : ((strOfNums L1).toList == (strOfNums L2).toList) = q) (he : ∀ W, (binOp .eql 28 (.agg #[.int .u32 id, .int .u32 age, .int .u32 seq, .int .i64 tail]) (.agg #[.int .u32 id2, .int .u32 age2, .int .u32 seq2, .int .i64 tail2])).run Try.prog W = .ok (.bool q) W)
    (km : ∀ W, Calls Try.prog 18 #[.agg ch] W fun e w' => ∃ A c, e = .returned (.tuple #[.slice A n3 c, .int .i64 E3]) ∧ n3 ≤ c ∧ Ints .u8 w' A n3 L3 ∧ Below W.heap.size W w')
    (h3 : E3 = 0 ∧ (∀ A c W, Ints .u8 W A n3 L3 → Calls Try.prog 11 #[.slice A n3 c] W fun e w' => e = .returned (.tuple #[.agg cz, .int .i64 90]) ∧ Below W.heap.size W w') ∨ E3 = 8)
    (kl : ∀ A c W, Ints .u8 W A 128 L1 → Calls Try.prog 17 #[.slice A 128 c] W fun e w' => e = .returned (.tuple #[.agg cL, .int .i64 90]) ∧ Below W.heap.size W w')
    (w : World) : Calls Try.prog 7 #[.agg #[.int .u32 id, .int .u32 age, .int .u32 seq, .int .i64 tail], .agg #[.int .u32 id2, .int .u32 age2, .int .u32 seq2, .int .i64 tail2], .agg ch] w fun e w' => e = .returned (.bool true) ∧ Below w.heap.size w w' := by
  have B := ((BlkAt.new w #[.int .u32 id, .int .u32 age, .int .u32 seq, .int .i64 tail] 28).alloc (.cells #[.int .u32 id2, .int .u32 age2, .int .u32 seq2, .int .i64 tail2] 28)).alloc (.cells ch 43)
  have G := (BlkAt.new (w.alloc (.cells #[.int .u32 id, .int .u32 age, .int .u32 seq, .int .i64 tail] 28)) #[.int .u32 id2, .int .u32 age2, .int .u32 seq2, .int .i64 tail2] 28).alloc (.cells ch 43)
  have H := BlkAt.new ((w.alloc (.cells #[.int .u32 id, .int .u32 age, .int .u32 seq, .int .i64 tail] 28)).alloc (.cells #[.int .u32 id2, .int .u32 age2, .int .u32 seq2, .int .i64 tail2] 28)) ch 43
  rw [World.size_alloc] at G H
  rw [World.size_alloc] at H
  have hb : Below w.heap.size w (((w.alloc (.cells #[.int .u32 id, .int .u32 age, .int .u32 seq, .int .i64 tail] 28 (0, 0))).alloc (.cells #[.int .u32 id2, .int .u32 age2, .int .u32 seq2, .int .i64 tail2] 28 (0, 0))).alloc (.cells ch 43 (0, 0))) := (((Below.refl _ _).alloc (Nat.le_refl _) _).alloc (by simp) _).alloc (by simp; omega) _
  have hi4 := (zero_of_info super_size).2
  have hi10 := (zero_of_info label_size).2
  go_enter Try.func7, Try.ntmps7
  go_upto_region 4 with (first
    | (go_at_call 12; (with_reducible refine (ka _).mono ?_); rintro e w1 ⟨rfl, hb1⟩; replace hb := hb.trans (hb1.mono hb.size); replace B := B.below hb1 (Nat.le_refl _); replace G := G.below hb1 (Nat.le_refl _); replace H := H.below hb1 (Nat.le_refl _); clear hb1)
    | refine wpList_load_rowG (by rfl) 28 _ rfl w.heap.size rfl _ _ _ _ B Try.underlying28 (by rw [hi4]; rfl) ?_
    | refine wpList_load_rowG (by rfl) 28 _ rfl (w.heap.size + 1) rfl _ _ _ _ G Try.underlying28 (by rw [hi4]; rfl) ?_
    | (go_at_call 9; (with_reducible refine (kw _).mono ?_); rintro e w2 ⟨A, c, rfl, hc1, I1, hb2⟩; replace hb := hb.trans (hb2.mono hb.size); replace B := B.below hb2 (Nat.le_refl _); replace G := G.below hb2 (Nat.le_refl _); replace H := H.below hb2 (Nat.le_refl _); clear hb2)
    | (go_at_call 9; (with_reducible refine (kv _).mono ?_); rintro e w3 ⟨A2, c2, rfl, hc2, I2, hb3⟩; replace hb := hb.trans (hb3.mono hb.size); replace B := B.below hb3 (Nat.le_refl _); replace G := G.below hb3 (Nat.le_refl _); replace H := H.below hb3 (Nat.le_refl _); replace I1 := I1.below hb3 (Nat.le_refl _); clear hb3))
  replace B := B.drew
  replace G := G.drew
  replace H := H.drew
  replace I1 := I1.below (Below.refl _ _).drew (Nat.le_refl _)
  replace I2 := I2.below (Below.refl _ _).drew (Nat.le_refl _)
  replace hb := hb.drew
  refine wp_region_held_drew (S := (fun W => (W.cell? ⟨w.heap.size, 0, none⟩ = some (.int .u32 id) ∧ W.cell? ⟨w.heap.size, 1, none⟩ = some (.int .u32 age) ∧ W.cell? ⟨w.heap.size, 2, none⟩ = some (.int .u32 seq) ∧ W.cell? ⟨w.heap.size, 3, none⟩ = some (.int .i64 tail)) ∧ (W.cell? ⟨w.heap.size + 1, 0, none⟩ = some (.int .u32 id2) ∧ W.cell? ⟨w.heap.size + 1, 1, none⟩ = some (.int .u32 age2) ∧ W.cell? ⟨w.heap.size + 1, 2, none⟩ = some (.int .u32 seq2) ∧ W.cell? ⟨w.heap.size + 1, 3, none⟩ = some (.int .i64 tail2)) ∧ (convert 22 9 (.slice A 128 c)).run Try.prog W = .ok (.string (strOfNums L1)) W ∧ (convert 22 9 (.slice A2 n2 c2)).run Try.prog W = .ok (.string (strOfNums L2)) W)) (by kernel_rfl) ?_ (fun hHeld => ?_)
  · exact ⟨⟨B.cell 0, B.cell 1, B.cell 2, B.cell 3⟩, ⟨G.cell 0, G.cell 1, G.cell 2, G.cell 3⟩, I1.text (P := Try.prog) (c := c) Try.underlying22 Try.underlying5 Try.underlying9, I2.text (P := Try.prog) (c := c2) Try.underlying22 Try.underlying5 Try.underlying9⟩
  refine wpAnyH_take (i := 0) (v := ?_) rfl (by kernel_rfl) (by kernel_rfl) (by kernel_rfl) (fun _ _ _ h => h) (Or.inl ⟨by rfl, ?_⟩) hHeld ?_
  rotate_left
  · (intro w hSw; (try dsimp only at hSw); go_simp; try with_reducible rfl)
  try simp only [Act.put, List.getElem_toArray, List.getElem_cons_zero, List.setIfInBounds_toArray, List.set_cons_zero, List.set_cons_succ]
  refine wpAnyH_take (i := 1) (v := ?_) rfl (by kernel_rfl) (by kernel_rfl) (by kernel_rfl) (fun _ _ _ h => h) (Or.inl ⟨by rfl, ?_⟩) hHeld ?_
  rotate_left
  · (intro w hSw; (try dsimp only at hSw); go_simp; try with_reducible rfl)
  try simp only [Act.put, List.getElem_toArray, List.getElem_cons_zero, List.getElem_cons_succ, List.setIfInBounds_toArray, List.set_cons_zero, List.set_cons_succ]
  refine wpAnyH_take (i := 2) (v := ?_) rfl (by kernel_rfl) (by kernel_rfl) (by kernel_rfl) (fun _ _ _ h => h) (Or.inl ⟨by rfl, ?_⟩) hHeld ?_
  rotate_left
  · (intro w hSw; (try dsimp only at hSw); go_simp; try with_reducible rfl)
  try simp only [Act.put, List.getElem_toArray, List.getElem_cons_zero, List.getElem_cons_succ, List.setIfInBounds_toArray, List.set_cons_zero, List.set_cons_succ]
  refine wpAnyH_take (i := 3) (v := ?_) rfl (by kernel_rfl) (by kernel_rfl) (by kernel_rfl) (fun _ _ _ h => h) (Or.inl ⟨by rfl, ?_⟩) hHeld ?_
  rotate_left
  · (intro w hSw; (try dsimp only at hSw); go_simp; try with_reducible rfl)
  try simp only [Act.put, List.getElem_toArray, List.getElem_cons_zero, List.getElem_cons_succ, List.setIfInBounds_toArray, List.set_cons_zero, List.set_cons_succ]
  refine wpAnyH_take (i := 4) (v := ?_) rfl (by kernel_rfl) (by kernel_rfl) (by kernel_rfl) (fun _ _ _ h => h) (Or.inl ⟨by rfl, ?_⟩) hHeld ?_
  rotate_left
  · (intro w hSw; (try dsimp only at hSw); go_simp; try with_reducible rfl)
  try simp only [Act.put, List.getElem_toArray, List.getElem_cons_zero, List.getElem_cons_succ, List.setIfInBounds_toArray, List.set_cons_zero, List.set_cons_succ]
  refine wpAnyH_take (i := 5) (v := ?_) rfl (by kernel_rfl) (by kernel_rfl) (by kernel_rfl) (fun _ _ _ h => h) (Or.inl ⟨by rfl, ?_⟩) hHeld ?_
  rotate_left
  · (intro w hSw; (try dsimp only at hSw); go_simp; try with_reducible rfl)
  try simp only [Act.put, List.getElem_toArray, List.getElem_cons_zero, List.getElem_cons_succ, List.setIfInBounds_toArray, List.set_cons_zero, List.set_cons_succ]
  refine wpAnyH_take (i := 6) (v := ?_) rfl (by kernel_rfl) (by kernel_rfl) (by kernel_rfl) (fun _ _ _ h => h) (Or.inl ⟨by rfl, ?_⟩) hHeld ?_
  rotate_left
  · (intro w hSw; (try dsimp only at hSw); go_simp; try with_reducible rfl)
  try simp only [Act.put, List.getElem_toArray, List.getElem_cons_zero, List.getElem_cons_succ, List.setIfInBounds_toArray, List.set_cons_zero, List.set_cons_succ]
  refine wpAnyH_take (i := 7) (v := ?_) rfl (by kernel_rfl) (by kernel_rfl) (by kernel_rfl) (fun _ _ _ h => h) (Or.inl ⟨by rfl, ?_⟩) hHeld ?_
  rotate_left
  · (intro w hSw; (try dsimp only at hSw); go_simp; try with_reducible rfl)
  try simp only [Act.put, List.getElem_toArray, List.getElem_cons_zero, List.getElem_cons_succ, List.setIfInBounds_toArray, List.set_cons_zero, List.set_cons_succ]
  refine wpAnyH_take (i := 8) (v := ?_) rfl (by kernel_rfl) (by kernel_rfl) (by kernel_rfl) (fun _ _ _ h => h) (Or.inl ⟨by rfl, ?_⟩) hHeld ?_
  rotate_left
  · (intro w hSw; (try dsimp only at hSw); go_simp; try with_reducible rfl)
  try simp only [Act.put, List.getElem_toArray, List.getElem_cons_zero, List.getElem_cons_succ, List.setIfInBounds_toArray, List.set_cons_zero, List.set_cons_succ]
  refine wpAnyH_take (i := 9) (v := ?_) rfl (by kernel_rfl) (by kernel_rfl) (by kernel_rfl) (fun _ _ _ h => h) (Or.inl ⟨by rfl, ?_⟩) hHeld ?_
  rotate_left
  · (intro w hSw; (try dsimp only at hSw); go_simp; try with_reducible rfl)
  try simp only [Act.put, List.getElem_toArray, List.getElem_cons_zero, List.getElem_cons_succ, List.setIfInBounds_toArray, List.set_cons_zero, List.set_cons_succ]
  refine wpAnyH_take (i := 10) (v := ?_) rfl (by kernel_rfl) (by kernel_rfl) (by kernel_rfl) (fun _ _ _ h => h) (Or.inl ⟨by rfl, ?_⟩) hHeld ?_
  rotate_left
  · (intro w hSw; (try dsimp only at hSw); go_simp; try with_reducible rfl)
  try simp only [Act.put, List.getElem_toArray, List.getElem_cons_zero, List.getElem_cons_succ, List.setIfInBounds_toArray, List.set_cons_zero, List.set_cons_succ]
  refine wpAnyH_take (i := 11) (v := ?_) rfl (by kernel_rfl) (by kernel_rfl) (by kernel_rfl) (fun _ _ _ h => h) (Or.inl ⟨by rfl, ?_⟩) hHeld ?_
  rotate_left
  · (intro w hSw; (try dsimp only at hSw); go_simp; try with_reducible rfl)
  try simp only [Act.put, List.getElem_toArray, List.getElem_cons_zero, List.getElem_cons_succ, List.setIfInBounds_toArray, List.set_cons_zero, List.set_cons_succ]
  refine wpAnyH_take (i := 12) (v := ?_) rfl (by kernel_rfl) (by kernel_rfl) (by kernel_rfl) (fun _ _ _ h => h) (Or.inl ⟨by rfl, ?_⟩) hHeld ?_
  rotate_left
  · (intro w hSw; (try dsimp only at hSw); go_simp; try with_reducible rfl)
  try simp only [Act.put, List.getElem_toArray, List.getElem_cons_zero, List.getElem_cons_succ, List.setIfInBounds_toArray, List.set_cons_zero, List.set_cons_succ]
  refine wpAnyH_take (i := 13) (v := ?_) rfl (by kernel_rfl) (by kernel_rfl) (by kernel_rfl) (fun _ _ _ h => h) (Or.inl ⟨by rfl, ?_⟩) hHeld ?_
  rotate_left
  · (intro w hSw; (try dsimp only at hSw); go_simp; try with_reducible rfl)
  try simp only [Act.put, List.getElem_toArray, List.getElem_cons_zero, List.getElem_cons_succ, List.setIfInBounds_toArray, List.set_cons_zero, List.set_cons_succ]
  refine wpAnyH_take (i := 14) (v := ?_) rfl (by kernel_rfl) (by kernel_rfl) (by kernel_rfl) (fun _ _ _ h => h) (Or.inl ⟨by rfl, ?_⟩) hHeld ?_
  rotate_left
  · (intro w hSw; (try dsimp only at hSw); go_simp; try with_reducible rfl)
  try simp only [Act.put, List.getElem_toArray, List.getElem_cons_zero, List.getElem_cons_succ, List.setIfInBounds_toArray, List.set_cons_zero, List.set_cons_succ]
  refine wpAnyH_take (i := 15) (v := ?_) rfl (by kernel_rfl) (by kernel_rfl) (by kernel_rfl) (fun _ _ _ h => h) (Or.inl ⟨by rfl, ?_⟩) hHeld ?_
  rotate_left
  · (intro w hSw; (try dsimp only at hSw); go_simp; try with_reducible rfl)
  try simp only [Act.put, List.getElem_toArray, List.getElem_cons_zero, List.getElem_cons_succ, List.setIfInBounds_toArray, List.set_cons_zero, List.set_cons_succ]
  refine wpAnyH_take (i := 16) (v := ?_) rfl (by kernel_rfl) (by kernel_rfl) (by kernel_rfl) (fun _ _ _ h => h) (Or.inl ⟨by rfl, ?_⟩) hHeld ?_
  rotate_left
  · (intro w hSw; (try dsimp only at hSw); go_simp; try with_reducible rfl)
  try simp only [Act.put, List.getElem_toArray, List.getElem_cons_zero, List.getElem_cons_succ, List.setIfInBounds_toArray, List.set_cons_zero, List.set_cons_succ]
  refine wpAnyH_done (by kernel_rfl) ?_ _
  go_upto_region 8 with (first
    | (go_at_call 17; (with_reducible refine (kl _ _ _ I1).mono ?_); rintro e w4 ⟨rfl, hb4⟩; replace hb := hb.trans (hb4.mono hb.size); replace H := H.below hb4 (Nat.le_refl _); clear hb4)
    | refine wpList_store_row rfl 43 _ _ rfl w4.heap.size cL rfl rfl _ _ (BlkAt.new w4 _ _) (by rw [hi10, hcL]) (by rw [hcL]; rfl) hL1 ?_)
  have X : BlkAt ((w4.alloc (.cells #[.int .u32 0, .int .u32 0, .int .i64 0, .int .i64 0, .int .i64 0, .int .i64 0, .int .i64 0, .int .i64 0, .int .i64 0, .bool false] 43)).setRow w4.heap.size cL) w4.heap.size cL 43 := setRow_heap (w4.alloc (.cells #[.int .u32 0, .int .u32 0, .int .i64 0, .int .i64 0, .int .i64 0, .int .i64 0, .int .i64 0, .int .i64 0, .int .i64 0, .bool false] 43)) w4.heap.size _ cL 43 (0, 0) (BlkAt.new w4 _ _)
  have hq : Below w4.heap.size w4 ((w4.alloc (.cells #[.int .u32 0, .int .u32 0, .int .i64 0, .int .i64 0, .int .i64 0, .int .i64 0, .int .i64 0, .int .i64 0, .int .i64 0, .bool false] 43)).setRow w4.heap.size cL) := below_setRow ((Below.refl _ _).alloc (Nat.le_refl _) _) (Nat.le_refl _) _
  replace hb := hb.trans (hq.mono hb.size)
  replace H := H.below hq (Nat.le_refl _)
  clear hq
  generalize World.setRow _ _ _ = v4 at *
  generalize w4.heap.size = t at *
  go_upto_region 11 with (first
    | refine wpList_load_rowG (by rfl) 43 _ rfl (w.heap.size + 1 + 1) rfl _ _ _ _ H Try.underlying43 (by rw [hi10]; rw [hch]) ?_
    | (go_at_call 18; (with_reducible refine (km _).mono ?_); rintro e w5 ⟨A3, c3, rfl, hc3, I3, hb5⟩; replace hb := hb.trans (hb5.mono hb.size); replace H := H.below hb5 (Nat.le_refl _); clear hb5))
  rcases h3 with ⟨rfl, ks⟩ | rfl
  · go_wp2_with (first
      | (go_at_call 11; (with_reducible refine (ks _ _ _ I3).mono ?_); rintro e w6 ⟨rfl, hb6⟩; replace hb := hb.trans (hb6.mono hb.size); clear hb6)
      | refine wpList_store_row rfl 28 _ _ rfl w6.heap.size cz rfl rfl _ _ (BlkAt.new w6 _ _) (by rw [hi4, hcz]) (by rw [hcz]; rfl) hz1 ?_)
    go_ret
    exact ⟨rfl, below_setRow (hb.alloc hb.size _) hb.size _⟩
  · go_wp2
    go_ret
    exact ⟨rfl, hb⟩
theorem superUnlike_walk (w : World) (s : Sup) (hw : WideS s) (t : Sup) (ht : WideS t) (l : Lab) (hl : WideL l) : Calls Try.prog 7 #[supV s, supV t, labV l] w fun e w' => e = .returned (.bool true) ∧ Below w.heap.size w w' := by
  have ka := fun W => alive10_calls W
  have kw := fun W => supWrite_any hw W
  have kv := fun W => supWrite_any ht W
  have km := fun W => labWrite_any hl W
  have oneL : ∀ m : Lab, (labA m).size = 10 ∧ (labA m).all (·.oneCell') = true := fun m => ⟨rfl, by simp [labA, Value.oneCell']⟩
  have oneS : ∀ m : Sup, (supA m).size = 4 ∧ (supA m).all (·.oneCell') = true := fun m => ⟨rfl, by simp [supA, Value.oneCell']⟩
  have h3 : chkL l = 0 ∧ (∀ A c W, Ints .u8 W A (outN l) (outL l) → Calls Try.prog 11 #[.slice A (outN l) c] W fun e w' => e = .returned (.tuple #[.agg (supA zeroS), .int .i64 90]) ∧ Below W.heap.size W w') ∨ chkL l = 8 := by
    rcases chk_cases l with ⟨hM, e1, e2, e3⟩ | ⟨hM, e1, e2, e3⟩
    · refine .inl ⟨e1, ?_⟩
      rw [e2, e3]
      intro A c W h
      have := supRead A 128 c (blockL l) W h (.inr rfl)
      have hn := label_no_super l
      rw [pad_whole (block_len l)] at this
      unfold readS readES at this
      rw [if_neg hn, if_neg hn] at this
      exact this
    · exact .inr e1
  have kl : ∀ A c W, Ints .u8 W A 128 (blockS s) → Calls Try.prog 17 #[.slice A 128 c] W fun e w' => e = .returned (.tuple #[.agg (labA zeroL), .int .i64 90]) ∧ Below W.heap.size W w' := by
    intro A c W h
    have := labRead A 128 c (blockS s) W h (.inr rfl)
    have hn := super_no_label s
    rw [pad_whole (blockS_len s)] at this
    unfold readL readE at this
    rw [if_neg hn, if_neg hn] at this
    exact this
  rcases chkS_cases s with ⟨hM, e1, e2, e3⟩ | ⟨hM, e1, e2, e3⟩
  · rw [e1, e2, e3] at kw
    rcases chkS_cases t with ⟨hN, f1, f2, f3⟩ | ⟨hN, f1, f2, f3⟩
    · rw [f1, f2, f3] at kv
      have hq : decide (blockS s = blockS t) = true ↔ s = t := by
        rw [decide_eq_true_iff]
        exact ⟨blockS_inj hw ht hM hN, fun e => by rw [e]⟩
      exact unlike_00 _ _ _ _ _ _ _ _ (labA l) (labA zeroL) (supA zeroS) (oneL l).1 (oneL _).1 (oneL _).2 (oneS _).1 (oneS _).2 (blockS s) (blockS t) (outL l) 128 (outN l) (chkL l) ka kw kv (decide (blockS s = blockS t)) (str_eq (blockS_bytes s) (blockS_bytes t)) (fun W => supV_eql s t _ hq W) km h3 kl w
    · rw [f1, f2, f3] at kv
      exact unlike_08 _ _ _ _ _ _ _ _ (labA l) (labA zeroL) (supA zeroS) (oneL l).1 (oneL _).1 (oneL _).2 (oneS _).1 (oneS _).2 (blockS s) [] (outL l) 0 (outN l) (chkL l) ka kw kv km h3 kl w
  · rw [e1, e2, e3] at kw
    exact unlike_8 _ _ _ _ _ _ _ _ (labA l) (labA zeroL) (supA zeroS) (oneL l).1 (oneL _).1 (oneL _).2 (oneS _).1 (oneS _).2 [] (outS t) (outL l) (outSN t) (outN l) (chkS t) (chkL l) ka kw kv km h3 w


namespace superUnlike
set_option linter.unusedVariables false
set_option maxRecDepth 100000 in
theorem lifted (os : Os) (started : os.Started) (H : Type) (enc : TypeId × Value → H) :
    ReturnsInHanded {} Try.checked os 7 .any (Rows.superUnlikeSpec.pre6 enc Try.prog Try.f7 Rows.superUnlikeRow.domain false) (Rows.superUnlikeSpec.post enc Try.prog Try.f7 false true false false) := by
  refine returnsInHanded_of_change (C := Try.checked) Try.own started (by kernel_rfl) Try.func7
    (ChangeSpec.witness6 (enc := enc) (C := Try.checked) false ⟨#[], #[.agg #[.int .u32 0, .int .u32 0, .int .u32 0, .int .i64 0], .agg #[.int .u32 0, .int .u32 0, .int .u32 0, .int .i64 0], .agg #[.int .u32 0, .int .u32 0, .int .i64 0, .int .i64 0, .int .i64 0, .int .i64 0, .int .i64 0, .int .i64 0, .int .i64 0, .bool false]], []⟩ 8 (by kernel_rfl) (by kernel_rfl) (by kernel_rfl) (by kernel_rfl)) ?_
  intro W base args ds gs before hval0 hW hcnd _
  have hval : ∀ (j : Nat) t v, Try.f7.params[j]? = some t → args[j]? = some v → Value.okWide Try.prog W .any base t v := hval0
  have hW' := hW
  obtain ⟨p, q, hA0, hV, rfl, hfz, hnd⟩ := hW
  have hA : DataW.TrodAll enc Try.prog W 0 (fun _ => true) true Try.f7.params.toList args.toList ds p := hA0
  rw [Try.params7] at hA hval
  obtain ⟨v0, vs0, d0, ds0, p0, q0, hargs, rfl, rfl, h0, r0⟩ := trodAll_cons hA
  obtain ⟨v1, vs1, d1, ds1, p1, q1, rfl, rfl, rfl, h1, r1⟩ := trodAll_cons r0
  obtain ⟨v2, vs2, d2, ds2, p2, q2, rfl, rfl, rfl, h2, r2⟩ := trodAll_cons r1
  obtain ⟨rfl, rfl, rfl⟩ := trodAll_nil r2
  obtain rfl : args = #[v0, v1, v2] := by cases args; simp_all
  obtain ⟨rfl, rfl⟩ := trodVars_none hV
  have k0 := h0
  have lt0 : ∀ x ∈ p0, x.block < W.heap.size := by obtain ⟨m, hm⟩ := k0; exact DataW.trod_lt m _ _ _ hm
  obtain ⟨z0, rfl, w0⟩ := super_in (hval 0 28 v0 rfl rfl) h0
  have k1 := h1
  have lt1 : ∀ x ∈ p1, x.block < W.heap.size := by obtain ⟨m, hm⟩ := k1; exact DataW.trod_lt m _ _ _ hm
  obtain ⟨z1, rfl, w1⟩ := super_in (hval 1 28 v1 rfl rfl) h1
  have k2 := h2
  have lt2 : ∀ x ∈ p2, x.block < W.heap.size := by obtain ⟨m, hm⟩ := k2; exact DataW.trod_lt m _ _ _ hm
  obtain ⟨z2, rfl, w2⟩ := label_in (hval 2 43 v2 rfl rfl) h2
  clear hA0 hval0
  refine (superUnlike_walk W z0 w0 z1 w1 z2 w2).mono fun e W' ⟨he, bel⟩ => ?_
  subst he
  exact ⟨_, rfl, _, _, _, [], _, [], hW', trodAll_mk1 (shut_bool Try.underlying4 _), (trodAll_cons_mk (Below.trod Try.laidOut (by kernel_rfl) (of_decide_eq_true (by kernel_rfl)) k0 bel lt0) (trodAll_cons_mk (Below.trod Try.laidOut (by kernel_rfl) (of_decide_eq_true (by kernel_rfl)) k1 bel lt1) (trodAll_cons_mk (Below.trod Try.laidOut (by kernel_rfl) (of_decide_eq_true (by kernel_rfl)) k2 bel lt2) trodAll_mk0))), rfl, bel.frame _, fun h => by cases h⟩

theorem holds : Rows.SuperUnlikeSaid :=
  OpenClaim.holds_of_wide 7 Try.f7 rfl rfl rfl rfl rfl rfl rfl ⟨rfl, rfl, rfl, rfl, rfl⟩ rfl rfl rfl rfl rfl (by kernel_rfl) Try.func7 (by kernel_rfl)
    (of_decide_eq_true (by kernel_rfl)) (by unfold Func.isWrapper; first | (rw [if_pos (by decide +kernel)]; kernel_rfl) | (rw [if_neg (by decide +kernel)]; exact ⟨rfl, rfl⟩))
    (fun os started H enc _ => lifted os started H enc)
end superUnlike
end Go.Proofs.Ytcngonedcnddlaa
