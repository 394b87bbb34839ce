/- The walks of package label: Write, Read. -/
import Derived.Test.YtcngonedcnddlaaLabelWalk
import Derived.Test.YtcngonedcnddlaaLabelDraft
import Derived.Test.YtcngonedcnddlaaPackWalk
import Derived.Test.YtcngonedcnddlaaPolyWalk
import Derived.Deep.RegionHeld3
import Derived.Deep.Cut
namespace Go.Proofs.Ytcngonedcnddlaa
open Go.RowKit PolyM PackM ShapeM SealM LabelM
set_option linter.unusedVariables false

def offsL : List Nat := [10, 11, 12, 2, 3, 4, 5, 6, 13, 8, 14]
def fnsL : List Nat := [40, 41, 42, 43, 44, 45, 46, 47, 48, 49, 50]
theorem upto11 {k : Nat} (h : k < 11) : k = 0 ∨ k = 1 ∨ k = 2 ∨ k = 3 ∨ k = 4 ∨ k = 5 ∨ k = 6 ∨ k = 7 ∨ k = 8 ∨ k = 9 ∨ k = 10 := by omega
theorem kept_any {k : Nat} (hk : k < 11) (d P : Nat) (w : World) (h : w.cell? ⟨d, 0, none⟩ = some (.pointer (some ⟨P, 0, none⟩))) : Calls Try.prog (fnsL.getD k 0) #[.pointer (some ⟨d, 0, none⟩)] w fun e w' => e = .returned (.pointer (some ⟨P, offsL.getD k 0, none⟩)) ∧ w = w' := by
  rcases upto11 hk with rfl | rfl | rfl | rfl | rfl | rfl | rfl | rfl | rfl | rfl | rfl
  · exact kept0 d P w h
  · exact kept1 d P w h
  · exact kept2 d P w h
  · exact kept3 d P w h
  · exact kept4 d P w h
  · exact kept5 d P w h
  · exact kept6 d P w h
  · exact kept7 d P w h
  · exact kept8 d P w h
  · exact kept9 d P w h
  · exact kept10 d P w h
theorem num_at {W : World} {g d : Nat} (h : CellsAt W g (numCells d)) {k : Nat} (hk : k < 11) : W.cell? ⟨g, k * 3, none⟩ = some (.int .i64 ((rowsL.getD k (0, 0)).1 : Nat)) ∧ W.cell? ⟨g, k * 3 + 1, none⟩ = some (.int .i64 ((rowsL.getD k (0, 0)).2 : Nat)) ∧ W.cell? ⟨g, k * 3 + 2, none⟩ = some (.func (.func (fnsL.getD k 0)) #[] #[.pointer (some ⟨d, 0, none⟩)]) := by
  rcases upto11 hk with rfl | rfl | rfl | rfl | rfl | rfl | rfl | rfl | rfl | rfl | rfl
  · exact ⟨h.at_ 0 _ rfl, h.at_ 1 _ rfl, h.at_ 2 _ rfl⟩
  · exact ⟨h.at_ 3 _ rfl, h.at_ 4 _ rfl, h.at_ 5 _ rfl⟩
  · exact ⟨h.at_ 6 _ rfl, h.at_ 7 _ rfl, h.at_ 8 _ rfl⟩
  · exact ⟨h.at_ 9 _ rfl, h.at_ 10 _ rfl, h.at_ 11 _ rfl⟩
  · exact ⟨h.at_ 12 _ rfl, h.at_ 13 _ rfl, h.at_ 14 _ rfl⟩
  · exact ⟨h.at_ 15 _ rfl, h.at_ 16 _ rfl, h.at_ 17 _ rfl⟩
  · exact ⟨h.at_ 18 _ rfl, h.at_ 19 _ rfl, h.at_ 20 _ rfl⟩
  · exact ⟨h.at_ 21 _ rfl, h.at_ 22 _ rfl, h.at_ 23 _ rfl⟩
  · exact ⟨h.at_ 24 _ rfl, h.at_ 25 _ rfl, h.at_ 26 _ rfl⟩
  · exact ⟨h.at_ 27 _ rfl, h.at_ 28 _ rfl, h.at_ 29 _ rfl⟩
  · exact ⟨h.at_ 30 _ rfl, h.at_ 31 _ rfl, h.at_ 32 _ rfl⟩
theorem enter_any {k : Nat} (hk : k < 11) (args : Array Value) (w : World) : (callFunc (fnsL.getD k 0) args).run Try.prog w = .ok (.enter (fnsL.getD k 0) args) w := by
  rcases upto11 hk with rfl | rfl | rfl | rfl | rfl | rfl | rfl | rfl | rfl | rfl | rfl <;> kernel_rfl
set_option maxRecDepth 100000 in
set_option maxHeartbeats 4000000 in
theorem write_gen (cs ds : Array Value) (vs : List Int) (hcs : cs.size = 10) (hds : ds.size = 15) (hd1 : ds.all (·.oneCell') = true)
    (hvs : ∀ k, k < 11 → ds[offsL.getD k 0]? = some (.int .i64 (vs.getD k 0)) ∧ 0 ≤ vs.getD k 0 ∧ vs.getD k 0 < 256 ^ (rowsL.getD k (0, 0)).2)
    (kc : ∀ W, Calls Try.prog 31 #[.agg cs] W fun e w' => e = .returned (.int .i64 0) ∧ Below W.heap.size W w')
    (kd : ∀ W, Calls Try.prog 32 #[.agg cs] W fun e w' => e = .returned (.agg ds) ∧ Below W.heap.size W w') (w : World) : Calls Try.prog 18 #[.agg cs] w (PutIs w (sealL (chain rowsL vs 11))) := by
  have B := BlkAt.new w cs 43
  have hb : Below w.heap.size w (w.alloc (.cells cs 43 (0, 0))) := (Below.refl _ _).alloc (Nat.le_refl _) _
  have hi10 := (zero_of_info label_size).2
  have hi15 := (zero_of_info draft_size).2
  go_enter Try.func18, Try.ntmps18
  go_upto_region 4 with (first
    | refine wpList_load_row rfl 43 _ rfl w.heap.size rfl _ _ _ _ B Try.underlying43 rfl (by rw [hi10, hcs]) ?_
    | (go_at_call 31; refine (kc _).mono ?_; rintro e w2 ⟨rfl, hb2⟩; replace hb := hb.trans (hb2.mono hb.size); replace B := B.below hb2 (Nat.le_refl _); clear hb2))
  go_upto_region 5 with (first
    | refine wpList_load_row rfl 43 _ rfl w.heap.size rfl _ _ _ _ B Try.underlying43 rfl (by rw [hi10, hcs]) ?_
    | (go_at_call 32; refine (kd _).mono ?_; rintro e w3 ⟨rfl, hb2⟩; replace hb := hb.trans (hb2.mono hb.size); replace B := B.below hb2 (Nat.le_refl _); clear hb2)
    | refine wpList_store_row rfl 67 _ _ rfl w3.heap.size ds rfl rfl _ _ (BlkAt.new w3 _ _) (by rw [hi15, hds]) (by rw [hds]; rfl) hd1 ?_)
  have D : BlkAt _ w3.heap.size ds 67 := setRow_heap (w3.alloc (.cells #[.int .u32 0, .int .u32 0, .int .i64 0, .int .i64 0, .int .i64 0, .int .i64 0, .int .i64 0, .int .i64 0, .int .i64 0, .bool false, .int .i64 0, .int .i64 0, .int .i64 0, .int .i64 0, .int .i64 0] 67)) w3.heap.size _ ds 67 (0, 0) (BlkAt.new w3 _ _)
  have hb1 : Below w.heap.size w ((w3.alloc (.cells #[.int .u32 0, .int .u32 0, .int .i64 0, .int .i64 0, .int .i64 0, .int .i64 0, .int .i64 0, .int .i64 0, .int .i64 0, .bool false, .int .i64 0, .int .i64 0, .int .i64 0, .int .i64 0, .int .i64 0] 67)).setRow w3.heap.size ds) := below_setRow (hb.alloc hb.size _) hb.size _
  clear B hb
  generalize World.setRow _ _ _ = v1 at *
  generalize w3.heap.size = P at *
  go_wp2_with (go_at_call 29; refine (numbers_calls P _).mono ?_; rintro e w4 ⟨g, d, hg, hdd, rfl, hN, hK, hb2⟩)
  have hD4 := D.below hb2 (Nat.le_refl _)
  have hb4 := hb1.trans (hb2.mono hb1.size)
  clear hb1 hb2 D
  go_loopw [4, 6, 18] (fun s4 s6 s18 wr => ∃ (k : Nat) (A : Option Addr) (n c : Nat), k ≤ 11 ∧ s18 = .int .i64 k ∧ s4 = .int .i64 0 ∧ s6 = .slice A n c ∧ n ≤ c ∧ (n = 0 ∨ n = 128) ∧ (k = 0 ∨ n = 128) ∧ Ints .u8 wr A n (chain rowsL vs k) ∧ Below w4.heap.size w4 wr) (fun _ _ i _ => 11 - (intOf i).toNat)
  case atStart => exact ⟨0, none, 0, 0, by omega, rfl, rfl, rfl, by omega, by omega, by omega, ⟨rfl, by omega, by simp [chain], .inl rfl⟩, Below.refl _ _⟩
  case round =>
    obtain ⟨k, A, n, c, hk, rfl, rfl, rfl, hnc, hn, hkn, hI, hbk⟩ := hrel
    by_cases hk11 : k < 11
    · obtain ⟨x0, x1, x2⟩ := num_at (hN.below hbk (Nat.le_refl _)) hk11
      have y0 : wr.cell? ⟨P, offsL.getD k 0, none⟩ = some (.int .i64 (vs.getD k 0)) := by rw [(hD4.below hbk (Nat.le_refl _)).cell]; exact (hvs k hk11).1
      have z0 : wr.cell? ⟨d, 0, none⟩ = some (.pointer (some ⟨P, 0, none⟩)) := (hK.below hbk (Nat.le_refl _)).at_ 0 _ rfl
      have lay := rowsL_lay.2 k hk11
      have fit := (hvs k hk11).2
      have kk := fun W h => kept_any hk11 d P W h
      have hcf := fun (W : World) => enter_any hk11 #[.pointer (some ⟨d, 0, none⟩)] W
      have F : Hid (chain rowsL vs (k + 1) = putL (chain rowsL vs k) (rowsL.getD k (0, 0)).1 (rowsL.getD k (0, 0)).2 (vs.getD k 0)) := rfl
      have dlt := (hK.below hbk (Nat.le_refl _)).lt
      have plt := (hD4.below hbk (Nat.le_refl _)).lt
      have glt := (hN.below hbk (Nat.le_refl _)).lt
      generalize (rowsL.getD k (0, 0)).1 = a at *
      generalize (rowsL.getD k (0, 0)).2 = s at *
      generalize fnsL.getD k 0 = N at *
      generalize offsL.getD k 0 = off at *
      generalize vs.getD k 0 = v at *
      clear hvs
      go_upto_region 9 with fail
      have X := (CellsAt.new wr [.int .i64 (a : Nat), .int .i64 (s : Nat), .func (.func N) #[] #[.pointer (some ⟨d, 0, none⟩)]] 72).drew
      have hb3 : Below wr.heap.size wr (wr.alloc (.cells #[.int .i64 (a : Nat), .int .i64 (s : Nat), .func (.func N) #[] #[.pointer (some ⟨d, 0, none⟩)]] 72)).drew := ((Below.refl _ _).alloc (Nat.le_refl _) _).drew
      obtain ⟨q0, q1, q2⟩ := X.all3
      have hI3 := hI.below hb3 (Nat.le_refl _)
      have y3 : (wr.alloc (.cells #[.int .i64 (a : Nat), .int .i64 (s : Nat), .func (.func N) #[] #[.pointer (some ⟨d, 0, none⟩)]] 72)).drew.cell? ⟨P, off, none⟩ = some (.int .i64 v) := by rw [hb3.cell (p := ⟨P, off, none⟩) plt]; exact y0
      have z3 : (wr.alloc (.cells #[.int .i64 (a : Nat), .int .i64 (s : Nat), .func (.func N) #[] #[.pointer (some ⟨d, 0, none⟩)]] 72)).drew.cell? ⟨d, 0, none⟩ = some (.pointer (some ⟨P, 0, none⟩)) := by rw [hb3.cell (p := ⟨d, 0, none⟩) dlt]; exact z0
      have xlt := X.lt
      have plt3 := Nat.lt_of_lt_of_le plt hb3.size
      have dlt3 := Nat.lt_of_lt_of_le dlt hb3.size
      have hbk3 := hbk.trans (hb3.mono hbk.size)
      clear X hb3 y0 z0 hI x0 x1 x2 plt dlt glt hbk hN hK hD4
      generalize World.alloc _ _ = v2 at *
      generalize wr.heap.size = q at *
      refine wp_region_held_drew (S := (fun W => W.cell? ⟨q, 0, none⟩ = some (.int .i64 (a : Nat)) ∧ W.cell? ⟨q, 1, none⟩ = some (.int .i64 (s : Nat)) ∧ W.cell? ⟨q, 2, none⟩ = some (.func (.func N) #[] #[.pointer (some ⟨d, 0, none⟩)]) ∧ W.cell? ⟨P, off, none⟩ = some (.int .i64 v) ∧ W.cell? ⟨d, 0, none⟩ = some (.pointer (some ⟨P, 0, none⟩)))) (by kernel_rfl) ?_ (fun hHeld => ?_)
      · exact ⟨q0, q1, q2, y3, z3⟩
      refine wpAnyH_take (i := 0) (v := ?_) rfl (by kernel_rfl) (by kernel_rfl) (by kernel_rfl) (fun _ _ _ h => h) (Or.inl ⟨by rfl, ?_⟩) hHeld ?_
      rotate_left
      · (intro w hSw; (try dsimp only at hSw); go_simp; try with_reducible rfl)
      try simp only [Act.put, List.getElem_toArray, List.getElem_cons_zero, List.setIfInBounds_toArray, List.set_cons_zero, List.set_cons_succ]
      refine wpAnyH_take (i := 1) (v := ?_) rfl (by kernel_rfl) (by kernel_rfl) (by kernel_rfl) (fun _ _ _ h => h) (Or.inl ⟨by rfl, ?_⟩) hHeld ?_
      rotate_left
      · (intro w hSw; (try dsimp only at hSw); go_simp; try with_reducible rfl)
      try simp only [Act.put, List.getElem_toArray, List.getElem_cons_zero, List.getElem_cons_succ, List.setIfInBounds_toArray, List.set_cons_zero, List.set_cons_succ]
      refine wpAnyH_take (i := 2) (v := ?_) rfl (by kernel_rfl) (by kernel_rfl) (by kernel_rfl) (fun _ _ _ h => h) (Or.inl ⟨by rfl, ?_⟩) hHeld ?_
      rotate_left
      · (intro w hSw; (try dsimp only at hSw); go_simp; try with_reducible rfl)
      try simp only [Act.put, List.getElem_toArray, List.getElem_cons_zero, List.getElem_cons_succ, List.setIfInBounds_toArray, List.set_cons_zero, List.set_cons_succ]
      refine wpAnyH_take (i := 3) (v := ?_) rfl (by kernel_rfl) (by kernel_rfl) (by kernel_rfl) (fun _ _ _ h => h) (Or.inl ⟨by rfl, ?_⟩) hHeld ?_
      rotate_left
      · (intro w hSw; (try dsimp only at hSw); go_simp; try with_reducible rfl)
      try simp only [Act.put, List.getElem_toArray, List.getElem_cons_zero, List.getElem_cons_succ, List.setIfInBounds_toArray, List.set_cons_zero, List.set_cons_succ]
      refine wpAnyH_take (i := 4) (v := ?_) rfl (by kernel_rfl) (by kernel_rfl) (by kernel_rfl) (fun _ _ _ h => h) (Or.inl ⟨by rfl, ?_⟩) hHeld ?_
      rotate_left
      · (intro w hSw; (try dsimp only at hSw); go_simp; try with_reducible rfl)
      try simp only [Act.put, List.getElem_toArray, List.getElem_cons_zero, List.getElem_cons_succ, List.setIfInBounds_toArray, List.set_cons_zero, List.set_cons_succ]
      refine wpAnyH_take (i := 5) (v := ?_) rfl (by kernel_rfl) (by kernel_rfl) (by kernel_rfl) (fun _ _ _ h => h) (Or.inl ⟨by rfl, ?_⟩) hHeld ?_
      rotate_left
      · (intro w hSw; (try dsimp only at hSw); go_simp; try with_reducible rfl)
      try simp only [Act.put, List.getElem_toArray, List.getElem_cons_zero, List.getElem_cons_succ, List.setIfInBounds_toArray, List.set_cons_zero, List.set_cons_succ]
      refine wpAnyH_take (i := 6) (v := ?_) rfl (by kernel_rfl) (by kernel_rfl) (by kernel_rfl) (fun _ _ _ h => h) (Or.inl ⟨by rfl, ?_⟩) hHeld ?_
      rotate_left
      · (intro w hSw; (try dsimp only at hSw); go_simp; try with_reducible rfl)
      try simp only [Act.put, List.getElem_toArray, List.getElem_cons_zero, List.getElem_cons_succ, List.setIfInBounds_toArray, List.set_cons_zero, List.set_cons_succ]
      refine wpAnyH_ready (rs := [7]) (by kernel_rfl) (by simp) ?_
      refine AllReadyH.cons rfl (fun K hK => ?_) AllReadyH.nil
      go_simp
      refine (kk _ z3).mono ?_
      rintro e w5 ⟨rfl, rfl⟩
      go_wp2_with fail
      refine hK.out _ _ ?_ (fun hHeld2 => ?_)
      · exact ⟨q0, q1, q2, y3, z3⟩
      clear hK K hHeld
      have hHeld := hHeld2
      clear hHeld2
      try simp only [Act.put, List.setIfInBounds_toArray, List.set_cons_zero, List.set_cons_succ]
      refine wpAnyH_take (i := 8) (v := ?_) rfl (by kernel_rfl) (by kernel_rfl) (by kernel_rfl) (fun _ _ _ h => h) (Or.inl ⟨by rfl, ?_⟩) hHeld ?_
      rotate_left
      · (intro w hSw; (try dsimp only at hSw); go_simp; try with_reducible rfl)
      try simp only [Act.put, List.getElem_toArray, List.getElem_cons_zero, List.getElem_cons_succ, List.setIfInBounds_toArray, List.set_cons_zero, List.set_cons_succ]
      refine wpAnyH_take (i := 9) (v := ?_) rfl (by kernel_rfl) (by kernel_rfl) (by kernel_rfl) (fun _ _ _ h => h) (Or.inl ⟨by rfl, ?_⟩) hHeld ?_
      rotate_left
      · (intro w hSw; (try dsimp only at hSw); go_simp; try with_reducible rfl)
      try simp only [Act.put, List.getElem_toArray, List.getElem_cons_zero, List.getElem_cons_succ, List.setIfInBounds_toArray, List.set_cons_zero, List.set_cons_succ]
      refine wpAnyH_ready (rs := [10]) (by kernel_rfl) (by simp) ?_
      refine AllReadyH.cons rfl (fun K hK => ?_) AllReadyH.nil
      go_simp
      refine (put_ok A n c _ a s v _ hI3 hn lay.1 lay.2.1 (by omega) fit.1 fit.2).mono ?_
      rintro e w6 ⟨g6, hg6, rfl, hc6, hb6⟩
      have q06 := (hb6.cell (p := ⟨q, 0, none⟩) xlt).trans q0
      have q16 := (hb6.cell (p := ⟨q, 1, none⟩) xlt).trans q1
      have q26 := (hb6.cell (p := ⟨q, 2, none⟩) xlt).trans q2
      have y6 := (hb6.cell (p := ⟨P, off, none⟩) plt3).trans y3
      have z6 := (hb6.cell (p := ⟨d, 0, none⟩) dlt3).trans z3
      have hb7 := hbk3.trans (hb6.mono hbk3.size)
      clear hb6 hbk3 q0 q1 q2 y3 z3 hI3 xlt plt3 dlt3
      go_wp2_with fail
      refine hK.out _ _ ?_ (fun hHeld2 => ?_)
      · exact ⟨q06, q16, q26, y6, z6⟩
      clear hK K hHeld
      have hHeld := hHeld2
      clear hHeld2
      try simp only [Act.put, List.setIfInBounds_toArray, List.set_cons_zero, List.set_cons_succ]
      refine wpAnyH_take (i := 11) (v := ?_) rfl (by kernel_rfl) (by kernel_rfl) (by kernel_rfl) (fun _ _ _ h => h) (Or.inl ⟨by rfl, ?_⟩) hHeld ?_
      rotate_left
      · (intro w hSw; (try dsimp only at hSw); go_simp; try with_reducible rfl)
      try simp only [Act.put, List.getElem_toArray, List.getElem_cons_zero, List.getElem_cons_succ, List.setIfInBounds_toArray, List.set_cons_zero, List.set_cons_succ]
      refine wpAnyH_take (i := 12) (v := ?_) rfl (by kernel_rfl) (by kernel_rfl) (by kernel_rfl) (fun _ _ _ h => h) (Or.inl ⟨by rfl, ?_⟩) hHeld ?_
      rotate_left
      · (intro w hSw; (try dsimp only at hSw); go_simp; try with_reducible rfl)
      try simp only [Act.put, List.getElem_toArray, List.getElem_cons_zero, List.getElem_cons_succ, List.setIfInBounds_toArray, List.set_cons_zero, List.set_cons_succ]
      refine wpAnyH_take (i := 13) (v := ?_) rfl (by kernel_rfl) (by kernel_rfl) (by kernel_rfl) (fun _ _ _ h => h) (Or.inl ⟨by rfl, ?_⟩) hHeld ?_
      rotate_left
      · (intro w hSw; (try dsimp only at hSw); go_simp; try with_reducible rfl)
      try simp only [Act.put, List.getElem_toArray, List.getElem_cons_zero, List.getElem_cons_succ, List.setIfInBounds_toArray, List.set_cons_zero, List.set_cons_succ]
      refine wpAnyH_take (i := 14) (v := ?_) rfl (by kernel_rfl) (by kernel_rfl) (by kernel_rfl) (fun _ _ _ h => h) (Or.inl ⟨by rfl, ?_⟩) hHeld ?_
      rotate_left
      · (intro w hSw; (try dsimp only at hSw); go_simp; try with_reducible rfl)
      try simp only [Act.put, List.getElem_toArray, List.getElem_cons_zero, List.getElem_cons_succ, List.setIfInBounds_toArray, List.set_cons_zero, List.set_cons_succ]
      refine wpAnyH_take (i := 15) (v := ?_) rfl (by kernel_rfl) (by kernel_rfl) (by kernel_rfl) (fun _ _ _ h => h) (Or.inl ⟨by rfl, ?_⟩) hHeld ?_
      rotate_left
      · (intro w hSw; (try dsimp only at hSw); go_simp; try with_reducible rfl)
      try simp only [Act.put, List.getElem_toArray, List.getElem_cons_zero, List.getElem_cons_succ, List.setIfInBounds_toArray, List.set_cons_zero, List.set_cons_succ]
      refine wpAnyH_done (by kernel_rfl) ?_ _
      go_wp2
      go_roundw
      case rel => exact ⟨k + 1, some ⟨g6, 0, none⟩, 128, 128, by omega, by go_num, rfl, rfl, by omega, by omega, by omega, by rw [F.out]; exact Ints.ofCells hc6 (putL_len _ _ _ _) (by omega) (putL_bytes (chain_bytes _ _ _) _ _ _), hb7⟩
      case measure => simp [intOf]; omega
    · obtain rfl : k = 11 := by omega
      obtain rfl : n = 128 := by omega
      have hsl := fun W => slice_to A 128 c 124 (by omega) W
      have hw := hI.len
      have hT := hI.take (N := 124) (by omega)
      have hw4 := hb4.trans (hbk.mono hb4.size)
      have hsum := sum_in ((chain rowsL vs 11).take 124)
      have hoi := overI_in 0 ((chain rowsL vs 11).take 124)
      have F : Hid (sealL (chain rowsL vs 11) = putL (chain rowsL vs 11) 124 4 (overI 0 ((chain rowsL vs 11).take 124))) := rfl
      have kp : ∀ W, Ints .u8 W A 128 (chain rowsL vs 11) → Calls Try.prog 33 #[.slice A 128 c, .int .i64 124, .int .i64 4, .int .i64 (overI 0 ((chain rowsL vs 11).take 124))] W (PutIs W (putL (chain rowsL vs 11) 124 4 (overI 0 ((chain rowsL vs 11).take 124)))) := fun W h => put_ok A 128 c (chain rowsL vs 11) 124 4 _ W h (.inr rfl) (by omega) (by omega) (by omega) hsum.1 hsum.2
      have kq := fun W h => sum_calls A 124 c ((chain rowsL vs 11).take 124) W h
      generalize overI 0 ((chain rowsL vs 11).take 124) = S at *
      go_wp2_with (first
        | (go_at_call 34; (with_reducible refine (kq _ hT).mono ?_); rintro e w5 ⟨rfl, hb5⟩)
        | (go_at_call 33; (with_reducible refine (kp _ (hI.below hb5 (Nat.le_refl _))).mono ?_); rintro e w6 ⟨g6, hg6, rfl, hc6, hb6⟩))
      go_ret2
      have hl5 : w.heap.size ≤ w5.heap.size := Nat.le_trans hw4.size hb5.size
      have hl6 : w.heap.size ≤ g6 := Nat.le_trans hl5 hg6
      have hw5 : Below w.heap.size w w5 := hw4.trans (hb5.mono hw4.size)
      have hw6 := hw5.trans (hb6.mono hl5)
      exact ⟨g6, hl6, rfl, by rw [F.out]; exact hc6, hw6⟩

end Go.Proofs.Ytcngonedcnddlaa
