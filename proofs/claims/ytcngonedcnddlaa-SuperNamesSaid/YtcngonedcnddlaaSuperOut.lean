/- The walks of package super: with, summed, Write. -/
import Derived.Test.YtcngonedcnddlaaSuperWalk
import Derived.Test.YtcngonedcnddlaaPackWalk
import Derived.Test.YtcngonedcnddlaaPolyWalk
import Derived.RegionTactic
import Derived.Deep.RegionHeld3
import Derived.Deep.Cut
namespace Go.Proofs.Ytcngonedcnddlaa
open Go.RowKit PolyM PackM SealM LabelM SuperM
set_option linter.unusedVariables false

/-- A draft under way: its block is at g and reads as these bytes. -/
def DraftIs (w : World) (d : Nat) (zs : List Int) (e : Ending) (w' : World) : Prop :=
  ∃ g, w.heap.size ≤ g ∧ e = .returned (.pointer (some ⟨d, 0, none⟩)) ∧ BlkAt w' d #[.slice (some ⟨g, 0, none⟩) 128 128, .int .i64 0] 51 ∧ w'.heap[g]? = some (.cells (cells zs) 79 (0, 0)) ∧ Below d w w'

set_option maxRecDepth 100000 in
set_option maxHeartbeats 4000000 in
theorem draft_with (d : Nat) (A : Option Addr) (n c : Nat) (zs : List Int) (q s : Nat) (v : Int) (w : World) (D : BlkAt w d #[.slice A n c, .int .i64 0] 51) (hi : Ints .u8 w A n zs) (hn : n = 0 ∨ n = 128) (s1 : 1 ≤ s) (s4 : s ≤ 4) (hp : q + s ≤ 128) (v0 : 0 ≤ v) (v1 : v < 256 ^ s) :
    Calls Try.prog 19 #[.pointer (some ⟨d, 0, none⟩), .int .i64 q, .int .i64 s, .int .i64 v] w (DraftIs w d (putL zs q s v)) := by
  have kp := fun W h => put_ok A n c zs q s v W h hn s1 s4 hp v0 v1
  have d0 := D.cell 0
  have d1 := D.cell 1
  have dl := D.lt
  clear v0 v1
  go_enter Try.func19, Try.ntmps19
  go_wp2_with (go_at_call 33; (with_reducible refine (kp _ hi).mono ?_); rintro e w2 ⟨g, hg, rfl, hc, hb2⟩; replace D := D.below hb2 (Nat.le_refl _); clear d0 d1; have d0 := D.cell 0; have d1 := D.cell 1; have df := D.free; have dl2 := D.lt)
  go_ret
  have hgd : d ≠ g := by omega
  have hb : Below d w w2 := hb2.mono (Nat.le_of_lt dl)
  refine ⟨g, hg, rfl, (D.put 0 (.slice (some ⟨g, 0, none⟩) 128 128)).put 1 (.int .i64 0), ?_, (hb.setCell (p := ⟨d, 0, none⟩) (Nat.le_refl _) _).setCell (p := ⟨d, 1, none⟩) (Nat.le_refl _) _⟩
  rw [Below.heap_setCell _ _ _ _ (fun e => hgd e.symm), Below.heap_setCell _ _ _ _ (fun e => hgd e.symm)]
  exact hc

set_option maxRecDepth 100000 in
set_option maxHeartbeats 4000000 in
theorem draft_summed (d g : Nat) (zs : List Int) (w : World) (D : BlkAt w d #[.slice (some ⟨g, 0, none⟩) 128 128, .int .i64 0] 51) (hi : Ints .u8 w (some ⟨g, 0, none⟩) 128 zs) :
    Calls Try.prog 20 #[.pointer (some ⟨d, 0, none⟩)] w (DraftIs w d (sealL zs)) := by
  have hsl := fun W => slice_to (some ⟨g, 0, none⟩) 128 128 124 (by omega) W
  have hw := hi.len
  have hT := hi.take (N := 124) (by omega)
  have hsum := sum_in (zs.take 124)
  have hoi := overI_in 0 (zs.take 124)
  have F : Hid (sealL zs = putL zs 124 4 (overI 0 (zs.take 124))) := Lib.hid rfl
  have kw : ∀ W, BlkAt W d #[.slice (some ⟨g, 0, none⟩) 128 128, .int .i64 0] 51 → Ints .u8 W (some ⟨g, 0, none⟩) 128 zs → Calls Try.prog 19 #[.pointer (some ⟨d, 0, none⟩), .int .i64 124, .int .i64 4, .int .i64 (overI 0 (zs.take 124))] W (DraftIs W d (putL zs 124 4 (overI 0 (zs.take 124)))) := fun W h k => draft_with d _ 128 128 zs 124 4 _ W h k (.inr rfl) (by omega) (by omega) (by omega) hsum.1 hsum.2
  have kq := fun W h => sum_calls (some ⟨g, 0, none⟩) 124 128 (zs.take 124) W h
  rw [pow_256.2.2.2.2] at hsum
  generalize overI 0 (zs.take 124) = S at *
  have e1 : IntKind.i64.wrap S = S := IntWalk.i64_in _ (by omega)
  have d0 := D.cell 0
  have d1 := D.cell 1
  have dl := D.lt
  go_enter Try.func20, Try.ntmps20
  go_wp2_with (first
    | (go_at_call 34; (with_reducible refine (kq _ hT).mono ?_); rintro e w5 ⟨rfl, hb5⟩)
    | (go_at_call 19; (with_reducible refine (kw _ (D.below hb5 (Nat.le_refl _)) (hi.below hb5 (Nat.le_refl _))).mono ?_); rintro e w6 ⟨g6, hg6, rfl, D6, hc6, hb6⟩))
  go_ret
  have h1 := Nat.le_trans hb5.size hg6
  have h2 := (hb5.mono (Nat.le_of_lt dl)).trans hb6
  exact ⟨g6, h1, rfl, D6, by rw [F.out]; exact hc6, h2⟩

theorem BlkAt.under {w w' : World} {g d : Nat} {cs : Array Value} {t : TypeId} (h : BlkAt w g cs t) (hb : Below d w w') (hg : g < d) : BlkAt w' g cs t := by
  unfold BlkAt at *
  rw [hb.block g hg]
  exact h
set_option maxRecDepth 100000 in
set_option maxHeartbeats 4000000 in
theorem supWrite_gen (id age seq tail : Int) (h1 : 0 ≤ id ∧ id < 256 ^ 4) (h2 : 0 ≤ age ∧ age < 256 ^ 4) (h3 : 0 ≤ seq ∧ seq < 256 ^ 4) (h4 : 0 ≤ tail ∧ tail < 256 ^ 1) (kc : ∀ W, Calls Try.prog 13 #[.agg #[.int .u32 id, .int .u32 age, .int .u32 seq, .int .i64 tail]] W fun e w' => e = .returned (.int .i64 0) ∧ Below W.heap.size W w') (w : World) : Calls Try.prog 9 #[.agg #[.int .u32 id, .int .u32 age, .int .u32 seq, .int .i64 tail]] w (PutIs w (sealL (chain rowsS [83, id, age, seq, tail] 5))) := by
  have pw : (256 : Int) ^ 4 = 4294967296 := pow_256.2.2.2.2
  have e1 : IntKind.i64.wrap id = id := IntWalk.i64_in _ (by omega)
  have e2 : IntKind.i64.wrap age = age := IntWalk.i64_in _ (by omega)
  have e3 : IntKind.i64.wrap seq = seq := IntWalk.i64_in _ (by omega)
  clear pw
  have B := BlkAt.new w #[.int .u32 id, .int .u32 age, .int .u32 seq, .int .i64 tail] 28
  have hb : Below w.heap.size w (w.alloc (.cells #[.int .u32 id, .int .u32 age, .int .u32 seq, .int .i64 tail] 28 (0, 0))) := (Below.refl _ _).alloc (Nat.le_refl _) _
  have hi4 := (zero_of_info super_size).2
  have b0 := B.cell 0
  go_enter Try.func9, Try.ntmps9
  go_upto_region 4 with (first
    | refine wpList_load_row rfl 28 _ rfl w.heap.size rfl _ _ _ _ B Try.underlying28 rfl (by rw [hi4]; rfl) ?_
    | (go_at_call 13; (with_reducible refine (kc _).mono ?_); rintro e v0 ⟨rfl, hb2⟩; replace hb := hb.trans (hb2.mono hb.size); replace B := B.below hb2 (Nat.le_refl _); clear hb2))
  clear b0
  refine wp_region_held_drew (S := (fun W => W.cell? ⟨w.heap.size, 0, none⟩ = some (.int .u32 id) ∧ W.cell? ⟨w.heap.size, 1, none⟩ = some (.int .u32 age) ∧ W.cell? ⟨w.heap.size, 2, none⟩ = some (.int .u32 seq) ∧ W.cell? ⟨w.heap.size, 3, none⟩ = some (.int .i64 tail))) (by kernel_rfl) ?_ (fun hHeld => ?_)
  · exact ⟨B.drew.cell 0, B.drew.cell 1, B.drew.cell 2, B.drew.cell 3⟩
  refine wpAnyH_take (i := 2) (v := ?_) rfl (by kernel_rfl) (by kernel_rfl) (by kernel_rfl) (fun _ _ _ h => h) (Or.inl ⟨by rfl, ?_⟩) hHeld ?_
  rotate_left
  · (intro w hSw; (try dsimp only at hSw); go_simp; try with_reducible rfl)
  try simp only [Act.put, List.getElem_toArray, List.getElem_cons_zero, List.getElem_cons_succ, List.setIfInBounds_toArray, List.set_cons_zero, List.set_cons_succ]
  refine wpAnyH_take (i := 3) (v := ?_) rfl (by kernel_rfl) (by kernel_rfl) (by kernel_rfl) (fun _ _ _ h => h) (Or.inl ⟨by rfl, ?_⟩) hHeld ?_
  rotate_left
  · (intro w hSw; (try dsimp only at hSw); go_simp; try with_reducible rfl)
  try simp only [Act.put, List.getElem_toArray, List.getElem_cons_zero, List.getElem_cons_succ, List.setIfInBounds_toArray, List.set_cons_zero, List.set_cons_succ]
  refine wpAnyH_take (i := 4) (v := ?_) rfl (by kernel_rfl) (by kernel_rfl) (by kernel_rfl) (fun _ _ _ h => h) (Or.inl ⟨by rfl, ?_⟩) hHeld ?_
  rotate_left
  · (intro w hSw; (try dsimp only at hSw); go_simp; try with_reducible rfl)
  try simp only [Act.put, List.getElem_toArray, List.getElem_cons_zero, List.getElem_cons_succ, List.setIfInBounds_toArray, List.set_cons_zero, List.set_cons_succ]
  refine wpAnyH_take (i := 6) (v := ?_) rfl (by kernel_rfl) (by kernel_rfl) (by kernel_rfl) (fun _ _ _ h => h) (Or.inl ⟨by rfl, ?_⟩) hHeld ?_
  rotate_left
  · (intro w hSw; (try dsimp only at hSw); go_simp; try with_reducible rfl)
  try simp only [Act.put, List.getElem_toArray, List.getElem_cons_zero, List.getElem_cons_succ, List.setIfInBounds_toArray, List.set_cons_zero, List.set_cons_succ]
  refine wpAnyH_take (i := 7) (v := ?_) rfl (by kernel_rfl) (by kernel_rfl) (by kernel_rfl) (fun _ _ _ h => h) (Or.inl ⟨by rfl, ?_⟩) hHeld ?_
  rotate_left
  · (intro w hSw; (try dsimp only at hSw); go_simp; try with_reducible rfl)
  try simp only [Act.put, List.getElem_toArray, List.getElem_cons_zero, List.getElem_cons_succ, List.setIfInBounds_toArray, List.set_cons_zero, List.set_cons_succ]
  refine wpAnyH_take (i := 8) (v := ?_) rfl (by kernel_rfl) (by kernel_rfl) (by kernel_rfl) (fun _ _ _ h => h) (Or.inl ⟨by rfl, ?_⟩) hHeld ?_
  rotate_left
  · (intro w hSw; (try dsimp only at hSw); go_simp; try with_reducible rfl)
  try simp only [Act.put, List.getElem_toArray, List.getElem_cons_zero, List.getElem_cons_succ, List.setIfInBounds_toArray, List.set_cons_zero, List.set_cons_succ]
  refine wpAnyH_take (i := 10) (v := ?_) rfl (by kernel_rfl) (by kernel_rfl) (by kernel_rfl) (fun _ _ _ h => h) (Or.inl ⟨by rfl, ?_⟩) hHeld ?_
  rotate_left
  · (intro w hSw; (try dsimp only at hSw); go_simp; try with_reducible rfl)
  try simp only [Act.put, List.getElem_toArray, List.getElem_cons_zero, List.getElem_cons_succ, List.setIfInBounds_toArray, List.set_cons_zero, List.set_cons_succ]
  refine wpAnyH_take (i := 11) (v := ?_) rfl (by kernel_rfl) (by kernel_rfl) (by kernel_rfl) (fun _ _ _ h => h) (Or.inl ⟨by rfl, ?_⟩) hHeld ?_
  rotate_left
  · (intro w hSw; (try dsimp only at hSw); go_simp; try with_reducible rfl)
  try simp only [Act.put, List.getElem_toArray, List.getElem_cons_zero, List.getElem_cons_succ, List.setIfInBounds_toArray, List.set_cons_zero, List.set_cons_succ]
  refine wpAnyH_take (i := 12) (v := ?_) rfl (by kernel_rfl) (by kernel_rfl) (by kernel_rfl) (fun _ _ _ h => h) (Or.inl ⟨by rfl, ?_⟩) hHeld ?_
  rotate_left
  · (intro w hSw; (try dsimp only at hSw); go_simp; try with_reducible rfl)
  try simp only [Act.put, List.getElem_toArray, List.getElem_cons_zero, List.getElem_cons_succ, List.setIfInBounds_toArray, List.set_cons_zero, List.set_cons_succ]
  refine wpAnyH_take (i := 14) (v := ?_) rfl (by kernel_rfl) (by kernel_rfl) (by kernel_rfl) (fun _ _ _ h => h) (Or.inl ⟨by rfl, ?_⟩) hHeld ?_
  rotate_left
  · (intro w hSw; (try dsimp only at hSw); go_simp; try with_reducible rfl)
  try simp only [Act.put, List.getElem_toArray, List.getElem_cons_zero, List.getElem_cons_succ, List.setIfInBounds_toArray, List.set_cons_zero, List.set_cons_succ]
  refine wpAnyH_take (i := 15) (v := ?_) rfl (by kernel_rfl) (by kernel_rfl) (by kernel_rfl) (fun _ _ _ h => h) (Or.inl ⟨by rfl, ?_⟩) hHeld ?_
  rotate_left
  · (intro w hSw; (try dsimp only at hSw); go_simp; try with_reducible rfl)
  try simp only [Act.put, List.getElem_toArray, List.getElem_cons_zero, List.getElem_cons_succ, List.setIfInBounds_toArray, List.set_cons_zero, List.set_cons_succ]
  refine wpAnyH_ready (rs := [0]) (by kernel_rfl) (by simp) ?_
  refine AllReadyH.cons rfl (fun K hK => ?_) AllReadyH.nil
  go_simp
  have D := (BlkAt.new v0 #[.slice none 0 0, .int .i64 0] 51).drew
  have hlt : w.heap.size < v0.heap.size := B.lt
  replace B := (B.alloc (.cells #[.slice none 0 0, .int .i64 0] 51)).drew
  replace hb := (hb.alloc hb.size (.cells #[.slice none 0 0, .int .i64 0] 51)).drew
  generalize World.drew _ = v1 at *
  generalize hta : World.heap v0 = hp at *
  clear hta
  generalize hp.size = d at *
  have k0 : ∀ (W : World), BlkAt W d #[.slice none 0 0, .int .i64 0] 51 → Calls Try.prog 19 #[.pointer (some ⟨d, 0, none⟩), .int .i64 0, .int .i64 1, .int .i64 83] W (DraftIs W d (chain rowsS [83, id, age, seq, tail] 1)) := fun W h => draft_with d none 0 0 (chain rowsS [83, id, age, seq, tail] 0) 0 1 83 W h ⟨rfl, by omega, by simp [chain], .inl rfl⟩ (.inl rfl) (by omega) (by omega) (by omega) (by omega) (by decide)
  have k1 : ∀ (g : Nat) (W : World), BlkAt W d #[.slice (some ⟨g, 0, none⟩) 128 128, .int .i64 0] 51 → W.heap[g]? = some (.cells (cells (chain rowsS [83, id, age, seq, tail] 1)) 79 (0, 0)) → Calls Try.prog 19 #[.pointer (some ⟨d, 0, none⟩), .int .i64 1, .int .i64 4, .int .i64 id] W (DraftIs W d (chain rowsS [83, id, age, seq, tail] 2)) := fun g W h c => draft_with d (some ⟨g, 0, none⟩) 128 128 (chain rowsS [83, id, age, seq, tail] 1) 1 4 id W h (Ints.ofCells c (chain_len _ _ (by omega)) (by omega) (chain_bytes _ _ _)) (.inr rfl) (by omega) (by omega) (by omega) h1.1 h1.2
  have k2 : ∀ (g : Nat) (W : World), BlkAt W d #[.slice (some ⟨g, 0, none⟩) 128 128, .int .i64 0] 51 → W.heap[g]? = some (.cells (cells (chain rowsS [83, id, age, seq, tail] 2)) 79 (0, 0)) → Calls Try.prog 19 #[.pointer (some ⟨d, 0, none⟩), .int .i64 5, .int .i64 4, .int .i64 age] W (DraftIs W d (chain rowsS [83, id, age, seq, tail] 3)) := fun g W h c => draft_with d (some ⟨g, 0, none⟩) 128 128 (chain rowsS [83, id, age, seq, tail] 2) 5 4 age W h (Ints.ofCells c (chain_len _ _ (by omega)) (by omega) (chain_bytes _ _ _)) (.inr rfl) (by omega) (by omega) (by omega) h2.1 h2.2
  have k3 : ∀ (g : Nat) (W : World), BlkAt W d #[.slice (some ⟨g, 0, none⟩) 128 128, .int .i64 0] 51 → W.heap[g]? = some (.cells (cells (chain rowsS [83, id, age, seq, tail] 3)) 79 (0, 0)) → Calls Try.prog 19 #[.pointer (some ⟨d, 0, none⟩), .int .i64 9, .int .i64 4, .int .i64 seq] W (DraftIs W d (chain rowsS [83, id, age, seq, tail] 4)) := fun g W h c => draft_with d (some ⟨g, 0, none⟩) 128 128 (chain rowsS [83, id, age, seq, tail] 3) 9 4 seq W h (Ints.ofCells c (chain_len _ _ (by omega)) (by omega) (chain_bytes _ _ _)) (.inr rfl) (by omega) (by omega) (by omega) h3.1 h3.2
  have k4 : ∀ (g : Nat) (W : World), BlkAt W d #[.slice (some ⟨g, 0, none⟩) 128 128, .int .i64 0] 51 → W.heap[g]? = some (.cells (cells (chain rowsS [83, id, age, seq, tail] 4)) 79 (0, 0)) → Calls Try.prog 19 #[.pointer (some ⟨d, 0, none⟩), .int .i64 13, .int .i64 1, .int .i64 tail] W (DraftIs W d (chain rowsS [83, id, age, seq, tail] 5)) := fun g W h c => draft_with d (some ⟨g, 0, none⟩) 128 128 (chain rowsS [83, id, age, seq, tail] 4) 13 1 tail W h (Ints.ofCells c (chain_len _ _ (by omega)) (by omega) (chain_bytes _ _ _)) (.inr rfl) (by omega) (by omega) (by omega) h4.1 h4.2
  have k5 : ∀ (g : Nat) (W : World), BlkAt W d #[.slice (some ⟨g, 0, none⟩) 128 128, .int .i64 0] 51 → W.heap[g]? = some (.cells (cells (chain rowsS [83, id, age, seq, tail] 5)) 79 (0, 0)) → Calls Try.prog 20 #[.pointer (some ⟨d, 0, none⟩)] W (DraftIs W d (sealL (chain rowsS [83, id, age, seq, tail] 5))) := fun g W h c => draft_summed d g (chain rowsS [83, id, age, seq, tail] 5) W h (Ints.ofCells c (chain_len _ _ (by omega)) (by omega) (chain_bytes _ _ _))
  refine hK.out _ _ ?_ (fun hHeld2 => ?_)
  · exact ⟨B.cell 0, B.cell 1, B.cell 2, B.cell 3⟩
  clear hK K hHeld
  have hHeld := hHeld2
  clear hHeld2
  try simp only [Act.put, List.setIfInBounds_toArray, List.set_cons_zero, List.set_cons_succ]
  refine wpAnyH_ready (rs := [1]) (by kernel_rfl) (by simp) ?_
  refine AllReadyH.cons rfl (fun K hK => ?_) AllReadyH.nil
  go_simp
  (with_reducible refine (k0 _ D).mono ?_)
  rintro e x0 ⟨g0, hg0, rfl, D0, hc0, hb2⟩
  clear D
  have D := D0
  have hc := hc0
  replace B := B.under hb2 hlt
  replace hb := hb.trans (hb2.mono (Nat.le_of_lt hlt))
  clear hg0 hb2 D0 hc0 k0
  go_wp2_with fail
  refine hK.out _ _ ?_ (fun hHeld2 => ?_)
  · exact ⟨B.cell 0, B.cell 1, B.cell 2, B.cell 3⟩
  clear hK K hHeld
  have hHeld := hHeld2
  clear hHeld2
  try simp only [Act.put, List.setIfInBounds_toArray, List.set_cons_zero, List.set_cons_succ]
  refine wpAnyH_ready (rs := [5]) (by kernel_rfl) (by simp) ?_
  refine AllReadyH.cons rfl (fun K hK => ?_) AllReadyH.nil
  go_simp
  (with_reducible refine (k1 _ _ D hc).mono ?_)
  rintro e x1 ⟨g1, hg1, rfl, D1, hc1, hb2⟩
  clear D hc
  have D := D1
  have hc := hc1
  replace B := B.under hb2 hlt
  replace hb := hb.trans (hb2.mono (Nat.le_of_lt hlt))
  clear hg1 hb2 D1 hc1 k1
  go_wp2_with fail
  refine hK.out _ _ ?_ (fun hHeld2 => ?_)
  · exact ⟨B.cell 0, B.cell 1, B.cell 2, B.cell 3⟩
  clear hK K hHeld
  have hHeld := hHeld2
  clear hHeld2
  try simp only [Act.put, List.setIfInBounds_toArray, List.set_cons_zero, List.set_cons_succ]
  refine wpAnyH_ready (rs := [9]) (by kernel_rfl) (by simp) ?_
  refine AllReadyH.cons rfl (fun K hK => ?_) AllReadyH.nil
  go_simp
  (with_reducible refine (k2 _ _ D hc).mono ?_)
  rintro e x2 ⟨g2, hg2, rfl, D2, hc2, hb2⟩
  clear D hc
  have D := D2
  have hc := hc2
  replace B := B.under hb2 hlt
  replace hb := hb.trans (hb2.mono (Nat.le_of_lt hlt))
  clear hg2 hb2 D2 hc2 k2
  go_wp2_with fail
  refine hK.out _ _ ?_ (fun hHeld2 => ?_)
  · exact ⟨B.cell 0, B.cell 1, B.cell 2, B.cell 3⟩
  clear hK K hHeld
  have hHeld := hHeld2
  clear hHeld2
  try simp only [Act.put, List.setIfInBounds_toArray, List.set_cons_zero, List.set_cons_succ]
  refine wpAnyH_ready (rs := [13]) (by kernel_rfl) (by simp) ?_
  refine AllReadyH.cons rfl (fun K hK => ?_) AllReadyH.nil
  go_simp
  (with_reducible refine (k3 _ _ D hc).mono ?_)
  rintro e x3 ⟨g3, hg3, rfl, D3, hc3, hb2⟩
  clear D hc
  have D := D3
  have hc := hc3
  replace B := B.under hb2 hlt
  replace hb := hb.trans (hb2.mono (Nat.le_of_lt hlt))
  clear hg3 hb2 D3 hc3 k3
  go_wp2_with fail
  refine hK.out _ _ ?_ (fun hHeld2 => ?_)
  · exact ⟨B.cell 0, B.cell 1, B.cell 2, B.cell 3⟩
  clear hK K hHeld
  have hHeld := hHeld2
  clear hHeld2
  try simp only [Act.put, List.setIfInBounds_toArray, List.set_cons_zero, List.set_cons_succ]
  refine wpAnyH_ready (rs := [16]) (by kernel_rfl) (by simp) ?_
  refine AllReadyH.cons rfl (fun K hK => ?_) AllReadyH.nil
  go_simp
  (with_reducible refine (k4 _ _ D hc).mono ?_)
  rintro e x4 ⟨g4, hg4, rfl, D4, hc4, hb2⟩
  clear D hc
  have D := D4
  have hc := hc4
  replace B := B.under hb2 hlt
  replace hb := hb.trans (hb2.mono (Nat.le_of_lt hlt))
  clear hg4 hb2 D4 hc4 k4
  go_wp2_with fail
  refine hK.out _ _ ?_ (fun hHeld2 => ?_)
  · exact ⟨B.cell 0, B.cell 1, B.cell 2, B.cell 3⟩
  clear hK K hHeld
  have hHeld := hHeld2
  clear hHeld2
  try simp only [Act.put, List.setIfInBounds_toArray, List.set_cons_zero, List.set_cons_succ]
  refine wpAnyH_ready (rs := [17]) (by kernel_rfl) (by simp) ?_
  refine AllReadyH.cons rfl (fun K hK => ?_) AllReadyH.nil
  go_simp
  (with_reducible refine (k5 _ _ D hc).mono ?_)
  rintro e x5 ⟨g5, hg5, rfl, D5, hc5, hb2⟩
  clear D hc
  have D := D5
  have hc := hc5
  replace B := B.under hb2 hlt
  have le5 := Nat.le_trans hb.size hg5
  replace hb := hb.trans (hb2.mono (Nat.le_of_lt hlt))
  clear hb2 D5 hc5 k5
  go_wp2_with fail
  refine hK.out _ _ ?_ (fun hHeld2 => ?_)
  · exact ⟨B.cell 0, B.cell 1, B.cell 2, B.cell 3⟩
  clear hK K hHeld
  have hHeld := hHeld2
  clear hHeld2
  try simp only [Act.put, List.setIfInBounds_toArray, List.set_cons_zero, List.set_cons_succ]
  refine wpAnyH_take (i := 18) (v := ?_) rfl (by kernel_rfl) (by kernel_rfl) (by kernel_rfl) (fun _ _ _ h => h) (Or.inl ⟨by rfl, ?_⟩) hHeld ?_
  rotate_left
  · (intro w hSw; (try dsimp only at hSw); go_simp; try with_reducible rfl)
  try simp only [Act.put, List.getElem_toArray, List.getElem_cons_zero, List.getElem_cons_succ, List.setIfInBounds_toArray, List.set_cons_zero, List.set_cons_succ]
  refine wpAnyH_done (by kernel_rfl) ?_ _
  have d0 := D.cell 0
  have d1 := D.cell 1
  go_upto_region 5 with fail
  refine wp_region_held_drew (S := (fun W => W.cell? ⟨d, 0, none⟩ = some (.slice (some ⟨g5, 0, none⟩) 128 128) ∧ W.cell? ⟨d, 1, none⟩ = some (.int .i64 0))) (by kernel_rfl) ?_ (fun hHeld => ?_)
  · exact ⟨D.drew.cell 0, D.drew.cell 1⟩
  refine wpAnyH_take (i := 0) (v := ?_) rfl (by kernel_rfl) (by kernel_rfl) (by kernel_rfl) (fun _ _ _ h => h) (Or.inl ⟨by rfl, ?_⟩) hHeld ?_
  rotate_left
  · (intro w hSw; (try dsimp only at hSw); go_simp; try with_reducible rfl)
  try simp only [Act.put, List.getElem_toArray, List.getElem_cons_zero, List.setIfInBounds_toArray, List.set_cons_zero, List.set_cons_succ]
  refine wpAnyH_take (i := 1) (v := ?_) rfl (by kernel_rfl) (by kernel_rfl) (by kernel_rfl) (fun _ _ _ h => h) (Or.inl ⟨by rfl, ?_⟩) hHeld ?_
  rotate_left
  · (intro w hSw; (try dsimp only at hSw); go_simp; try with_reducible rfl)
  try simp only [Act.put, List.getElem_toArray, List.getElem_cons_zero, List.getElem_cons_succ, List.setIfInBounds_toArray, List.set_cons_zero, List.set_cons_succ]
  refine wpAnyH_take (i := 2) (v := ?_) rfl (by kernel_rfl) (by kernel_rfl) (by kernel_rfl) (fun _ _ _ h => h) (Or.inl ⟨by rfl, ?_⟩) hHeld ?_
  rotate_left
  · (intro w hSw; (try dsimp only at hSw); go_simp; try with_reducible rfl)
  try simp only [Act.put, List.getElem_toArray, List.getElem_cons_zero, List.getElem_cons_succ, List.setIfInBounds_toArray, List.set_cons_zero, List.set_cons_succ]
  refine wpAnyH_take (i := 3) (v := ?_) rfl (by kernel_rfl) (by kernel_rfl) (by kernel_rfl) (fun _ _ _ h => h) (Or.inl ⟨by rfl, ?_⟩) hHeld ?_
  rotate_left
  · (intro w hSw; (try dsimp only at hSw); go_simp; try with_reducible rfl)
  try simp only [Act.put, List.getElem_toArray, List.getElem_cons_zero, List.getElem_cons_succ, List.setIfInBounds_toArray, List.set_cons_zero, List.set_cons_succ]
  refine wpAnyH_take (i := 4) (v := ?_) rfl (by kernel_rfl) (by kernel_rfl) (by kernel_rfl) (fun _ _ _ h => h) (Or.inl ⟨by rfl, ?_⟩) hHeld ?_
  rotate_left
  · (intro w hSw; (try dsimp only at hSw); go_simp; try with_reducible rfl)
  try simp only [Act.put, List.getElem_toArray, List.getElem_cons_zero, List.getElem_cons_succ, List.setIfInBounds_toArray, List.set_cons_zero, List.set_cons_succ]
  refine wpAnyH_take (i := 5) (v := ?_) rfl (by kernel_rfl) (by kernel_rfl) (by kernel_rfl) (fun _ _ _ h => h) (Or.inl ⟨by rfl, ?_⟩) hHeld ?_
  rotate_left
  · (intro w hSw; (try dsimp only at hSw); go_simp; try with_reducible rfl)
  try simp only [Act.put, List.getElem_toArray, List.getElem_cons_zero, List.getElem_cons_succ, List.setIfInBounds_toArray, List.set_cons_zero, List.set_cons_succ]
  refine wpAnyH_take (i := 6) (v := ?_) rfl (by kernel_rfl) (by kernel_rfl) (by kernel_rfl) (fun _ _ _ h => h) (Or.inl ⟨by rfl, ?_⟩) hHeld ?_
  rotate_left
  · (intro w hSw; (try dsimp only at hSw); go_simp; try with_reducible rfl)
  try simp only [Act.put, List.getElem_toArray, List.getElem_cons_zero, List.getElem_cons_succ, List.setIfInBounds_toArray, List.set_cons_zero, List.set_cons_succ]
  refine wpAnyH_take (i := 7) (v := ?_) rfl (by kernel_rfl) (by kernel_rfl) (by kernel_rfl) (fun _ _ _ h => h) (Or.inl ⟨by rfl, ?_⟩) hHeld ?_
  rotate_left
  · (intro w hSw; (try dsimp only at hSw); go_simp; try with_reducible rfl)
  try simp only [Act.put, List.getElem_toArray, List.getElem_cons_zero, List.getElem_cons_succ, List.setIfInBounds_toArray, List.set_cons_zero, List.set_cons_succ]
  refine wpAnyH_take (i := 8) (v := ?_) rfl (by kernel_rfl) (by kernel_rfl) (by kernel_rfl) (fun _ _ _ h => h) (Or.inl ⟨by rfl, ?_⟩) hHeld ?_
  rotate_left
  · (intro w hSw; (try dsimp only at hSw); go_simp; try with_reducible rfl)
  try simp only [Act.put, List.getElem_toArray, List.getElem_cons_zero, List.getElem_cons_succ, List.setIfInBounds_toArray, List.set_cons_zero, List.set_cons_succ]
  refine wpAnyH_take (i := 9) (v := ?_) rfl (by kernel_rfl) (by kernel_rfl) (by kernel_rfl) (fun _ _ _ h => h) (Or.inl ⟨by rfl, ?_⟩) hHeld ?_
  rotate_left
  · (intro w hSw; (try dsimp only at hSw); go_simp; try with_reducible rfl)
  try simp only [Act.put, List.getElem_toArray, List.getElem_cons_zero, List.getElem_cons_succ, List.setIfInBounds_toArray, List.set_cons_zero, List.set_cons_succ]
  refine wpAnyH_done (by kernel_rfl) ?_ _
  go_wp2
  go_ret2
  exact ⟨g5, le5, rfl, hc, hb.drew⟩

end Go.Proofs.Ytcngonedcnddlaa
