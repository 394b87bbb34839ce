/- What Write of package label answers for every label; Read. -/
import Derived.Test.YtcngonedcnddlaaLabelOut
import Derived.Test.YtcngonedcnddlaaBytesEq
namespace Go.Proofs.Ytcngonedcnddlaa
open Go.RowKit PolyM PackM ShapeM SealM LabelM
set_option linter.unusedVariables false

set_option maxRecDepth 100000 in
set_option maxHeartbeats 4000000 in
theorem write_bad (cs : Array Value) (hcs : cs.size = 10) (E : Int) (hE : (E != 0) = true) (kc : ∀ W, Calls Try.prog 31 #[.agg cs] W fun e w' => e = .returned (.int .i64 E) ∧ Below W.heap.size W w') (w : World) : Calls Try.prog 18 #[.agg cs] w fun e w' => e = .returned (.tuple #[.slice none 0 0, .int .i64 E]) ∧ Below w.heap.size w w' := by
  have B := BlkAt.new w cs 43
  have hb : Below w.heap.size w (w.alloc (.cells cs 43 (0, 0))) := (Below.refl _ _).alloc (Nat.le_refl _) _
  have hi10 := (zero_of_info label_size).2
  go_enter Try.func18, Try.ntmps18
  go_wp2_with (first
    | refine wpList_load_row rfl 43 _ rfl w.heap.size rfl _ _ _ _ B Try.underlying43 rfl (by rw [hi10, hcs]) ?_
    | (go_at_call 31; refine (kc _).mono ?_; rintro e w2 ⟨rfl, hb2⟩; replace hb := hb.trans (hb2.mono hb.size); replace B := B.below hb2 (Nat.le_refl _); clear hb2))
  go_ret2
  exact ⟨rfl, hb⟩

/-- The cells of a label, and of its draft. -/
def labA (l : Lab) : Array Value := #[.int .u32 l.id, .int .u32 l.ev, .int .i64 l.mem, .int .i64 l.chunk, .int .i64 l.rows, .int .i64 l.log, .int .i64 l.me, .int .i64 l.lost, .int .i64 l.done, .bool l.op]
def draftA (l : Lab) : Array Value := #[.int .u32 l.id, .int .u32 l.ev, .int .i64 l.mem, .int .i64 l.chunk, .int .i64 l.rows, .int .i64 l.log, .int .i64 l.me, .int .i64 l.lost, .int .i64 l.done, .bool l.op, .int .i64 76, .int .i64 l.id, .int .i64 l.ev, .int .i64 (who l.lost), .int .i64 (opn l.op)]
theorem labWrite_no {l : Lab} (h : ¬ MayL l) (w : World) : Calls Try.prog 18 #[labV l] w fun e w' => e = .returned (.tuple #[.slice none 0 0, .int .i64 8]) ∧ Below w.heap.size w w' :=
  write_bad (labA l) rfl 8 (by decide) (fun W => by have := labCheck l W; rw [chkL_not h] at this; exact this) w
theorem draft_at {l : Lab} (hw : WideL l) (h : MayL l) : ∀ k, k < 11 → (draftA l)[offsL.getD k 0]? = some (.int .i64 ((valsL l).getD k 0)) ∧ 0 ≤ (valsL l).getD k 0 ∧ (valsL l).getD k 0 < 256 ^ (rowsL.getD k (0, 0)).2 := by
  intro k hk
  refine ⟨?_, vals_fit hw h k hk⟩
  rcases upto11 hk with rfl | rfl | rfl | rfl | rfl | rfl | rfl | rfl | rfl | rfl | rfl <;> rfl
theorem labWrite_ok {l : Lab} (hw : WideL l) (h : MayL l) (w : World) : Calls Try.prog 18 #[labV l] w (PutIs w (blockL l)) := by
  have b := may_box hw h
  exact write_gen (labA l) (draftA l) (valsL l) rfl rfl (by simp [draftA, Value.oneCell']) (draft_at hw h) (fun W => by have := labCheck l W; rw [chkL_may h] at this; exact this) (fun W => drafted_calls l.id l.ev l.mem l.chunk l.rows l.log l.me l.lost l.done l.op (who l.lost) (opn l.op) rfl rfl b.1.1 b.1.2 b.2.1.1 (by omega) W) w

/-- The draft whose first k numbers are taken. -/
def dskA (zs : List Int) : Nat → Array Value
  | 0 => #[.int .u32 0, .int .u32 0, .int .i64 0, .int .i64 0, .int .i64 0, .int .i64 0, .int .i64 0, .int .i64 0, .int .i64 0, .bool false, .int .i64 0, .int .i64 0, .int .i64 0, .int .i64 0, .int .i64 0]
  | k + 1 => (dskA zs k).setIfInBounds (offsL.getD k 0) (.int .i64 (takeN zs (rowsL.getD k (0, 0)).1 (rowsL.getD k (0, 0)).2))
theorem dsk_size (zs : List Int) : ∀ k, (dskA zs k).size = 15
  | 0 => rfl
  | k + 1 => by show (Array.setIfInBounds _ _ _).size = 15; rw [Array.size_setIfInBounds]; exact dsk_size zs k
theorem dsk_has (zs : List Int) {k : Nat} (hk : k < 11) : ∃ v, (dskA zs k)[offsL.getD k 0]? = some v := by
  have : offsL.getD k 0 < 15 := by rcases upto11 hk with rfl | rfl | rfl | rfl | rfl | rfl | rfl | rfl | rfl | rfl | rfl <;> decide
  exact ⟨_, Array.getElem?_eq_getElem (by rw [dsk_size]; exact this)⟩
theorem dsk_full (zs : List Int) : dskA zs 11 = #[.int .u32 0, .int .u32 0, .int .i64 (takeN zs 9 1), .int .i64 (takeN zs 10 1), .int .i64 (takeN zs 11 1), .int .i64 (takeN zs 12 1), .int .i64 (takeN zs 13 1), .int .i64 0, .int .i64 (takeN zs 15 1), .bool false, .int .i64 (takeN zs 0 1), .int .i64 (takeN zs 1 4), .int .i64 (takeN zs 5 4), .int .i64 (takeN zs 14 1), .int .i64 (takeN zs 16 1)] := by
  simp only [dskA, offsL, rowsL, List.getD_cons_zero, List.getD_cons_succ, List.setIfInBounds_toArray, List.set_cons_zero, List.set_cons_succ]

set_option maxRecDepth 100000 in
set_option maxHeartbeats 4000000 in
theorem read_text (a0 : Option Addr) (n0 c0 : Nat) (hm : n0 ≤ 9223372036854775807) (h0 : n0 ≠ 0) (h1 : n0 ≠ 128) (w : World) : Calls Try.prog 17 #[.slice a0 n0 c0] w fun e w' => e = .returned (.tuple #[.agg #[.int .u32 0, .int .u32 0, .int .i64 0, .int .i64 0, .int .i64 0, .int .i64 0, .int .i64 0, .int .i64 0, .int .i64 0, .bool false], .int .i64 3]) ∧ Below w.heap.size w w' := by
  have Z := BlkAt.new w #[.int .u32 0, .int .u32 0, .int .i64 0, .int .i64 0, .int .i64 0, .int .i64 0, .int .i64 0, .int .i64 0, .int .i64 0, .bool false] 43
  have hb : Below w.heap.size w (w.alloc (.cells #[.int .u32 0, .int .u32 0, .int .i64 0, .int .i64 0, .int .i64 0, .int .i64 0, .int .i64 0, .int .i64 0, .int .i64 0, .bool false] 43 (0, 0))) := (Below.refl _ _).alloc (Nat.le_refl _) _
  have hi10 := (zero_of_info label_size).2
  have hi15 := (zero_of_info draft_size).2
  go_enter Try.func17, Try.ntmps17
  go_upto_region 2 with fail
  have D := BlkAt.new (w.alloc (.cells #[.int .u32 0, .int .u32 0, .int .i64 0, .int .i64 0, .int .i64 0, .int .i64 0, .int .i64 0, .int .i64 0, .int .i64 0, .bool false] 43)) #[.int .u32 0, .int .u32 0, .int .i64 0, .int .i64 0, .int .i64 0, .int .i64 0, .int .i64 0, .int .i64 0, .int .i64 0, .bool false, .int .i64 0, .int .i64 0, .int .i64 0, .int .i64 0, .int .i64 0] 67
  rw [World.size_alloc] at D
  replace Z := Z.alloc (.cells #[.int .u32 0, .int .u32 0, .int .i64 0, .int .i64 0, .int .i64 0, .int .i64 0, .int .i64 0, .int .i64 0, .int .i64 0, .bool false, .int .i64 0, .int .i64 0, .int .i64 0, .int .i64 0, .int .i64 0] 67)
  replace hb := hb.alloc hb.size (.cells #[.int .u32 0, .int .u32 0, .int .i64 0, .int .i64 0, .int .i64 0, .int .i64 0, .int .i64 0, .int .i64 0, .int .i64 0, .bool false, .int .i64 0, .int .i64 0, .int .i64 0, .int .i64 0, .int .i64 0] 67)
  generalize World.alloc _ _ = v1 at *
  obtain ⟨P, hP⟩ : ∃ P, P = w.heap.size + 1 := ⟨_, rfl⟩
  have hPw : w.heap.size < P := by omega
  rw [← hP] at D ⊢
  clear hP
  go_wp2_with (go_at_call 29; refine (numbers_calls P _).mono ?_; rintro e w4 ⟨g, d, hg, hdd, rfl, hN, hK, hb2⟩)
  have hgP : P < g := Nat.lt_of_lt_of_le D.lt hg
  have hdP : P < d := Nat.lt_of_lt_of_le D.lt hdd
  replace D := D.below hb2 (Nat.le_refl _)
  replace Z := Z.below hb2 (Nat.le_refl _)
  replace hb := hb.trans (hb2.mono hb.size)
  clear hb2 hg hdd
  have x0 : w4.cell? ⟨g, 0, none⟩ = _ := hN.at_ 0 _ rfl
  have x1 : w4.cell? ⟨g, 1, none⟩ = _ := hN.at_ 1 _ rfl
  have x2 : w4.cell? ⟨g, 2, none⟩ = _ := hN.at_ 2 _ rfl
  have glt := hN.lt
  have kt := fun W => take_text a0 n0 c0 0 1 W hm h0 h1
  clear hm h0 h1
  refine wp_loop_rounds 1 ?_
  rw [rounds_succ]
  go_upto_region 5 with fail
  replace Z := Z.alloc (.cells #[.int .i64 0, .int .i64 1, .func (.func 40) #[] #[.pointer (some ⟨d, 0, none⟩)]] 72)
  replace hb := hb.alloc hb.size (.cells #[.int .i64 0, .int .i64 1, .func (.func 40) #[] #[.pointer (some ⟨d, 0, none⟩)]] 72)
  have X := CellsAt.new w4 [.int .i64 0, .int .i64 1, .func (.func 40) #[] #[.pointer (some ⟨d, 0, none⟩)]] 72
  obtain ⟨y0, y1, y2⟩ := X.all3
  clear x0 x1 x2 glt hN hK D
  generalize World.alloc _ _ = v2 at *
  generalize w4.heap.size = q at *
  go_wp2_with (first
    | (go_at_call 21; (with_reducible refine (kt _).mono ?_); rintro e w5 ⟨rfl, rfl⟩)
    | refine wpList_store_row rfl 43 _ _ rfl w.heap.size #[.int .u32 0, .int .u32 0, .int .i64 0, .int .i64 0, .int .i64 0, .int .i64 0, .int .i64 0, .int .i64 0, .int .i64 0, .bool false] rfl rfl _ _ Z (by rw [hi10]; rfl) rfl (by simp [Value.oneCell']) ?_)
  have hg2 := setRow_heap _ w.heap.size _ #[.int .u32 0, .int .u32 0, .int .i64 0, .int .i64 0, .int .i64 0, .int .i64 0, .int .i64 0, .int .i64 0, .int .i64 0, .bool false] 43 (0, 0) Z
  exact bodyPost_ret (v := .tuple #[.agg #[.int .u32 0, .int .u32 0, .int .i64 0, .int .i64 0, .int .i64 0, .int .i64 0, .int .i64 0, .int .i64 0, .int .i64 0, .bool false], .int .i64 3]) (results_cell_tmp (p := 2) (q := 3) (ty := 43) rfl _ _ w.heap.size _ #[.int .u32 0, .int .u32 0, .int .i64 0, .int .i64 0, .int .i64 0, .int .i64 0, .int .i64 0, .int .i64 0, .int .i64 0, .bool false] _ _ rfl hg2 Try.underlying43 (by rw [hi10]; rfl)) rfl ⟨rfl, below_setRow hb (Nat.le_refl _) _⟩

set_option maxRecDepth 100000 in
set_option maxHeartbeats 4000000 in
theorem read_gen (a0 : Option Addr) (n0 c0 : Nat) (zs : List Int) (w : World) (hI : Ints .u8 w a0 n0 zs) (hn : n0 = 0 ∨ n0 = 128) (cs R : Array Value) (E : Int) (hcs : cs.size = 10) (hc1 : cs.all (·.oneCell') = true)
    (kl : ∀ W, Calls Try.prog 30 #[.agg (dskA zs 11)] W fun e w' => e = .returned (.agg cs) ∧ Below W.heap.size W w')
    (hx : (Hid (R = #[.int .u32 0, .int .u32 0, .int .i64 0, .int .i64 0, .int .i64 0, .int .i64 0, .int .i64 0, .int .i64 0, .int .i64 0, .bool false] ∧ E = 90) ∧ ∀ W, Calls Try.prog 18 #[.agg cs] W fun e w' => e = .returned (.tuple #[.slice none 0 0, .int .i64 8]) ∧ Below W.heap.size W w') ∨ (∃ L : List Int, L.length = 128 ∧ Bytes L ∧ (∀ W, Calls Try.prog 18 #[.agg cs] W (PutIs W L)) ∧ ((decide (L = zs) = false ∧ Hid (R = #[.int .u32 0, .int .u32 0, .int .i64 0, .int .i64 0, .int .i64 0, .int .i64 0, .int .i64 0, .int .i64 0, .int .i64 0, .bool false] ∧ E = 90)) ∨ (decide (L = zs) = true ∧ Hid (R = cs ∧ E = 0))))) :
    Calls Try.prog 17 #[.slice a0 n0 c0] w fun e w' => e = .returned (.tuple #[.agg R, .int .i64 E]) ∧ Below w.heap.size w w' := by
  have Z := BlkAt.new w #[.int .u32 0, .int .u32 0, .int .i64 0, .int .i64 0, .int .i64 0, .int .i64 0, .int .i64 0, .int .i64 0, .int .i64 0, .bool false] 43
  have hb : Below w.heap.size w (w.alloc (.cells #[.int .u32 0, .int .u32 0, .int .i64 0, .int .i64 0, .int .i64 0, .int .i64 0, .int .i64 0, .int .i64 0, .int .i64 0, .bool false] 43 (0, 0))) := (Below.refl _ _).alloc (Nat.le_refl _) _
  have hi10 := (zero_of_info label_size).2
  have hi15 := (zero_of_info draft_size).2
  go_enter Try.func17, Try.ntmps17
  go_upto_region 2 with fail
  have D := BlkAt.new (w.alloc (.cells #[.int .u32 0, .int .u32 0, .int .i64 0, .int .i64 0, .int .i64 0, .int .i64 0, .int .i64 0, .int .i64 0, .int .i64 0, .bool false] 43)) #[.int .u32 0, .int .u32 0, .int .i64 0, .int .i64 0, .int .i64 0, .int .i64 0, .int .i64 0, .int .i64 0, .int .i64 0, .bool false, .int .i64 0, .int .i64 0, .int .i64 0, .int .i64 0, .int .i64 0] 67
  rw [World.size_alloc] at D
  replace Z := Z.alloc (.cells #[.int .u32 0, .int .u32 0, .int .i64 0, .int .i64 0, .int .i64 0, .int .i64 0, .int .i64 0, .int .i64 0, .int .i64 0, .bool false, .int .i64 0, .int .i64 0, .int .i64 0, .int .i64 0, .int .i64 0] 67)
  replace hb := hb.alloc hb.size (.cells #[.int .u32 0, .int .u32 0, .int .i64 0, .int .i64 0, .int .i64 0, .int .i64 0, .int .i64 0, .int .i64 0, .int .i64 0, .bool false, .int .i64 0, .int .i64 0, .int .i64 0, .int .i64 0, .int .i64 0] 67)
  generalize World.alloc _ _ = v1 at *
  obtain ⟨P, hP⟩ : ∃ P, P = w.heap.size + 1 := ⟨_, rfl⟩
  have hPw : w.heap.size < P := by omega
  rw [← hP] at D ⊢
  clear hP
  go_wp2_with (go_at_call 29; refine (numbers_calls P _).mono ?_; rintro e w4 ⟨g, d, hg, hdd, rfl, hN, hK, hb2⟩)
  have hgP : P < g := Nat.lt_of_lt_of_le D.lt hg
  have hdP : P < d := Nat.lt_of_lt_of_le D.lt hdd
  replace D := D.below hb2 (Nat.le_refl _)
  replace Z := Z.below hb2 (Nat.le_refl _)
  replace hb := hb.trans (hb2.mono hb.size)
  clear hb2 hg hdd
  go_loopw [14] (fun s14 wr => ∃ k : Nat, k ≤ 11 ∧ s14 = .int .i64 k ∧ CellsAt wr g (numCells d) ∧ CellsAt wr d [.pointer (some ⟨P, 0, none⟩)] ∧ BlkAt wr P (dskA zs k) 67 ∧ BlkAt wr w.heap.size #[.int .u32 0, .int .u32 0, .int .i64 0, .int .i64 0, .int .i64 0, .int .i64 0, .int .i64 0, .int .i64 0, .int .i64 0, .bool false] 43 ∧ Below w.heap.size w wr) (fun i _ => 11 - (intOf i).toNat)
  case atStart => exact ⟨0, by omega, rfl, hN, hK, D, Z, hb⟩
  case round =>
    clear hN hK D Z hb
    obtain ⟨k, hk, rfl, hN, hK, D, Z, hb⟩ := hrel
    by_cases hk11 : k < 11
    · clear hx kl
      obtain ⟨x0, x1, x2⟩ := num_at hN hk11
      have lay := rowsL_lay.2 k hk11
      have hcf := fun (W : World) => enter_any hk11 #[.pointer (some ⟨d, 0, none⟩)] W
      have kk := fun W h => kept_any hk11 d P W h
      obtain ⟨v9, hv9⟩ := dsk_has zs hk11
      have F : Hid (dskA zs (k + 1) = (dskA zs k).setIfInBounds (offsL.getD k 0) (.int .i64 (takeN zs (rowsL.getD k (0, 0)).1 (rowsL.getD k (0, 0)).2))) := rfl
      generalize (rowsL.getD k (0, 0)).1 = a at *
      generalize (rowsL.getD k (0, 0)).2 = s at *
      generalize fnsL.getD k 0 = N at *
      generalize offsL.getD k 0 = off at *
      have kt := fun W h => take_ok a0 n0 c0 zs a s W h hn lay.1 lay.2.1 (by omega)
      generalize takeN zs a s = v at *
      have glt := hN.lt
      go_upto_region 5 with fail
      have X := CellsAt.new wr [.int .i64 (a : Nat), .int .i64 (s : Nat), .func (.func N) #[] #[.pointer (some ⟨d, 0, none⟩)]] 72
      have hb3 : Below wr.heap.size wr (wr.alloc (.cells #[.int .i64 (a : Nat), .int .i64 (s : Nat), .func (.func N) #[] #[.pointer (some ⟨d, 0, none⟩)]] 72)) := (Below.refl _ _).alloc (Nat.le_refl _) _
      replace hN := hN.below hb3 (Nat.le_refl _)
      replace hK := hK.below hb3 (Nat.le_refl _)
      replace D := D.below hb3 (Nat.le_refl _)
      replace Z := Z.below hb3 (Nat.le_refl _)
      replace hb := hb.trans (hb3.mono hb.size)
      clear hb3 x0 x1 x2 glt
      generalize World.alloc _ _ = v2 at *
      obtain ⟨y0, y1, y2⟩ := X.all3
      generalize wr.heap.size = q at *
      go_upto_region 8 with (go_at_call 21; (with_reducible refine (kt _ (hI.below hb (Nat.le_refl _))).mono ?_); rintro e w5 ⟨rfl, hb5⟩)
      replace hN := hN.below hb5 (Nat.le_refl _)
      replace hK := hK.below hb5 (Nat.le_refl _)
      replace D := D.below hb5 (Nat.le_refl _)
      replace Z := Z.below hb5 (Nat.le_refl _)
      replace X := X.below hb5 (Nat.le_refl _)
      replace hb := hb.trans (hb5.mono hb.size)
      clear y0 y1 y2 hb5 kt
      obtain ⟨y0, y1, y2⟩ := X.all3
      have z0 := hK.at_ 0 _ rfl
      have dc := (D.cell off).trans hv9
      have df := D.free off
      go_wp2_with (first
        | (refine (kk _ z0).mono ?_; rintro e w6 ⟨rfl, rfl⟩))
      go_roundw
      case rel =>
        exact ⟨k + 1, by omega, by go_num, hN.other (p := ⟨P, off, none⟩) (by dsimp only; omega) _, hK.other (p := ⟨P, off, none⟩) (by dsimp only; omega) _, by rw [F.out]; exact D.put _ _, Z.other (p := ⟨P, off, none⟩) (by dsimp only; omega) _, hb.setCell (p := ⟨P, off, none⟩) (by dsimp only; omega) _⟩
      case measure => simp [intOf]; omega
    · obtain rfl : k = 11 := by omega
      clear hN hK
      rcases hx with ⟨F, kw⟩ | ⟨L, hL, hLB, kw, ⟨hne, F⟩ | ⟨hne, F⟩⟩
      · go_upto_region 11 with (first
          | refine wpList_load_row rfl 67 _ rfl P rfl _ _ _ _ D Try.underlying67 rfl (by rw [hi15, dsk_size]) ?_
          | (go_at_call 30; (with_reducible refine (kl _).mono ?_); rintro e w6 ⟨rfl, hb6⟩)
          | refine wpList_store_row rfl 43 _ _ rfl w6.heap.size cs rfl rfl _ _ (BlkAt.new w6 _ _) (by rw [hi10, hcs]) (by rw [hcs]; rfl) hc1 ?_)
        have LB : BlkAt _ w6.heap.size cs 43 := setRow_heap (w6.alloc (.cells #[.int .u32 0, .int .u32 0, .int .i64 0, .int .i64 0, .int .i64 0, .int .i64 0, .int .i64 0, .int .i64 0, .int .i64 0, .bool false] 43)) w6.heap.size _ cs 43 (0, 0) (BlkAt.new w6 _ _)
        have hb7 : Below w.heap.size w ((w6.alloc (.cells #[.int .u32 0, .int .u32 0, .int .i64 0, .int .i64 0, .int .i64 0, .int .i64 0, .int .i64 0, .int .i64 0, .int .i64 0, .bool false] 43)).setRow w6.heap.size cs) := below_setRow ((hb.trans (hb6.mono hb.size)).alloc (Nat.le_trans hb.size hb6.size) _) (Nat.le_trans hb.size hb6.size) _
        have Z7 : BlkAt ((w6.alloc (.cells #[.int .u32 0, .int .u32 0, .int .i64 0, .int .i64 0, .int .i64 0, .int .i64 0, .int .i64 0, .int .i64 0, .int .i64 0, .bool false] 43)).setRow w6.heap.size cs) w.heap.size #[.int .u32 0, .int .u32 0, .int .i64 0, .int .i64 0, .int .i64 0, .int .i64 0, .int .i64 0, .int .i64 0, .int .i64 0, .bool false] 43 := by
          have q := (Z.below hb6 (Nat.le_refl _)).lt
          exact (Z.below (below_setRow (hb6.alloc hb6.size (.cells #[.int .u32 0, .int .u32 0, .int .i64 0, .int .i64 0, .int .i64 0, .int .i64 0, .int .i64 0, .int .i64 0, .int .i64 0, .bool false] 43)) hb6.size cs) (Nat.le_refl _))
        generalize World.setRow _ _ _ = v7 at *
        generalize w6.heap.size = t at *
        clear hb6 D Z hb
        go_wp2_with (first
          | refine wpList_load_row rfl 43 _ rfl t rfl _ _ _ _ LB Try.underlying43 rfl (by rw [hi10, hcs]) ?_
          | (go_at_call 18; (with_reducible refine (kw _).mono ?_); rintro e w8 ⟨rfl, hb8⟩; replace hb7 := hb7.trans (hb8.mono hb7.size); replace Z7 := Z7.below hb8 (Nat.le_refl _); replace LB := LB.below hb8 (Nat.le_refl _); clear hb8)
          | refine wpList_store_row rfl 43 _ _ rfl w.heap.size #[.int .u32 0, .int .u32 0, .int .i64 0, .int .i64 0, .int .i64 0, .int .i64 0, .int .i64 0, .int .i64 0, .int .i64 0, .bool false] rfl rfl _ _ Z7 (by rw [hi10]; rfl) (rfl) (by simp [Value.oneCell']) ?_)
        have hg2 := setRow_heap _ w.heap.size _ #[.int .u32 0, .int .u32 0, .int .i64 0, .int .i64 0, .int .i64 0, .int .i64 0, .int .i64 0, .int .i64 0, .int .i64 0, .bool false] 43 (0, 0) Z7
        exact bodyPost_ret (v := .tuple #[.agg #[.int .u32 0, .int .u32 0, .int .i64 0, .int .i64 0, .int .i64 0, .int .i64 0, .int .i64 0, .int .i64 0, .int .i64 0, .bool false], .int .i64 90]) (results_cell_tmp (p := 2) (q := 3) (ty := 43) rfl _ _ w.heap.size _ #[.int .u32 0, .int .u32 0, .int .i64 0, .int .i64 0, .int .i64 0, .int .i64 0, .int .i64 0, .int .i64 0, .int .i64 0, .bool false] _ _ rfl hg2 Try.underlying43 (by rw [hi10]; rfl)) rfl ⟨by rw [F.out.1, F.out.2], below_setRow hb7 (Nat.le_refl _) _⟩

      · go_upto_region 11 with (first
          | refine wpList_load_row rfl 67 _ rfl P rfl _ _ _ _ D Try.underlying67 rfl (by rw [hi15, dsk_size]) ?_
          | (go_at_call 30; (with_reducible refine (kl _).mono ?_); rintro e w6 ⟨rfl, hb6⟩)
          | refine wpList_store_row rfl 43 _ _ rfl w6.heap.size cs rfl rfl _ _ (BlkAt.new w6 _ _) (by rw [hi10, hcs]) (by rw [hcs]; rfl) hc1 ?_)
        have LB : BlkAt _ w6.heap.size cs 43 := setRow_heap (w6.alloc (.cells #[.int .u32 0, .int .u32 0, .int .i64 0, .int .i64 0, .int .i64 0, .int .i64 0, .int .i64 0, .int .i64 0, .int .i64 0, .bool false] 43)) w6.heap.size _ cs 43 (0, 0) (BlkAt.new w6 _ _)
        have hb7 : Below w.heap.size w ((w6.alloc (.cells #[.int .u32 0, .int .u32 0, .int .i64 0, .int .i64 0, .int .i64 0, .int .i64 0, .int .i64 0, .int .i64 0, .int .i64 0, .bool false] 43)).setRow w6.heap.size cs) := below_setRow ((hb.trans (hb6.mono hb.size)).alloc (Nat.le_trans hb.size hb6.size) _) (Nat.le_trans hb.size hb6.size) _
        have Z7 : BlkAt ((w6.alloc (.cells #[.int .u32 0, .int .u32 0, .int .i64 0, .int .i64 0, .int .i64 0, .int .i64 0, .int .i64 0, .int .i64 0, .int .i64 0, .bool false] 43)).setRow w6.heap.size cs) w.heap.size #[.int .u32 0, .int .u32 0, .int .i64 0, .int .i64 0, .int .i64 0, .int .i64 0, .int .i64 0, .int .i64 0, .int .i64 0, .bool false] 43 := by
          have q := (Z.below hb6 (Nat.le_refl _)).lt
          exact (Z.below (below_setRow (hb6.alloc hb6.size (.cells #[.int .u32 0, .int .u32 0, .int .i64 0, .int .i64 0, .int .i64 0, .int .i64 0, .int .i64 0, .int .i64 0, .int .i64 0, .bool false] 43)) hb6.size cs) (Nat.le_refl _))
        generalize World.setRow _ _ _ = v7 at *
        generalize w6.heap.size = t at *
        clear hb6 D Z hb
        go_wp2_with (first
          | refine wpList_load_row rfl 43 _ rfl t rfl _ _ _ _ LB Try.underlying43 rfl (by rw [hi10, hcs]) ?_
          | (go_at_call 18; (with_reducible refine (kw _).mono ?_); rintro e w8 ⟨g8, hg8, rfl, hc8, hb8⟩; have hI8 := (hI.below hb7 (Nat.le_refl _)).below hb8 (Nat.le_refl _); replace hb7 := hb7.trans (hb8.mono hb7.size); replace Z7 := Z7.below hb8 (Nat.le_refl _); replace LB := LB.below hb8 (Nat.le_refl _); clear hb8)
          | (go_at_call 22; refine (bytes_equal _ _ _ _ _ _ L zs _ (Ints.ofCells hc8 hL (by omega) hLB) hI8).mono ?_; rw [hne]; rintro e w9 ⟨rfl, rfl⟩)
          | refine wpList_store_row rfl 43 _ _ rfl w.heap.size #[.int .u32 0, .int .u32 0, .int .i64 0, .int .i64 0, .int .i64 0, .int .i64 0, .int .i64 0, .int .i64 0, .int .i64 0, .bool false] rfl rfl _ _ Z7 (by rw [hi10]; rfl) (rfl) (by simp [Value.oneCell']) ?_)
        have hg2 := setRow_heap _ w.heap.size _ #[.int .u32 0, .int .u32 0, .int .i64 0, .int .i64 0, .int .i64 0, .int .i64 0, .int .i64 0, .int .i64 0, .int .i64 0, .bool false] 43 (0, 0) Z7
        exact bodyPost_ret (v := .tuple #[.agg #[.int .u32 0, .int .u32 0, .int .i64 0, .int .i64 0, .int .i64 0, .int .i64 0, .int .i64 0, .int .i64 0, .int .i64 0, .bool false], .int .i64 90]) (results_cell_tmp (p := 2) (q := 3) (ty := 43) rfl _ _ w.heap.size _ #[.int .u32 0, .int .u32 0, .int .i64 0, .int .i64 0, .int .i64 0, .int .i64 0, .int .i64 0, .int .i64 0, .int .i64 0, .bool false] _ _ rfl hg2 Try.underlying43 (by rw [hi10]; rfl)) rfl ⟨by rw [F.out.1, F.out.2], below_setRow hb7 (Nat.le_refl _) _⟩

      · go_upto_region 11 with (first
          | refine wpList_load_row rfl 67 _ rfl P rfl _ _ _ _ D Try.underlying67 rfl (by rw [hi15, dsk_size]) ?_
          | (go_at_call 30; (with_reducible refine (kl _).mono ?_); rintro e w6 ⟨rfl, hb6⟩)
          | refine wpList_store_row rfl 43 _ _ rfl w6.heap.size cs rfl rfl _ _ (BlkAt.new w6 _ _) (by rw [hi10, hcs]) (by rw [hcs]; rfl) hc1 ?_)
        have LB : BlkAt _ w6.heap.size cs 43 := setRow_heap (w6.alloc (.cells #[.int .u32 0, .int .u32 0, .int .i64 0, .int .i64 0, .int .i64 0, .int .i64 0, .int .i64 0, .int .i64 0, .int .i64 0, .bool false] 43)) w6.heap.size _ cs 43 (0, 0) (BlkAt.new w6 _ _)
        have hb7 : Below w.heap.size w ((w6.alloc (.cells #[.int .u32 0, .int .u32 0, .int .i64 0, .int .i64 0, .int .i64 0, .int .i64 0, .int .i64 0, .int .i64 0, .int .i64 0, .bool false] 43)).setRow w6.heap.size cs) := below_setRow ((hb.trans (hb6.mono hb.size)).alloc (Nat.le_trans hb.size hb6.size) _) (Nat.le_trans hb.size hb6.size) _
        have Z7 : BlkAt ((w6.alloc (.cells #[.int .u32 0, .int .u32 0, .int .i64 0, .int .i64 0, .int .i64 0, .int .i64 0, .int .i64 0, .int .i64 0, .int .i64 0, .bool false] 43)).setRow w6.heap.size cs) w.heap.size #[.int .u32 0, .int .u32 0, .int .i64 0, .int .i64 0, .int .i64 0, .int .i64 0, .int .i64 0, .int .i64 0, .int .i64 0, .bool false] 43 := by
          have q := (Z.below hb6 (Nat.le_refl _)).lt
          exact (Z.below (below_setRow (hb6.alloc hb6.size (.cells #[.int .u32 0, .int .u32 0, .int .i64 0, .int .i64 0, .int .i64 0, .int .i64 0, .int .i64 0, .int .i64 0, .int .i64 0, .bool false] 43)) hb6.size cs) (Nat.le_refl _))
        generalize World.setRow _ _ _ = v7 at *
        generalize w6.heap.size = t at *
        clear hb6 D Z hb
        go_wp2_with (first
          | refine wpList_load_row rfl 43 _ rfl t rfl _ _ _ _ LB Try.underlying43 rfl (by rw [hi10, hcs]) ?_
          | (go_at_call 18; (with_reducible refine (kw _).mono ?_); rintro e w8 ⟨g8, hg8, rfl, hc8, hb8⟩; have hI8 := (hI.below hb7 (Nat.le_refl _)).below hb8 (Nat.le_refl _); replace hb7 := hb7.trans (hb8.mono hb7.size); replace Z7 := Z7.below hb8 (Nat.le_refl _); replace LB := LB.below hb8 (Nat.le_refl _); clear hb8)
          | (go_at_call 22; refine (bytes_equal _ _ _ _ _ _ L zs _ (Ints.ofCells hc8 hL (by omega) hLB) hI8).mono ?_; rw [hne]; rintro e w9 ⟨rfl, rfl⟩)
          | refine wpList_store_row rfl 43 _ _ rfl w.heap.size cs rfl rfl _ _ Z7 (by rw [hi10]; rw [hcs]) (by rw [hcs]; rfl) (hc1) ?_)
        have hg2 := setRow_heap _ w.heap.size _ cs 43 (0, 0) Z7
        exact bodyPost_ret (v := .tuple #[.agg cs, .int .i64 0]) (results_cell_tmp (p := 2) (q := 3) (ty := 43) rfl _ _ w.heap.size _ cs _ _ rfl hg2 Try.underlying43 (by rw [hi10]; rw [hcs])) rfl ⟨by rw [F.out.1, F.out.2], below_setRow hb7 (Nat.le_refl _) _⟩


theorem takeN_pad (zs : List Int) (q k : Nat) : takeN (pad zs) q k = takeN zs q k := takeN_congr fun i _ => pad_getD _
theorem tookL_pad (zs : List Int) : tookL (pad zs) = tookL zs := by unfold tookL; simp only [takeN_pad]
theorem not_may_nil : ¬ MayL (tookL (pad [])) := by
  intro h
  have := h.1.1
  revert this
  decide
theorem labRead_text (a0 : Option Addr) (n0 c0 : Nat) (hm : n0 ≤ 9223372036854775807) (h0 : n0 ≠ 0) (h1 : n0 ≠ 128) (w : World) : Calls Try.prog 17 #[.slice a0 n0 c0] w fun e w' => e = .returned (.tuple #[labV zeroL, .int .i64 3]) ∧ Below w.heap.size w w' :=
  read_text a0 n0 c0 hm h0 h1 w
theorem labRead (a0 : Option Addr) (n0 c0 : Nat) (zs : List Int) (w : World) (hI : Ints .u8 w a0 n0 zs) (hn : n0 = 0 ∨ n0 = 128) : Calls Try.prog 17 #[.slice a0 n0 c0] w fun e w' => e = .returned (.tuple #[labV (readL (pad zs)), .int .i64 (readE (pad zs))]) ∧ Below w.heap.size w w' := by
  have hB := bytes_of hI
  have t4 : ∀ p, 0 ≤ takeN zs p 4 ∧ takeN zs p 4 ≤ 4294967295 := fun p => by have := takeN_in hB p 4; rw [pow_256.2.2.2.2] at this; omega
  have hw := took_wide (pad_bytes hB)
  have kl : ∀ W, Calls Try.prog 30 #[.agg (dskA zs 11)] W fun e w' => e = .returned (.agg (labA (tookL zs))) ∧ Below W.heap.size W w' := fun W => by
    rw [dsk_full]
    exact label_calls 0 0 (takeN zs 9 1) (takeN zs 10 1) (takeN zs 11 1) (takeN zs 12 1) (takeN zs 13 1) 0 (takeN zs 15 1) false (takeN zs 0 1) (takeN zs 1 4) (takeN zs 5 4) (takeN zs 14 1) (takeN zs 16 1) _ rfl (t4 1).1 (t4 1).2 (t4 5).1 (t4 5).2 W
  refine read_gen a0 n0 c0 zs w hI hn (labA (tookL zs)) (labA (readL (pad zs))) (readE (pad zs)) rfl (by simp [labA, Value.oneCell']) kl ?_
  rw [tookL_pad] at hw
  by_cases hM : MayL (tookL zs)
  · have hn0 : n0 = 128 := by
      rcases hn with q | q
      · have : zs = [] := List.length_eq_zero_iff.1 (hI.len.trans q)
        subst this
        exact absurd (by rw [tookL_pad]; exact hM) not_may_nil
      · exact q
    have hp : pad zs = zs := pad_whole (hI.len.trans hn0)
    refine .inr ⟨blockL (tookL zs), block_len _, block_bytes _, fun W => labWrite_ok hw hM W, ?_⟩
    by_cases hE : blockL (tookL zs) = zs
    · refine .inr ⟨decide_eq_true hE, Lib.hid ?_⟩
      have : ReadsAs zs := ⟨hM, hE⟩
      rw [hp]
      unfold readL readE
      rw [if_pos this, if_pos this]
      exact ⟨rfl, rfl⟩
    · refine .inl ⟨decide_eq_false hE, Lib.hid ?_⟩
      have : ¬ ReadsAs zs := fun q => hE q.2
      rw [hp]
      unfold readL readE
      rw [if_neg this, if_neg this]
      exact ⟨rfl, rfl⟩
  · refine .inl ⟨Lib.hid ?_, fun W => labWrite_no hM W⟩
    have : ¬ ReadsAs (pad zs) := fun q => hM (by rw [← tookL_pad]; exact q.1)
    unfold readL readE
    rw [if_neg this, if_neg this]
    exact ⟨rfl, rfl⟩

end Go.Proofs.Ytcngonedcnddlaa
