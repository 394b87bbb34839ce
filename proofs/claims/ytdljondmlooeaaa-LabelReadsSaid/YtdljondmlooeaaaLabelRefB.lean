/- The walks of the document's own answer for layer 9: Block, Write, Read. -/
import Derived.Test.YtdljondmlooeaaaLabelRef
import Derived.Test.YtdljondmlooeaaaDiskStr
import Derived.Laws.OwnMore
import Derived.Deep.RegionHeld3
import Derived.Deep.Cut
namespace Go.Proofs.Ytdljondmlooeaaa
open Go.RowKit PolyM PackM ShapeM SealM LabelM
set_option linter.unusedVariables false

theorem own_keep {B : Nat} {e : TypeId} {k : Nat} {v : Value} {n : Nat} {xs : List Value} {w w' : World} (h : w.ownsRow B e k v n xs) (hb : Below w.heap.size w w') : w'.ownsRow B e k v n xs :=
  h.kept (row := none) ⟨hb.os, hb.tape, hb.output, hb.size, fun j hj _ => hb.block j hj⟩ (by cases hv : v.ownBlock <;> simp)
theorem BlkAt.grown {w w' : World} {g : Nat} {cs : Array Value} {t : TypeId} {row : Option Nat} (h : BlkAt w g cs t) (hg : w.grownBy w' row) (hne : some g ≠ row) : BlkAt w' g cs t := by
  have := h.lt
  unfold BlkAt at *
  rw [hg.block g this hne]
  exact h
theorem four_bytes {n : Int} (h0 : 0 ≤ n) (h1 : n ≤ 4294967295) : Bytes (fourL n) := by
  intro z hz
  simp only [fourL, List.mem_cons, List.not_mem_nil, or_false] at hz
  rcases hz with rfl | rfl | rfl | rfl <;> omega
theorem u8_inf : ∃ i, Try.prog.info? 5 = some i ∧ i.zero = some (.int .u8 0) ∧ i.size = 1 ∧ i.bytes = 1 :=
  info_parts (show (Try.prog.info? 5).map (fun i => (i.zero, i.size, i.bytes)) = some (some (.int .u8 0), 1, 1) by kernel_rfl)

theorem text_ints {w : World} {A : Option Addr} {n : Nat} {xs : List Value} {zs : List Int} (h : Row w 1 A n xs) (hn : n = zs.length ∧ xs = zs.map (Value.int .u8) ∧ n ≤ 1000) (hB : Bytes zs) : Ints .u8 w A n zs := by
  obtain ⟨h1, h2, h3⟩ := hn
  exact Ints.ofRow (by rw [← h2]; exact h) (by omega) fun z hz => WalkArith.wf_u8 (hB z hz)
def text9 (id ev m ch ro lo me r dn q : Int) : List Int := [76] ++ fourL id ++ fourL ev ++ [m, ch, ro, lo, me, r, dn, q]
set_option maxRecDepth 100000 in
set_option maxHeartbeats 4000000 in
theorem block_gen (id ev m ch ro lo me lst dn : Int) (op : Bool) (r : Int) (hr : (0 ≤ lst ∧ Hid (r = lst)) ∨ (lst < 0 ∧ Hid (r = 255)))
    (h0 : 0 ≤ id) (h1 : id ≤ 4294967295) (h2 : 0 ≤ ev) (h3 : ev ≤ 4294967295) (m0 : 0 ≤ m) (m1 : m ≤ 255) (ch0 : 0 ≤ ch) (ch1 : ch ≤ 255) (ro0 : 0 ≤ ro) (ro1 : ro ≤ 255) (lo0 : 0 ≤ lo) (lo1 : lo ≤ 255) (me0 : 0 ≤ me) (me1 : me ≤ 255) (ls1 : lst ≤ 255) (dn0 : 0 ≤ dn) (dn1 : dn ≤ 255)
    (w : World) : Calls Try.prog 29 #[.agg #[.int .u32 id, .int .u32 ev, .int .i64 m, .int .i64 ch, .int .i64 ro, .int .i64 lo, .int .i64 me, .int .i64 lst, .int .i64 dn, .bool op]] w (NewBlk w (sealL (pad (text9 id ev m ch ro lo me r dn (opn op))))) := by
  obtain ⟨i0, hi0, hz0, hz1, hz2⟩ := u8_inf
  have em : IntKind.u8.wrap m = m := IntWalk.u8_in _ (by omega)
  have ech : IntKind.u8.wrap ch = ch := IntWalk.u8_in _ (by omega)
  have ero : IntKind.u8.wrap ro = ro := IntWalk.u8_in _ (by omega)
  have elo : IntKind.u8.wrap lo = lo := IntWalk.u8_in _ (by omega)
  have eme : IntKind.u8.wrap me = me := IntWalk.u8_in _ (by omega)
  have edn : IntKind.u8.wrap dn = dn := IntWalk.u8_in _ (by omega)
  have ki := fun W => four_calls id h0 h1 W
  have ke := fun W => four_calls ev h2 h3 W
  have B := BlkAt.new w #[.int .u32 id, .int .u32 ev, .int .i64 m, .int .i64 ch, .int .i64 ro, .int .i64 lo, .int .i64 me, .int .i64 lst, .int .i64 dn, .bool op] 28
  have hb : Below w.heap.size w (w.alloc (.cells #[.int .u32 id, .int .u32 ev, .int .i64 m, .int .i64 ch, .int .i64 ro, .int .i64 lo, .int .i64 me, .int .i64 lst, .int .i64 dn, .bool op] 28 (0, 0))) := (Below.refl _ _).alloc (Nat.le_refl _) _
  go_enter Try.func29, Try.ntmps29
  go_upto_region 2 with fail
  have own0 : ((w.alloc (.cells #[.int .u32 id, .int .u32 ev, .int .i64 m, .int .i64 ch, .int .i64 ro, .int .i64 lo, .int .i64 me, .int .i64 lst, .int .i64 dn, .bool op] 28)).alloc (.cells #[.int .u8 76] 5)).ownsRow (w.heap.size + 1) 5 1 (.slice (some ⟨w.heap.size + 1, 0, none⟩) 1 1) 1 [.int .u8 76] := by
    have := World.ownsRow_lit (base := w.heap.size + 1) (e := 5) (size := 1) (w.alloc (.cells #[.int .u32 id, .int .u32 ev, .int .i64 m, .int .i64 ch, .int .i64 ro, .int .i64 lo, .int .i64 me, .int .i64 lst, .int .i64 dn, .bool op] 28)) #[.int .u8 76] 1 (by simp) (by simp only [maxLen]; omega) rfl
    rwa [World.size_alloc] at this
  replace B := B.alloc (.cells #[.int .u8 76] 5)
  replace hb := hb.alloc hb.size (.cells #[.int .u8 76] 5)
  generalize World.alloc _ _ = v1 at *
  have b0 := B.cell 0
  have hs0 : w.heap.size + 1 ≤ v1.heap.size := by have := B.lt; omega
  go_upto_region 3 with (first
    | (go_at_call 52; (with_reducible refine (ki _).mono ?_); rintro e w1 ⟨g1, hg1, rfl, hc1, hb1⟩)
    | (at_builtin; refine wpList_append_row _ rfl (.tmp 7) (.tmp 10) _ rfl (w.heap.size + 1) 5 i0 _ 1 1 Try.underlying22 hi0 hz0 hz1 hz2 rfl (by omega) _ _ _ rfl (own_keep own0 hb1) _ _ _ _ rfl ((Ints.ofCells (n := 4) hc1 rfl (by omega) (four_bytes h0 h1)).toRow) (by simp [Value.oneCell']) (by simp only [maxLen]; omega) (by omega) (Nat.le_trans hs0 hb1.size) ?_; intro v2 w2 own2 hg2 _))
  replace B := (B.below hb1 (Nat.le_refl _)).grown hg2 (by intro e; have := ((own_keep own0 hb1).lt _ e.symm).1; omega)
  replace hb := (hb.trans (hb1.mono hb.size)).grown hg2 (Nat.le_trans hb.size hb1.size) (fun q hq => by have := ((own_keep own0 hb1).lt q hq).1; omega)
  have hs2 : w.heap.size + 1 ≤ w2.heap.size := by have := B.lt; omega
  clear own0 hg2 hb1 hc1 hg1 b0 hs0
  have b1 := B.cell 1
  go_upto_region 4 with (first
    | (go_at_call 52; (with_reducible refine (ke _).mono ?_); rintro e w3 ⟨g3, hg3, rfl, hc3, hb3⟩)
    | (at_builtin; refine wpList_append_row _ rfl (.tmp 12) (.tmp 15) _ rfl (w.heap.size + 1) 5 i0 _ 1 1 Try.underlying22 hi0 hz0 hz1 hz2 rfl (by omega) _ _ _ rfl (own_keep own2 hb3) _ _ _ _ rfl ((Ints.ofCells (n := 4) hc3 rfl (by omega) (four_bytes h2 h3)).toRow) (by simp [Value.oneCell']) (by simp only [maxLen]; omega) (by omega) (Nat.le_trans hs2 hb3.size) ?_; intro v4 w4 own4 hg4 _))
  replace B := (B.below hb3 (Nat.le_refl _)).grown hg4 (by intro e; have := ((own_keep own2 hb3).lt _ e.symm).1; omega)
  replace hb := (hb.trans (hb3.mono hb.size)).grown hg4 (Nat.le_trans hb.size hb3.size) (fun q hq => by have := ((own_keep own2 hb3).lt q hq).1; omega)
  have hs4 : w.heap.size + 1 ≤ w4.heap.size := by have := B.lt; omega
  clear own2 hg4 hb3 hc3 hg3 b1 hs2
  have b7 := B.cell 7
  have b9 := B.cell 9
  rcases hr with ⟨q, F⟩ | ⟨q, F⟩ <;> cases op
  · go_upto_region 9 with fail
    clear b7 b9
    have b2 := B.cell 2
    have b3 := B.cell 3
    have b4 := B.cell 4
    have b5 := B.cell 5
    have b6 := B.cell 6
    have b8 := B.cell 8
    have er : IntKind.u8.wrap lst = lst := IntWalk.u8_in _ (by omega)
    have own5 := own4.alloc (.cells #[.int .u8 m, .int .u8 ch, .int .u8 ro, .int .u8 lo, .int .u8 me, .int .u8 lst, .int .u8 dn, .int .u8 0] 5)
    have hb5 := hb.alloc hb.size (.cells #[.int .u8 m, .int .u8 ch, .int .u8 ro, .int .u8 lo, .int .u8 me, .int .u8 lst, .int .u8 dn, .int .u8 0] 5)
    have ra := (Ints.ofCells (n := 8) (w := w4.alloc (.cells #[.int .u8 m, .int .u8 ch, .int .u8 ro, .int .u8 lo, .int .u8 me, .int .u8 lst, .int .u8 dn, .int .u8 0] 5)) (zs := [m, ch, ro, lo, me, lst, dn, 0]) (heap_alloc_new _ _) rfl (by omega) (by intro z hz; simp only [List.mem_cons, List.not_mem_nil, or_false] at hz; rcases hz with rfl | rfl | rfl | rfl | rfl | rfl | rfl | rfl <;> omega)).toRow
    have hs5 : w.heap.size + 1 ≤ (w4.alloc (.cells #[.int .u8 m, .int .u8 ch, .int .u8 ro, .int .u8 lo, .int .u8 me, .int .u8 lst, .int .u8 dn, .int .u8 0] 5)).heap.size := by rw [World.size_alloc]; omega
    have hby : Bytes (text9 id ev m ch ro lo me lst dn 0) := by
      intro z hz
      simp only [text9, List.mem_append, List.mem_cons, List.not_mem_nil, or_false] at hz
      rcases hz with ((rfl | hz) | hz) | hz
      · omega
      · exact four_bytes h0 h1 z hz
      · exact four_bytes h2 h3 z hz
      · rcases hz with rfl | rfl | rfl | rfl | rfl | rfl | rfl | rfl <;> omega
    go_wp2_with (first
      | (at_builtin; refine wpList_append_row _ rfl (.tmp 24) (.tmp 47) _ rfl (w.heap.size + 1) 5 i0 _ 1 1 Try.underlying22 hi0 hz0 hz1 hz2 rfl (by omega) _ _ _ rfl own5 _ _ _ _ rfl ra (by simp [Value.oneCell']) (by simp only [maxLen]; omega) (by omega) hs5 ?_; intro v6 w6 own6 hg6 _; have hb7 := hb5.grown hg6 hb5.size (fun q hq => by have := (own5.lt q hq).1; omega); obtain ⟨A6, C6, rfl, hA6, ro6, _⟩ := own_form own6; have I6 := text_ints (zs := text9 id ev m ch ro lo me lst dn 0) ro6 ⟨rfl, rfl, by omega⟩ hby)
      | (go_at_call 53; refine (sealed_calls _ _ _ _ _ I6 (by omega)).mono ?_; rintro e w8 ⟨g8, hg8, rfl, hc8, hb8⟩))
    go_ret
    have h9 := hb7.trans (hb8.mono hb7.size)
    have h10 := Nat.le_trans hb7.size hg8
    exact ⟨g8, h10, rfl, by rw [F.out]; exact hc8, h9⟩
  · go_upto_region 9 with fail
    clear b7 b9
    have b2 := B.cell 2
    have b3 := B.cell 3
    have b4 := B.cell 4
    have b5 := B.cell 5
    have b6 := B.cell 6
    have b8 := B.cell 8
    have er : IntKind.u8.wrap lst = lst := IntWalk.u8_in _ (by omega)
    have own5 := own4.alloc (.cells #[.int .u8 m, .int .u8 ch, .int .u8 ro, .int .u8 lo, .int .u8 me, .int .u8 lst, .int .u8 dn, .int .u8 1] 5)
    have hb5 := hb.alloc hb.size (.cells #[.int .u8 m, .int .u8 ch, .int .u8 ro, .int .u8 lo, .int .u8 me, .int .u8 lst, .int .u8 dn, .int .u8 1] 5)
    have ra := (Ints.ofCells (n := 8) (w := w4.alloc (.cells #[.int .u8 m, .int .u8 ch, .int .u8 ro, .int .u8 lo, .int .u8 me, .int .u8 lst, .int .u8 dn, .int .u8 1] 5)) (zs := [m, ch, ro, lo, me, lst, dn, 1]) (heap_alloc_new _ _) rfl (by omega) (by intro z hz; simp only [List.mem_cons, List.not_mem_nil, or_false] at hz; rcases hz with rfl | rfl | rfl | rfl | rfl | rfl | rfl | rfl <;> omega)).toRow
    have hs5 : w.heap.size + 1 ≤ (w4.alloc (.cells #[.int .u8 m, .int .u8 ch, .int .u8 ro, .int .u8 lo, .int .u8 me, .int .u8 lst, .int .u8 dn, .int .u8 1] 5)).heap.size := by rw [World.size_alloc]; omega
    have hby : Bytes (text9 id ev m ch ro lo me lst dn 1) := by
      intro z hz
      simp only [text9, List.mem_append, List.mem_cons, List.not_mem_nil, or_false] at hz
      rcases hz with ((rfl | hz) | hz) | hz
      · omega
      · exact four_bytes h0 h1 z hz
      · exact four_bytes h2 h3 z hz
      · rcases hz with rfl | rfl | rfl | rfl | rfl | rfl | rfl | rfl <;> omega
    go_wp2_with (first
      | (at_builtin; refine wpList_append_row _ rfl (.tmp 24) (.tmp 47) _ rfl (w.heap.size + 1) 5 i0 _ 1 1 Try.underlying22 hi0 hz0 hz1 hz2 rfl (by omega) _ _ _ rfl own5 _ _ _ _ rfl ra (by simp [Value.oneCell']) (by simp only [maxLen]; omega) (by omega) hs5 ?_; intro v6 w6 own6 hg6 _; have hb7 := hb5.grown hg6 hb5.size (fun q hq => by have := (own5.lt q hq).1; omega); obtain ⟨A6, C6, rfl, hA6, ro6, _⟩ := own_form own6; have I6 := text_ints (zs := text9 id ev m ch ro lo me lst dn 1) ro6 ⟨rfl, rfl, by omega⟩ hby)
      | (go_at_call 53; refine (sealed_calls _ _ _ _ _ I6 (by omega)).mono ?_; rintro e w8 ⟨g8, hg8, rfl, hc8, hb8⟩))
    go_ret
    have h9 := hb7.trans (hb8.mono hb7.size)
    have h10 := Nat.le_trans hb7.size hg8
    exact ⟨g8, h10, rfl, by rw [F.out]; exact hc8, h9⟩
  · go_upto_region 9 with fail
    clear b7 b9
    have b2 := B.cell 2
    have b3 := B.cell 3
    have b4 := B.cell 4
    have b5 := B.cell 5
    have b6 := B.cell 6
    have b8 := B.cell 8
    have er : IntKind.u8.wrap 255 = 255 := IntWalk.u8_in _ (by omega)
    have own5 := own4.alloc (.cells #[.int .u8 m, .int .u8 ch, .int .u8 ro, .int .u8 lo, .int .u8 me, .int .u8 255, .int .u8 dn, .int .u8 0] 5)
    have hb5 := hb.alloc hb.size (.cells #[.int .u8 m, .int .u8 ch, .int .u8 ro, .int .u8 lo, .int .u8 me, .int .u8 255, .int .u8 dn, .int .u8 0] 5)
    have ra := (Ints.ofCells (n := 8) (w := w4.alloc (.cells #[.int .u8 m, .int .u8 ch, .int .u8 ro, .int .u8 lo, .int .u8 me, .int .u8 255, .int .u8 dn, .int .u8 0] 5)) (zs := [m, ch, ro, lo, me, 255, dn, 0]) (heap_alloc_new _ _) rfl (by omega) (by intro z hz; simp only [List.mem_cons, List.not_mem_nil, or_false] at hz; rcases hz with rfl | rfl | rfl | rfl | rfl | rfl | rfl | rfl <;> omega)).toRow
    have hs5 : w.heap.size + 1 ≤ (w4.alloc (.cells #[.int .u8 m, .int .u8 ch, .int .u8 ro, .int .u8 lo, .int .u8 me, .int .u8 255, .int .u8 dn, .int .u8 0] 5)).heap.size := by rw [World.size_alloc]; omega
    have hby : Bytes (text9 id ev m ch ro lo me 255 dn 0) := by
      intro z hz
      simp only [text9, List.mem_append, List.mem_cons, List.not_mem_nil, or_false] at hz
      rcases hz with ((rfl | hz) | hz) | hz
      · omega
      · exact four_bytes h0 h1 z hz
      · exact four_bytes h2 h3 z hz
      · rcases hz with rfl | rfl | rfl | rfl | rfl | rfl | rfl | rfl <;> omega
    go_wp2_with (first
      | (at_builtin; refine wpList_append_row _ rfl (.tmp 24) (.tmp 47) _ rfl (w.heap.size + 1) 5 i0 _ 1 1 Try.underlying22 hi0 hz0 hz1 hz2 rfl (by omega) _ _ _ rfl own5 _ _ _ _ rfl ra (by simp [Value.oneCell']) (by simp only [maxLen]; omega) (by omega) hs5 ?_; intro v6 w6 own6 hg6 _; have hb7 := hb5.grown hg6 hb5.size (fun q hq => by have := (own5.lt q hq).1; omega); obtain ⟨A6, C6, rfl, hA6, ro6, _⟩ := own_form own6; have I6 := text_ints (zs := text9 id ev m ch ro lo me 255 dn 0) ro6 ⟨rfl, rfl, by omega⟩ hby)
      | (go_at_call 53; refine (sealed_calls _ _ _ _ _ I6 (by omega)).mono ?_; rintro e w8 ⟨g8, hg8, rfl, hc8, hb8⟩))
    go_ret
    have h9 := hb7.trans (hb8.mono hb7.size)
    have h10 := Nat.le_trans hb7.size hg8
    exact ⟨g8, h10, rfl, by rw [F.out]; exact hc8, h9⟩
  · go_upto_region 9 with fail
    clear b7 b9
    have b2 := B.cell 2
    have b3 := B.cell 3
    have b4 := B.cell 4
    have b5 := B.cell 5
    have b6 := B.cell 6
    have b8 := B.cell 8
    have er : IntKind.u8.wrap 255 = 255 := IntWalk.u8_in _ (by omega)
    have own5 := own4.alloc (.cells #[.int .u8 m, .int .u8 ch, .int .u8 ro, .int .u8 lo, .int .u8 me, .int .u8 255, .int .u8 dn, .int .u8 1] 5)
    have hb5 := hb.alloc hb.size (.cells #[.int .u8 m, .int .u8 ch, .int .u8 ro, .int .u8 lo, .int .u8 me, .int .u8 255, .int .u8 dn, .int .u8 1] 5)
    have ra := (Ints.ofCells (n := 8) (w := w4.alloc (.cells #[.int .u8 m, .int .u8 ch, .int .u8 ro, .int .u8 lo, .int .u8 me, .int .u8 255, .int .u8 dn, .int .u8 1] 5)) (zs := [m, ch, ro, lo, me, 255, dn, 1]) (heap_alloc_new _ _) rfl (by omega) (by intro z hz; simp only [List.mem_cons, List.not_mem_nil, or_false] at hz; rcases hz with rfl | rfl | rfl | rfl | rfl | rfl | rfl | rfl <;> omega)).toRow
    have hs5 : w.heap.size + 1 ≤ (w4.alloc (.cells #[.int .u8 m, .int .u8 ch, .int .u8 ro, .int .u8 lo, .int .u8 me, .int .u8 255, .int .u8 dn, .int .u8 1] 5)).heap.size := by rw [World.size_alloc]; omega
    have hby : Bytes (text9 id ev m ch ro lo me 255 dn 1) := by
      intro z hz
      simp only [text9, List.mem_append, List.mem_cons, List.not_mem_nil, or_false] at hz
      rcases hz with ((rfl | hz) | hz) | hz
      · omega
      · exact four_bytes h0 h1 z hz
      · exact four_bytes h2 h3 z hz
      · rcases hz with rfl | rfl | rfl | rfl | rfl | rfl | rfl | rfl <;> omega
    go_wp2_with (first
      | (at_builtin; refine wpList_append_row _ rfl (.tmp 24) (.tmp 47) _ rfl (w.heap.size + 1) 5 i0 _ 1 1 Try.underlying22 hi0 hz0 hz1 hz2 rfl (by omega) _ _ _ rfl own5 _ _ _ _ rfl ra (by simp [Value.oneCell']) (by simp only [maxLen]; omega) (by omega) hs5 ?_; intro v6 w6 own6 hg6 _; have hb7 := hb5.grown hg6 hb5.size (fun q hq => by have := (own5.lt q hq).1; omega); obtain ⟨A6, C6, rfl, hA6, ro6, _⟩ := own_form own6; have I6 := text_ints (zs := text9 id ev m ch ro lo me 255 dn 1) ro6 ⟨rfl, rfl, by omega⟩ hby)
      | (go_at_call 53; refine (sealed_calls _ _ _ _ _ I6 (by omega)).mono ?_; rintro e w8 ⟨g8, hg8, rfl, hc8, hb8⟩))
    go_ret
    have h9 := hb7.trans (hb8.mono hb7.size)
    have h10 := Nat.le_trans hb7.size hg8
    exact ⟨g8, h10, rfl, by rw [F.out]; exact hc8, h9⟩

theorem labBlock {l : Lab} (hw : WideL l) (h : MayL l) (w : World) : Calls Try.prog 29 #[labV l] w (NewBlk w (blockL l)) := by
  have b := may_box hw h
  have hx : (0 ≤ l.lost ∧ Hid (who l.lost = l.lost)) ∨ (l.lost < 0 ∧ Hid (who l.lost = 255)) := by
    unfold who
    by_cases q : l.lost = -1
    · exact .inr ⟨by omega, by refine Lib.hid ?_; rw [if_pos q]⟩
    · exact .inl ⟨by omega, by refine Lib.hid ?_; rw [if_neg q]⟩
  have e : blockL l = sealL (pad (textL l)) := by rw [text_body hw h]; rfl
  rw [e]
  exact block_gen l.id l.ev l.mem l.chunk l.rows l.log l.me l.lost l.done l.op (who l.lost) hx b.1.1 b.1.2 b.2.1.1 (by omega) (by omega) (by omega) (by omega) (by omega) (by omega) (by omega) (by omega) (by omega) (by omega) (by omega) (by omega) (by omega) (by omega) w

set_option maxRecDepth 100000 in
set_option maxHeartbeats 4000000 in
theorem write9_ok (cs : Array Value) (hcs : cs.size = 10) (L : List Int) (hm : ∀ W, Calls Try.prog 28 #[.agg cs] W fun e w' => e = .returned (.bool true) ∧ Below W.heap.size W w') (kb : ∀ W, Calls Try.prog 29 #[.agg cs] W (NewBlk W L)) (w : World) : Calls Try.prog 15 #[.agg cs] w fun e w' => ∃ g, w.heap.size ≤ g ∧ e = .returned (.tuple #[.slice (some ⟨g, 0, none⟩) 128 128, .int .i64 0]) ∧ w'.heap[g]? = some (.cells (cells L) 5 (0, 0)) ∧ Below w.heap.size w w' := by
  have B := BlkAt.new w cs 28
  have hb : Below w.heap.size w (w.alloc (.cells cs 28 (0, 0))) := (Below.refl _ _).alloc (Nat.le_refl _) _
  have hi10 := (zero_of_info label_size).2
  go_enter Try.func15, Try.ntmps15
  go_wp2_with (first
    | refine wpList_load_row rfl 28 _ rfl w.heap.size rfl _ _ _ _ B Try.underlying28 rfl (by rw [hi10, hcs]) ?_
    | (go_at_call 28; refine (hm _).mono ?_; rintro e w2 ⟨rfl, hb2⟩; replace hb := hb.trans (hb2.mono hb.size); replace B := B.below hb2 (Nat.le_refl _))
    | (go_at_call 29; refine (kb _).mono ?_; rintro e w3 ⟨g, hg, rfl, hc, hb3⟩))
  go_ret2
  have h1 := Nat.le_trans hb.size hg
  have h2 := hb.trans (hb3.mono hb.size)
  exact ⟨g, h1, rfl, hc, h2⟩
set_option maxRecDepth 100000 in
set_option maxHeartbeats 4000000 in
theorem write9_no (cs : Array Value) (hcs : cs.size = 10) (hm : ∀ W, Calls Try.prog 28 #[.agg cs] W fun e w' => e = .returned (.bool false) ∧ Below W.heap.size W w') (w : World) : Calls Try.prog 15 #[.agg cs] w fun e w' => e = .returned (.tuple #[.slice none 0 0, .int .i64 8]) ∧ Below w.heap.size w w' := by
  have B := BlkAt.new w cs 28
  have hb : Below w.heap.size w (w.alloc (.cells cs 28 (0, 0))) := (Below.refl _ _).alloc (Nat.le_refl _) _
  have hi10 := (zero_of_info label_size).2
  go_enter Try.func15, Try.ntmps15
  go_wp2_with (first
    | refine wpList_load_row rfl 28 _ rfl w.heap.size rfl _ _ _ _ B Try.underlying28 rfl (by rw [hi10, hcs]) ?_
    | (go_at_call 28; refine (hm _).mono ?_; rintro e w2 ⟨rfl, hb2⟩; replace hb := hb.trans (hb2.mono hb.size); replace B := B.below hb2 (Nat.le_refl _)))
  go_ret2
  exact ⟨rfl, hb⟩
theorem labWriteR_ok {l : Lab} (hw : WideL l) (h : MayL l) (w : World) : Calls Try.prog 15 #[labV l] w fun e w' => ∃ g, w.heap.size ≤ g ∧ e = .returned (.tuple #[.slice (some ⟨g, 0, none⟩) 128 128, .int .i64 0]) ∧ w'.heap[g]? = some (.cells (cells (blockL l)) 5 (0, 0)) ∧ Below w.heap.size w w' :=
  write9_ok _ rfl _ (fun W => by have := labMay l W; rw [decide_eq_true h] at this; exact this) (fun W => labBlock hw h W) w
theorem labWriteR_no {l : Lab} (h : ¬ MayL l) (w : World) : Calls Try.prog 15 #[labV l] w fun e w' => e = .returned (.tuple #[.slice none 0 0, .int .i64 8]) ∧ Below w.heap.size w w' :=
  write9_no _ rfl (fun W => by have := labMay l W; rw [decide_eq_false h] at this; exact this) w

end Go.Proofs.Ytdljondmlooeaaa
